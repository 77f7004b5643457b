/-
  Shifts of rows as numbers: plain arithmetic, no program.
-/
import Derived.Test.YtnkjfandknndkaaMath
namespace Go.Proofs.Ytnkjfandknndkaa

theorem BB_pow : BB = 2 ^ 64 := by unfold BB; rfl

/-- A power of 2 and what is left of a limb. -/
theorem split_BB {r : Nat} (h : r ≤ 64) : (2 : Int) ^ r * 2 ^ (64 - r) = BB := by
  rw [BB_pow, ← Int.pow_add]
  congr 1
  omega
theorem two_pos (r : Nat) : (0 : Int) < 2 ^ r := Int.pow_pos (by omega)

theorem mul_div_BB {x : Int} {r : Nat} (h : r ≤ 64) : x * 2 ^ r / BB = x / 2 ^ (64 - r) := by
  rw [← split_BB h, Int.mul_comm x, Int.mul_ediv_mul_of_pos _ _ (two_pos r)]

/-- The first k limbs of a row with p limbs of 0 below it, as a number. -/
def pvu (xs : List Int) (p : Nat) : Nat → Int
  | 0 => 0
  | k + 1 => pvu xs p k + lim xs ((k : Int) - p) * BB ^ k

theorem pvu_low (xs : List Int) (p k : Nat) (h : k ≤ p) : pvu xs p k = 0 := by
  induction k with
  | zero => rfl
  | succ k ih => rw [pvu, ih (by omega), lim_neg _ _ (by omega)]; simp

theorem pvu_high (xs : List Int) (p k : Nat) : pvu xs p (p + k) = pv xs k * BB ^ p := by
  induction k with
  | zero => rw [Nat.add_zero, pvu_low _ _ _ (Nat.le_refl _), pv]; simp
  | succ k ih =>
    rw [← Nat.add_assoc, pvu, ih, pv, show ((p + k : Nat) : Int) - p = (k : Int) by omega, Nat.add_comm p k, pw_add]
    grind

/-- One limb of a row shifted up by l limbs and r bits. -/
def upv (xs : List Int) (l r : Nat) (i : Int) : Int := lim xs (i - l) * 2 ^ r % BB + lim xs (i - l - 1) / 2 ^ (64 - r)

theorem up_step {v x y q P : Int} {r : Nat} (hr : r ≤ 64) (h : v + y / 2 ^ (64 - r) * P = 2 ^ r * q) :
    v + (x * 2 ^ r % BB + y / 2 ^ (64 - r)) * P + x / 2 ^ (64 - r) * (P * BB) = 2 ^ r * (q + x * P) := by
  have h1 := Int.emod_add_mul_ediv (x * 2 ^ r) BB
  rw [mul_div_BB hr] at h1
  have h2 : (x * 2 ^ r % BB + BB * (x / 2 ^ (64 - r))) * P = x * 2 ^ r * P := by rw [h1]
  grind

theorem upv_bd {xs : List Int} (hx : Limbs xs) (l : Nat) {r : Nat} (hr : r ≤ 63) (i : Int) : 0 ≤ upv xs l r i ∧ upv xs l r i < BB ∧ lim xs (i - l) * 2 ^ r % BB % 2 ^ r = 0 ∧ 0 ≤ lim xs (i - l - 1) / 2 ^ (64 - r) ∧ lim xs (i - l - 1) / 2 ^ (64 - r) < 2 ^ r := by
  have b2 := lim_bd hx (i - l - 1)
  have hK := two_pos (64 - r)
  have hM := two_pos r
  have hs := split_BB (show r ≤ 64 by omega)
  have a1 : 0 ≤ lim xs (i - l - 1) / 2 ^ (64 - r) := Int.ediv_nonneg b2.1 (Int.le_of_lt hK)
  have a2 : lim xs (i - l - 1) / 2 ^ (64 - r) < 2 ^ r := by
    apply Int.ediv_lt_of_lt_mul hK
    rw [hs]; exact b2.2
  have a3 : lim xs (i - l) * 2 ^ r % BB % 2 ^ r = 0 := by
    rw [Int.emod_emod_of_dvd _ ⟨2 ^ (64 - r), hs.symm⟩]
    simp
  have a4 : 0 ≤ lim xs (i - l) * 2 ^ r % BB := Int.emod_nonneg _ (by have := BB_pos; omega)
  have a5 : lim xs (i - l) * 2 ^ r % BB < BB := Int.emod_lt_of_pos _ BB_pos
  refine ⟨by unfold upv; omega, ?_, a3, a1, a2⟩
  unfold upv
  generalize lim xs (i - l) * 2 ^ r % BB = A at *
  have e : A = 2 ^ r * (A / 2 ^ r) := by have := Int.emod_add_mul_ediv A (2 ^ r); omega
  have l1 : A / 2 ^ r < 2 ^ (64 - r) := by
    apply Int.ediv_lt_of_lt_mul hM
    rw [Int.mul_comm, hs]; exact a5
  have l2 : A / 2 ^ r + 1 ≤ 2 ^ (64 - r) := l1
  have l3 := Int.mul_le_mul_of_nonneg_left l2 (Int.le_of_lt hM)
  rw [hs, Int.mul_add, Int.mul_one, ← e] at l3
  omega

/-- The limbs from l on, k of them, as a number. -/
def pvd (xs : List Int) (l : Nat) : Nat → Int
  | 0 => 0
  | k + 1 => pvd xs l k + lim xs ((k : Int) + l) * BB ^ k

theorem pvd_pv (xs : List Int) (l k : Nat) : pv xs (l + k) = pv xs l + BB ^ l * pvd xs l k := by
  induction k with
  | zero => simp [pvd]
  | succ k ih =>
    rw [← Nat.add_assoc, pv, ih, pvd, show ((l + k : Nat) : Int) = (k : Int) + l by omega, pw_add]
    grind

/-- One limb of a row shifted down by l limbs and r bits. -/
def dnv (xs : List Int) (l r : Nat) (i : Int) : Int := lim xs (i + l) / 2 ^ r + lim xs (i + l + 1) * 2 ^ (64 - r) % BB

theorem mul_mod_BB {x : Int} {r : Nat} (h : r ≤ 64) : x * 2 ^ (64 - r) % BB = x % 2 ^ r * 2 ^ (64 - r) := by
  rw [← split_BB h, Int.mul_comm x, Int.mul_comm (2 ^ r), Int.mul_emod_mul_of_pos _ _ (two_pos (64 - r)), Int.mul_comm]

theorem dn_step {v x y q P a : Int} {r : Nat} (hr : r ≤ 64) (h : 2 ^ r * v + a = q + x % 2 ^ r * P) :
    2 ^ r * (v + (x / 2 ^ r + y * 2 ^ (64 - r) % BB) * P) + a = (q + x * P) + y % 2 ^ r * (P * BB) := by
  rw [mul_mod_BB hr]
  have h1 := Int.emod_add_mul_ediv x (2 ^ r)
  have h2 : (x % 2 ^ r + 2 ^ r * (x / 2 ^ r)) * P = x * P := by rw [h1]
  have hs := split_BB hr
  have h3 : y % 2 ^ r * (P * BB) = y % 2 ^ r * (P * (2 ^ r * 2 ^ (64 - r))) := by rw [hs]
  rw [h3]
  grind

theorem dnv_bd {xs : List Int} (hx : Limbs xs) (l : Nat) {r : Nat} (hr : r ≤ 63) (i : Int) : 0 ≤ dnv xs l r i ∧ dnv xs l r i < BB ∧ lim xs (i + l + 1) * 2 ^ (64 - r) % BB % 2 ^ (64 - r) = 0 ∧ 0 ≤ lim xs (i + l) / 2 ^ r ∧ lim xs (i + l) / 2 ^ r < 2 ^ (64 - r) := by
  have b1 := lim_bd hx (i + l)
  have hK := two_pos (64 - r)
  have hM := two_pos r
  have hs := split_BB (show r ≤ 64 by omega)
  have a1 : 0 ≤ lim xs (i + l) / 2 ^ r := Int.ediv_nonneg b1.1 (Int.le_of_lt hM)
  have a2 : lim xs (i + l) / 2 ^ r < 2 ^ (64 - r) := by
    apply Int.ediv_lt_of_lt_mul hM
    rw [Int.mul_comm, hs]; exact b1.2
  have a3 : lim xs (i + l + 1) * 2 ^ (64 - r) % BB % 2 ^ (64 - r) = 0 := by
    rw [mul_mod_BB (by omega)]
    simp
  have a4 : lim xs (i + l + 1) * 2 ^ (64 - r) % BB = lim xs (i + l + 1) % 2 ^ r * 2 ^ (64 - r) := mul_mod_BB (by omega)
  have a5 : 0 ≤ lim xs (i + l + 1) % 2 ^ r := Int.emod_nonneg _ (by omega)
  have a6 : lim xs (i + l + 1) % 2 ^ r < 2 ^ r := Int.emod_lt_of_pos _ hM
  refine ⟨?_, ?_, a3, a1, a2⟩
  · unfold dnv
    rw [a4]
    have := Int.mul_nonneg a5 (Int.le_of_lt hK)
    omega
  · unfold dnv
    rw [a4]
    have l2 : lim xs (i + l + 1) % 2 ^ r + 1 ≤ 2 ^ r := a6
    have l3 := Int.mul_le_mul_of_nonneg_right l2 (Int.le_of_lt hK)
    rw [hs, Int.add_mul, Int.one_mul] at l3
    omega

theorem dn_end {v a q : Int} {r : Nat} (h : 2 ^ r * v + a = q) (h0 : 0 ≤ a) (h1 : a < 2 ^ r) : v = q / 2 ^ r := by
  rw [← h, Int.add_comm, Int.add_mul_ediv_left _ _ (by have := two_pos r; omega), Int.ediv_eq_zero_of_lt h0 h1]
  omega

theorem val_drop {xs : List Int} (hx : Limbs xs) (l k : Nat) (h : xs.length ≤ l + k) : pvd xs l k = val xs / BB ^ l := by
  have h1 := pvd_pv xs l k
  rw [pv_val xs _ h] at h1
  have b := pv_bd hx l
  rw [h1, Int.add_mul_ediv_left _ _ (by have := pw_pos l; omega), Int.ediv_eq_zero_of_lt b.1 b.2]
  omega

theorem pow_split (l r : Nat) : (2 : Int) ^ (64 * l + r) = BB ^ l * 2 ^ r := by
  rw [Int.pow_add, Int.pow_mul, ← BB_pow]

/-- v times 2^n, and by 2^-n, rounded down, as the document has it. -/
def shiftI (v n : Int) : Int := if n < -100000 then 0 else if n < 0 then v / 2 ^ (-n).toNat else v * 2 ^ (min n 1000).toNat

end Go.Proofs.Ytnkjfandknndkaa
