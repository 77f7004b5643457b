/-
  What layer 3 tells, as arithmetic: quotients, what two have in common, what both divide. No program.
-/
import Derived.Test.YtnkjfandknndkaaDivMath
namespace Go.Proofs.Ytnkjfandknndkaa

/-- The greatest number by which both can be divided. -/
def gcdI (a b : Int) : Int := (Nat.gcd a.toNat b.toNat : Nat)
/-- The least number that can be divided by both. -/
def lcmI (a b : Int) : Int := a / gcdI a b * b

theorem gcdI_nonneg (a b : Int) : 0 ≤ gcdI a b := Int.natCast_nonneg _
theorem gcdI_zero {a : Int} (h : 0 ≤ a) : gcdI a 0 = a := by unfold gcdI; simp; omega
theorem gcdI_zero_left {a : Int} (h : 0 ≤ a) : gcdI 0 a = a := by unfold gcdI; simp; omega
theorem gcdI_step {a b : Int} (ha : 0 ≤ a) (hb : 0 ≤ b) : gcdI a b = gcdI b (a % b) := by
  unfold gcdI
  rw [Int.toNat_emod ha hb, Nat.gcd_comm b.toNat, ← Nat.gcd_rec, Nat.gcd_comm]
theorem gcdI_le {a b : Int} (ha : 0 < a) : gcdI a b ≤ a := by
  unfold gcdI
  have := Nat.gcd_le_left b.toNat (show 0 < a.toNat by omega)
  omega
theorem gcdI_pos {a b : Int} (h : 0 < a) : 0 < gcdI a b := by
  unfold gcdI
  have := Nat.gcd_pos_of_pos_left b.toNat (show 0 < a.toNat by omega)
  omega
theorem gcdI_comm (a b : Int) : gcdI a b = gcdI b a := by unfold gcdI; rw [Nat.gcd_comm]
theorem gcdI_lt {a b B : Int} (ha : 0 ≤ a) (hb : 0 ≤ b) (hA : a < B) (hB : b < B) : gcdI a b < B := by
  rcases Int.lt_or_eq_of_le ha with h | h
  · have := gcdI_le (b := b) h; omega
  · rw [← h, gcdI_zero_left hb]; exact hB
theorem gcdI_dvd {a b : Int} (ha : 0 < a) (hb : 0 ≤ b) : ∃ p q, 0 < p ∧ 0 ≤ q ∧ a = gcdI a b * p ∧ b = gcdI a b * q ∧ gcdI p q = 1 := by
  obtain ⟨A, rfl⟩ := Int.eq_ofNat_of_zero_le (Int.le_of_lt ha)
  obtain ⟨B, rfl⟩ := Int.eq_ofNat_of_zero_le hb
  have hA : 0 < A := by omega
  have hg : 0 < Nat.gcd A B := Nat.gcd_pos_of_pos_left B hA
  have h1 := Nat.mul_div_cancel' (Nat.gcd_dvd_left A B)
  have h2 := Nat.mul_div_cancel' (Nat.gcd_dvd_right A B)
  have hp : 0 < A / Nat.gcd A B := by
    rcases Nat.eq_zero_or_pos (A / Nat.gcd A B) with h | h
    · rw [h] at h1; simp at h1; omega
    · exact h
  refine ⟨((A / Nat.gcd A B : Nat) : Int), ((B / Nat.gcd A B : Nat) : Int), by exact_mod_cast hp, Int.natCast_nonneg _, ?_, ?_, ?_⟩
  · unfold gcdI
    rw [Int.toNat_natCast, Int.toNat_natCast]
    exact_mod_cast h1.symm
  · unfold gcdI
    rw [Int.toNat_natCast, Int.toNat_natCast]
    exact_mod_cast h2.symm
  · unfold gcdI
    rw [Int.toNat_natCast, Int.toNat_natCast, Nat.gcd_div (Nat.gcd_dvd_left A B) (Nat.gcd_dvd_right A B), Nat.div_self hg]
    rfl

/-- What a call of Div tells. -/
structure DivOut (xs ys : List Int) (q r : List Int) (k : Int) : Prop where
  is_arg : ¬ (May xs ∧ May ys) → k = 1 ∧ q = [] ∧ r = []
  is_zero : May xs ∧ May ys → val ys = 0 → k = 30 ∧ q = [] ∧ r = []
  is_fine : May xs ∧ May ys → val ys ≠ 0 → k = 0 ∧ Num q (val xs / val ys) ∧ Num r (val xs % val ys)

theorem DivOut.arg {xs ys : List Int} (h : ¬ (May xs ∧ May ys)) : DivOut xs ys [] [] 1 := ⟨fun _ => ⟨rfl, rfl, rfl⟩, fun o => absurd o h, fun o => absurd o h⟩
theorem DivOut.zero {xs ys : List Int} (h : May xs ∧ May ys) (z : val ys = 0) : DivOut xs ys [] [] 30 := ⟨fun o => absurd h o, fun _ _ => ⟨rfl, rfl, rfl⟩, fun _ n => absurd z n⟩
theorem DivOut.fine {xs ys q r : List Int} (h : May xs ∧ May ys) (z : val ys ≠ 0) (hq : Num q (val xs / val ys)) (hr : Num r (val xs % val ys)) : DivOut xs ys q r 0 := ⟨fun o => absurd h o, fun _ n => absurd n z, fun _ _ => ⟨rfl, hq, hr⟩⟩

theorem DivOut.one {xs ys q r q' r' : List Int} {k k' : Int} (h : DivOut xs ys q r k) (h' : DivOut xs ys q' r' k') : q = q' ∧ r = r' ∧ k = k' := by
  by_cases o : May xs ∧ May ys
  · by_cases z : val ys = 0
    · have a := h.is_zero o z
      have b := h'.is_zero o z
      exact ⟨a.2.1.trans b.2.1.symm, a.2.2.trans b.2.2.symm, a.1.trans b.1.symm⟩
    · have a := h.is_fine o z
      have b := h'.is_fine o z
      exact ⟨a.2.1.one b.2.1, a.2.2.one b.2.2, a.1.trans b.1.symm⟩
  · have a := h.is_arg o
    have b := h'.is_arg o
    exact ⟨a.2.1.trans b.2.1.symm, a.2.2.trans b.2.2.symm, a.1.trans b.1.symm⟩

/-- What a call of Small tells. -/
structure SmallOut (xs : List Int) (n : Int) (q : List Int) (r k : Int) : Prop where
  is_arg : ¬ May xs → k = 1 ∧ q = [] ∧ r = 0
  is_zero : May xs → n = 0 → k = 30 ∧ q = [] ∧ r = 0
  is_fine : May xs → n ≠ 0 → k = 0 ∧ Num q (val xs / n) ∧ r = val xs % n

theorem SmallOut.one {xs q q' : List Int} {n r k r' k' : Int} (h : SmallOut xs n q r k) (h' : SmallOut xs n q' r' k') : q = q' ∧ r = r' ∧ k = k' := by
  by_cases o : May xs
  · by_cases z : n = 0
    · have a := h.is_zero o z
      have b := h'.is_zero o z
      exact ⟨a.2.1.trans b.2.1.symm, a.2.2.trans b.2.2.symm, a.1.trans b.1.symm⟩
    · have a := h.is_fine o z
      have b := h'.is_fine o z
      exact ⟨a.2.1.one b.2.1, a.2.2.trans b.2.2.symm, a.1.trans b.1.symm⟩
  · have a := h.is_arg o
    have b := h'.is_arg o
    exact ⟨a.2.1.trans b.2.1.symm, a.2.2.trans b.2.2.symm, a.1.trans b.1.symm⟩

/-- Small's answer is Div's by the natural n; its rest is a limb, or nothing. -/
theorem SmallOut.of {xs ys q r : List Int} {n k : Int} (hn : Num ys n) (hB : n < BB) (h : DivOut xs ys q r k) : SmallOut xs n q (lim r 0) k := by
  have hbb := Big_BB
  have my : May ys := hn.may.2 (by omega)
  have hv := hn.val
  have h0 := hn.nonneg
  refine ⟨fun o => ?_, fun o z => ?_, fun o z => ?_⟩
  · have a := h.is_arg (fun c => o c.1)
    rw [a.2.2]; exact ⟨a.1, a.2.1, rfl⟩
  · have a := h.is_zero ⟨o, my⟩ (by omega)
    rw [a.2.2]; exact ⟨a.1, a.2.1, rfl⟩
  · have a := h.is_fine ⟨o, my⟩ (by omega)
    rw [hv] at a
    refine ⟨a.1, a.2.1, ?_⟩
    have hr := a.2.2
    have hm := Int.emod_lt_of_pos (val xs) (show 0 < n by omega)
    have hl : r.length ≤ 1 := by
      rcases Nat.lt_or_ge 1 r.length with hg | hg
      · obtain ⟨j, hj⟩ : ∃ j, r.length = j + 1 := ⟨r.length - 1, by omega⟩
        have h1 := val_ge hr.limbs hr.trim j hj
        rw [hr.val] at h1
        have h2 := pw_le (show 1 ≤ j by omega)
        rw [Int.pow_succ, Int.pow_zero, Int.one_mul] at h2
        omega
      · exact hg
    rw [← hr.val, ← pv_val r 1 hl]
    simp [pv]

theorem num_len_zero {r : List Int} {v : Int} (h : Num r v) : r.length = 0 ↔ v = 0 := by
  constructor
  · intro hl
    rw [← h.val, List.length_eq_zero_iff.1 hl]; rfl
  · intro hv
    rw [zero_of_val h.limbs h.trim (h.val.trans hv)]; rfl

theorem lcmI_zero_left (b : Int) : lcmI 0 b = 0 := by unfold lcmI; simp
theorem lcmI_zero_right (a : Int) : lcmI a 0 = 0 := by unfold lcmI; simp

end Go.Proofs.Ytnkjfandknndkaa
