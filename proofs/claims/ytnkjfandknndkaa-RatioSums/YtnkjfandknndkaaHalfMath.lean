/-
  Rows of halves of limbs as numbers: plain arithmetic, no program.
-/
import Derived.Test.YtnkjfandknndkaaMath
namespace Go.Proofs.Ytnkjfandknndkaa

/-- 2^32. -/
def HH : Int := 4294967296
theorem HH_pos : 0 < HH := by unfold HH; omega
theorem HH_BB : HH * HH = BB := by unfold HH BB; omega

/-- Each is half a limb. -/
def Halves (xs : List Int) : Prop := ∀ x ∈ xs, 0 ≤ x ∧ x < HH
theorem Halves.limbs {xs : List Int} (h : Halves xs) : Limbs xs := fun x hx => ⟨(h x hx).1, by have := (h x hx).2; unfold HH at this; unfold BB; omega⟩
theorem halves_snoc {xs : List Int} {x : Int} (h : Halves xs) (h0 : 0 ≤ x) (h1 : x < HH) : Halves (xs ++ [x]) := by
  intro y hy
  rcases List.mem_append.1 hy with h' | h'
  · exact h y h'
  · rw [List.mem_singleton.1 h']; exact ⟨h0, h1⟩
theorem half_bd {xs : List Int} (h : Halves xs) (k : Nat) : 0 ≤ lim xs k ∧ lim xs k < HH := by
  rw [lim_nat]
  by_cases hk : k < xs.length
  · rw [List.getD_eq_getElem?_getD, List.getElem?_eq_getElem hk]
    exact h _ (List.getElem_mem _)
  · rw [List.getD_eq_getElem?_getD, List.getElem?_eq_none (by omega)]
    exact ⟨by simp, by simpa using HH_pos⟩

/-- The number that a row of halves is. -/
def hval : List Int → Int
  | [] => 0
  | x :: xs => x + HH * hval xs

theorem hw_pos (k : Nat) : 0 < HH ^ k := Int.pow_pos HH_pos
theorem hw_succ (k : Nat) : HH ^ (k + 1) = HH ^ k * HH := Int.pow_succ ..
theorem hw_add (j k : Nat) : HH ^ (j + k) = HH ^ j * HH ^ k := Int.pow_add ..
theorem hw_two (k : Nat) : HH ^ (2 * k) = BB ^ k := by rw [Int.pow_mul, ← HH_BB]; congr 1
theorem hw_le {j k : Nat} (h : j ≤ k) : HH ^ j ≤ HH ^ k := by
  obtain ⟨d, rfl⟩ := Nat.le.dest h
  rw [hw_add]
  have h1 : (1 : Int) ≤ HH ^ d := hw_pos d
  have := Int.mul_le_mul_of_nonneg_left h1 (Int.le_of_lt (hw_pos j))
  simpa using this

theorem hval_snoc (xs : List Int) (x : Int) : hval (xs ++ [x]) = hval xs + x * HH ^ xs.length := by
  induction xs with
  | nil => simp [hval]
  | cons y ys ih =>
    simp only [List.cons_append, hval, ih, List.length_cons, hw_succ]
    grind

theorem hval_bd {xs : List Int} (h : Halves xs) : 0 ≤ hval xs ∧ hval xs < HH ^ xs.length := by
  induction xs with
  | nil => simp [hval]
  | cons x xs ih =>
    have hx := h x List.mem_cons_self
    have hi := ih (fun y hy => h y (List.mem_cons_of_mem _ hy))
    have hB := HH_pos
    refine ⟨?_, ?_⟩
    · simp only [hval]; have := Int.mul_nonneg (Int.le_of_lt hB) hi.1; omega
    · simp only [hval, List.length_cons, hw_succ]
      have h1 : hval xs + 1 ≤ HH ^ xs.length := hi.2
      have h2 := Int.mul_le_mul_of_nonneg_left h1 (Int.le_of_lt hB)
      rw [Int.mul_add, Int.mul_one] at h2
      rw [Int.mul_comm (HH ^ xs.length)]
      omega

/-- The first k halves, as a number. -/
def hpv (xs : List Int) : Nat → Int
  | 0 => 0
  | k + 1 => hpv xs k + lim xs k * HH ^ k

theorem hpv_bd {xs : List Int} (h : Halves xs) (k : Nat) : 0 ≤ hpv xs k ∧ hpv xs k < HH ^ k := by
  induction k with
  | zero => simp [hpv]
  | succ k ih =>
    have hl := half_bd h k
    have hp := hw_pos k
    simp only [hpv, hw_succ]
    have h1 : lim xs k + 1 ≤ HH := hl.2
    have h2 := Int.mul_le_mul_of_nonneg_right h1 (Int.le_of_lt hp)
    rw [Int.add_mul, Int.one_mul] at h2
    have h3 := Int.mul_nonneg hl.1 (Int.le_of_lt hp)
    rw [Int.mul_comm (HH ^ k) HH]
    omega

theorem hpv_cons (x : Int) (xs : List Int) (k : Nat) : hpv (x :: xs) (k + 1) = x + HH * hpv xs k := by
  induction k with
  | zero => simp [hpv, lim]
  | succ k ih =>
    rw [hpv, ih, hpv]
    have e : lim (x :: xs) ((k + 1 : Nat) : Int) = lim xs k := by rw [lim_nat, lim_nat]; simp
    rw [e, hw_succ]
    grind

theorem hpv_val (xs : List Int) (k : Nat) (h : xs.length ≤ k) : hpv xs k = hval xs := by
  induction xs generalizing k with
  | nil =>
    induction k with
    | zero => rfl
    | succ k ih => rw [hpv, ih (by simp), lim_past _ _ (by simp)]; simp
  | cons x xs ih =>
    obtain ⟨j, rfl⟩ : ∃ j, k = j + 1 := ⟨k - 1, by simp at h; omega⟩
    rw [hpv_cons, ih j (by simp at h; omega), hval]

theorem hpv_mono {xs : List Int} (h : Halves xs) {j k : Nat} (hjk : j ≤ k) : hpv xs j ≤ hpv xs k ∧ (hpv xs k < HH ^ j → hpv xs k = hpv xs j) := by
  induction k with
  | zero => obtain rfl : j = 0 := by omega
            exact ⟨Int.le_refl _, fun _ => rfl⟩
  | succ k ih =>
    by_cases e : j = k + 1
    · subst e; exact ⟨Int.le_refl _, fun _ => rfl⟩
    · have h1 := ih (by omega)
      have hl := half_bd h k
      have hp := hw_pos k
      have hn := Int.mul_nonneg hl.1 (Int.le_of_lt hp)
      have hb := (hpv_bd h k).1
      rw [hpv]
      refine ⟨by omega, fun hlt => ?_⟩
      have hz : lim xs k = 0 := by
        rcases Int.lt_or_eq_of_le hl.1 with h' | h'
        · exfalso
          have h2 : (1 : Int) * HH ^ k ≤ lim xs k * HH ^ k := Int.mul_le_mul_of_nonneg_right h' (Int.le_of_lt hp)
          have h3 := hw_le (show j ≤ k by omega)
          omega
        · exact h'.symm
      rw [hz] at hlt ⊢
      simp at hlt ⊢
      exact h1.2 hlt

/-- Limbs as halves. -/
def hd : List Int → List Int
  | [] => []
  | x :: xs => x % HH :: x / HH :: hd xs
theorem hd_length (xs : List Int) : (hd xs).length = 2 * xs.length := by
  induction xs with
  | nil => rfl
  | cons x xs ih => simp only [hd, List.length_cons, ih]; omega
theorem hd_append (xs ys : List Int) : hd (xs ++ ys) = hd xs ++ hd ys := by
  induction xs with
  | nil => rfl
  | cons x xs ih => simp only [List.cons_append, hd, ih]
theorem hd_halves {xs : List Int} (h : Limbs xs) : Halves (hd xs) := by
  induction xs with
  | nil => intro x hx; simp [hd] at hx
  | cons x xs ih =>
    intro y hy
    simp only [hd, List.mem_cons] at hy
    have hx := limbs_head h
    rcases hy with rfl | rfl | hy
    · exact ⟨Int.emod_nonneg _ (by have := HH_pos; omega), Int.emod_lt_of_pos _ HH_pos⟩
    · unfold HH BB at *; omega
    · exact ih (limbs_tail h) y hy
theorem hd_val (xs : List Int) : hval (hd xs) = val xs := by
  induction xs with
  | nil => rfl
  | cons x xs ih =>
    simp only [hd, hval, val, ih, ← HH_BB]
    have := Int.emod_add_mul_ediv x HH
    grind

theorem hd_take (xs : List Int) (k : Nat) (h : k < xs.length) : hd (xs.take (k + 1)) = hd (xs.take k) ++ [xs.getD k 0 % HH, xs.getD k 0 / HH] := by
  rw [List.take_succ_eq_append_getElem h, hd_append]
  simp [hd, h]

end Go.Proofs.Ytnkjfandknndkaa
