/-
  Rows of limbs as numbers: plain arithmetic, no program.
-/
namespace Go.Proofs.Ytnkjfandknndkaa

/-- 2^64. -/
def BB : Int := 18446744073709551616
theorem BB_pos : 0 < BB := by unfold BB; omega
theorem BB_two : 2 ≤ BB := by unfold BB; omega

/-- Each is a limb. -/
def Limbs (xs : List Int) : Prop := ∀ x ∈ xs, 0 ≤ x ∧ x < BB

/-- The number that a row of limbs is. -/
def val : List Int → Int
  | [] => 0
  | x :: xs => x + BB * val xs

/-- The limb at place i: 0 on either side. -/
def lim (xs : List Int) (i : Int) : Int := if 0 ≤ i then xs.getD i.toNat 0 else 0

theorem lim_neg (xs : List Int) (i : Int) (h : i < 0) : lim xs i = 0 := by rw [lim, if_neg (by omega)]
theorem lim_nat (xs : List Int) (k : Nat) : lim xs k = xs.getD k 0 := by rw [lim, if_pos (by omega), Int.toNat_natCast]
theorem lim_past (xs : List Int) (k : Nat) (h : xs.length ≤ k) : lim xs k = 0 := by rw [lim_nat]; simp [h]
theorem lim_bd {xs : List Int} (h : Limbs xs) (i : Int) : 0 ≤ lim xs i ∧ lim xs i < BB := by
  have hB := BB_pos
  unfold lim
  split
  · by_cases hk : i.toNat < xs.length
    · rw [List.getD_eq_getElem?_getD, List.getElem?_eq_getElem hk]
      exact h _ (List.getElem_mem _)
    · rw [List.getD_eq_getElem?_getD, List.getElem?_eq_none (by omega)]
      exact ⟨by simp, by simpa using hB⟩
  · exact ⟨Int.le_refl _, hB⟩

theorem pw_pos (k : Nat) : 0 < BB ^ k := Int.pow_pos BB_pos
theorem pw_succ (k : Nat) : BB ^ (k + 1) = BB ^ k * BB := Int.pow_succ ..
theorem pw_add (j k : Nat) : BB ^ (j + k) = BB ^ j * BB ^ k := Int.pow_add ..
theorem pw_le {j k : Nat} (h : j ≤ k) : BB ^ j ≤ BB ^ k := by
  obtain ⟨d, rfl⟩ := Nat.le.dest h
  rw [pw_add]
  have h1 : (1 : Int) ≤ BB ^ d := pw_pos d
  have := Int.mul_le_mul_of_nonneg_left h1 (Int.le_of_lt (pw_pos j))
  simpa using this

theorem val_snoc (xs : List Int) (x : Int) : val (xs ++ [x]) = val xs + x * BB ^ xs.length := by
  induction xs with
  | nil => simp [val]
  | cons y ys ih =>
    simp only [List.cons_append, val, ih, List.length_cons, pw_succ]
    grind

theorem limbs_tail {x : Int} {xs : List Int} (h : Limbs (x :: xs)) : Limbs xs := fun y hy => h y (List.mem_cons_of_mem _ hy)
theorem limbs_head {x : Int} {xs : List Int} (h : Limbs (x :: xs)) : 0 ≤ x ∧ x < BB := h x List.mem_cons_self
theorem limbs_take {xs : List Int} (h : Limbs xs) (m : Nat) : Limbs (xs.take m) := fun y hy => h y (List.mem_of_mem_take hy)
theorem limbs_snoc {xs : List Int} {x : Int} (h : Limbs xs) (h0 : 0 ≤ x) (h1 : x < BB) : Limbs (xs ++ [x]) := by
  intro y hy
  rcases List.mem_append.1 hy with h' | h'
  · exact h y h'
  · rw [List.mem_singleton.1 h']; exact ⟨h0, h1⟩

theorem val_bd {xs : List Int} (h : Limbs xs) : 0 ≤ val xs ∧ val xs < BB ^ xs.length := by
  induction xs with
  | nil => simp [val]
  | cons x xs ih =>
    have hx := limbs_head h
    have hi := ih (limbs_tail h)
    have hB := BB_pos
    refine ⟨?_, ?_⟩
    · simp only [val]; have := Int.mul_nonneg (Int.le_of_lt hB) hi.1; omega
    · simp only [val, List.length_cons, pw_succ]
      have h1 : val xs + 1 ≤ BB ^ xs.length := hi.2
      have h2 := Int.mul_le_mul_of_nonneg_left h1 (Int.le_of_lt hB)
      rw [Int.mul_add, Int.mul_one] at h2
      rw [Int.mul_comm (BB ^ xs.length)]
      omega

/-- The first k limbs, as a number. -/
def pv (xs : List Int) : Nat → Int
  | 0 => 0
  | k + 1 => pv xs k + lim xs k * BB ^ k

theorem pv_bd {xs : List Int} (h : Limbs xs) (k : Nat) : 0 ≤ pv xs k ∧ pv xs k < BB ^ k := by
  induction k with
  | zero => simp [pv]
  | succ k ih =>
    have hl := lim_bd h k
    have hp := pw_pos k
    simp only [pv, pw_succ]
    have h1 : lim xs k + 1 ≤ BB := hl.2
    have h2 := Int.mul_le_mul_of_nonneg_right h1 (Int.le_of_lt hp)
    rw [Int.add_mul, Int.one_mul] at h2
    have h3 := Int.mul_nonneg hl.1 (Int.le_of_lt hp)
    rw [Int.mul_comm (BB ^ k) BB]
    omega

theorem pv_cons (x : Int) (xs : List Int) (k : Nat) : pv (x :: xs) (k + 1) = x + BB * pv xs k := by
  induction k with
  | zero => simp [pv, lim]
  | succ k ih =>
    rw [pv, ih, pv]
    have e : lim (x :: xs) ((k + 1 : Nat) : Int) = lim xs k := by rw [lim_nat, lim_nat]; simp
    rw [e, pw_succ]
    grind

theorem pv_val (xs : List Int) (k : Nat) (h : xs.length ≤ k) : pv xs k = val xs := by
  induction xs generalizing k with
  | nil =>
    induction k with
    | zero => rfl
    | succ k ih => rw [pv, ih (by simp), lim_past _ _ (by simp)]; simp
  | cons x xs ih =>
    obtain ⟨j, rfl⟩ : ∃ j, k = j + 1 := ⟨k - 1, by simp at h; omega⟩
    rw [pv_cons, ih j (by simp at h; omega), val]

theorem val_take_pv (xs : List Int) (k : Nat) (h : k ≤ xs.length) : val (xs.take k) = pv xs k := by
  induction k with
  | zero => rfl
  | succ k ih =>
    rw [List.take_succ_eq_append_getElem (by omega), val_snoc, ih (by omega), pv, lim_nat]
    simp [show min k xs.length = k by omega, show k < xs.length by omega]

/-- n is how many limbs of xs are left without those of 0 at its end. -/
def Tl (xs : List Int) (n : Nat) : Prop := n ≤ xs.length ∧ (∀ j, n ≤ j → xs.getD j 0 = 0) ∧ (n ≠ 0 → xs.getD (n - 1) 0 ≠ 0)

theorem pv_zeros (xs : List Int) (n k : Nat) (hn : n ≤ k) (h : ∀ j, n ≤ j → xs.getD j 0 = 0) : pv xs k = pv xs n := by
  induction k with
  | zero => obtain rfl : n = 0 := by omega
            rfl
  | succ k ih =>
    by_cases e : n = k + 1
    · rw [e]
    · rw [pv, ih (by omega), lim_nat, h k (by omega)]; simp

theorem Tl.val {xs : List Int} {m : Nat} (h : Tl xs m) : val (xs.take m) = val xs := by
  rw [val_take_pv xs m h.1, ← pv_val xs xs.length (Nat.le_refl _), pv_zeros xs m _ h.1 h.2.1]

/-- It does not end in a limb of 0. -/
def Trim (xs : List Int) : Prop := ∀ n, xs.length = n + 1 → xs.getD n 0 ≠ 0

theorem Tl.trim {xs : List Int} {m : Nat} (h : Tl xs m) : Trim (xs.take m) := by
  intro n hn
  have hl : (xs.take m).length = m := by simp [h.1]
  have e : m = n + 1 := by omega
  have := h.2.2 (by omega)
  rw [e] at this ⊢
  simpa using this

/-- The one row of a number. -/
structure Num (xs : List Int) (v : Int) : Prop where
  limbs : Limbs xs
  trim : Trim xs
  val : val xs = v

theorem Num.ofTl {xs : List Int} {m : Nat} (hl : Limbs xs) (h : Tl xs m) : Num (xs.take m) (Go.Proofs.Ytnkjfandknndkaa.val xs) := ⟨limbs_take hl m, h.trim, h.val⟩

theorem trim_tail {x : Int} {xs : List Int} (h : Trim (x :: xs)) : Trim xs := by
  intro n hn
  have := h (n + 1) (by simp [hn])
  simpa using this

theorem zero_of_val {xs : List Int} (hl : Limbs xs) (ht : Trim xs) (h : val xs = 0) : xs = [] := by
  induction xs with
  | nil => rfl
  | cons x xs ih =>
    have hx := limbs_head hl
    have hb := val_bd (limbs_tail hl)
    simp only [val] at h
    have hm := Int.mul_nonneg (Int.le_of_lt BB_pos) hb.1
    have h0 : val xs = 0 := by
      rcases Int.lt_or_eq_of_le hb.1 with h' | h'
      · have := Int.mul_pos BB_pos h'; omega
      · exact h'.symm
    have e := ih (limbs_tail hl) (trim_tail ht) h0
    subst e
    have := ht 0 rfl
    simp only [val] at h
    simp at this
    omega

/-- A number has one row. -/
theorem row_one {xs ys : List Int} (hx : Limbs xs) (tx : Trim xs) (hy : Limbs ys) (ty : Trim ys) (h : val xs = val ys) : xs = ys := by
  induction xs generalizing ys with
  | nil => exact (zero_of_val hy ty h.symm).symm
  | cons x xs ih =>
    cases ys with
    | nil => exact zero_of_val hx tx h
    | cons y ys =>
      have bx := limbs_head hx
      have bY := limbs_head hy
      simp only [val] at h
      have e1 : x = y := by
        have h1 : (x + BB * val xs) % BB = x := by rw [Int.add_mul_emod_self_left, Int.emod_eq_of_lt bx.1 bx.2]
        have h2 : (y + BB * val ys) % BB = y := by rw [Int.add_mul_emod_self_left, Int.emod_eq_of_lt bY.1 bY.2]
        rw [← h1, ← h2, h]
      subst e1
      have e2 : val xs = val ys := by
        have : BB * val xs = BB * val ys := by omega
        exact Int.eq_of_mul_eq_mul_left (by have := BB_pos; omega) this
      rw [ih (limbs_tail hx) (trim_tail tx) (limbs_tail hy) (trim_tail ty) e2]

theorem Num.one {xs ys : List Int} {v : Int} (hx : Num xs v) (hy : Num ys v) : xs = ys := row_one hx.limbs hx.trim hy.limbs hy.trim (hx.val.trans hy.val.symm)

end Go.Proofs.Ytnkjfandknndkaa
