/-
  Sums of rows as numbers: plain arithmetic, no program.
-/
import Derived.Test.YtnkjfandknndkaaMath
namespace Go.Proofs.Ytnkjfandknndkaa

/-- The limbs at place i of all rows, added. -/
def tot (xss : List (List Int)) (i : Int) : Int := (xss.map fun xs => lim xs i).sum
/-- The first k limbs of all rows, added. -/
def spv (xss : List (List Int)) (k : Nat) : Int := (xss.map fun xs => pv xs k).sum
/-- All rows, added. -/
def sval (xss : List (List Int)) : Int := (xss.map val).sum

theorem tot_snoc (xss : List (List Int)) (xs : List Int) (i : Int) : tot (xss ++ [xs]) i = tot xss i + lim xs i := by simp [tot]
theorem sval_snoc (xss : List (List Int)) (xs : List Int) : sval (xss ++ [xs]) = sval xss + val xs := by simp [sval]

theorem spv_zero (xss : List (List Int)) : spv xss 0 = 0 := by
  induction xss with
  | nil => rfl
  | cons x xs ih => simp only [spv, List.map_cons, List.sum_cons, pv] at ih ⊢; omega

theorem spv_succ (xss : List (List Int)) (k : Nat) : spv xss (k + 1) = spv xss k + tot xss k * BB ^ k := by
  induction xss with
  | nil => simp [spv, tot]
  | cons x xs ih =>
    simp only [spv, tot, List.map_cons, List.sum_cons, pv] at ih ⊢
    rw [ih]
    grind

theorem spv_sval (xss : List (List Int)) (k : Nat) (h : ∀ xs ∈ xss, xs.length ≤ k) : spv xss k = sval xss := by
  induction xss with
  | nil => rfl
  | cons x xs ih =>
    have h1 := ih (fun y hy => h y (List.mem_cons_of_mem _ hy))
    simp only [spv, sval, List.map_cons, List.sum_cons] at h1 ⊢
    rw [h1, pv_val x k (h x List.mem_cons_self)]

theorem tot_bd {xss : List (List Int)} (h : ∀ xs ∈ xss, Limbs xs) (i : Int) : 0 ≤ tot xss i ∧ tot xss i ≤ xss.length * (BB - 1) := by
  induction xss with
  | nil => simp [tot]
  | cons x xs ih =>
    have h1 := ih (fun y hy => h y (List.mem_cons_of_mem _ hy))
    have h2 := lim_bd (h x List.mem_cons_self) i
    simp only [tot, List.map_cons, List.sum_cons, List.length_cons] at h1 ⊢
    refine ⟨by omega, ?_⟩
    have e : ((xs.length + 1 : Nat) : Int) * (BB - 1) = xs.length * (BB - 1) + (BB - 1) := by rw [Int.natCast_add, Int.add_mul]; simp
    rw [e]
    omega

theorem sval_bd {xss : List (List Int)} (h : ∀ xs ∈ xss, Limbs xs) (L : Nat) (hL : ∀ xs ∈ xss, xs.length ≤ L) : 0 ≤ sval xss ∧ sval xss + xss.length ≤ xss.length * BB ^ L := by
  induction xss with
  | nil => simp [sval]
  | cons x xs ih =>
    have h1 := ih (fun y hy => h y (List.mem_cons_of_mem _ hy)) (fun y hy => hL y (List.mem_cons_of_mem _ hy))
    have h2 := val_bd (h x List.mem_cons_self)
    have h3 := pw_le (hL x List.mem_cons_self)
    simp only [sval, List.map_cons, List.sum_cons, List.length_cons] at h1 ⊢
    have e : ((xs.length + 1 : Nat) : Int) * BB ^ L = xs.length * BB ^ L + BB ^ L := by rw [Int.natCast_add, Int.add_mul]; simp
    rw [e]
    refine ⟨by omega, by omega⟩

theorem sum_step {v c t p P : Int} (h : v + c * P = p) : v + ((c + t) % BB) * P + ((c + t) / BB) * (P * BB) = p + t * P := by
  have h1 := Int.emod_add_mul_ediv (c + t) BB
  have h2 : ((c + t) % BB + BB * ((c + t) / BB)) * P = (c + t) * P := by rw [h1]
  grind

theorem sum_carry {c t : Int} {k : Nat} (hc0 : 0 ≤ c) (hc : c ≤ k) (ht0 : 0 ≤ t) (ht : t ≤ k * (BB - 1)) : 0 ≤ (c + t) / BB ∧ (c + t) / BB ≤ k := by
  refine ⟨Int.ediv_nonneg (by omega) (Int.le_of_lt BB_pos), ?_⟩
  have h : c + t ≤ k * BB := by rw [Int.mul_sub] at ht; omega
  have := Int.ediv_le_ediv BB_pos h
  rw [Int.mul_ediv_cancel _ (by have := BB_pos; omega)] at this
  exact this

theorem sum_end {v c s P : Int} {k : Nat} (h : v + c * (P * BB) = s) (hv : 0 ≤ v) (hP : 0 < P) (hc : 0 ≤ c) (hs : s + k ≤ k * P) (hk : (k : Int) ≤ BB) : v = s := by
  rcases Int.lt_or_eq_of_le hc with h' | h'
  · exfalso
    have h1 : P * BB ≤ c * (P * BB) := by
      have : (1 : Int) * (P * BB) ≤ c * (P * BB) := Int.mul_le_mul_of_nonneg_right h' (Int.le_of_lt (Int.mul_pos hP BB_pos))
      simpa using this
    have h2 : (k : Int) * P ≤ BB * P := Int.mul_le_mul_of_nonneg_right hk (Int.le_of_lt hP)
    rw [Int.mul_comm BB P] at h2
    have h3 : s + k ≤ P * BB := by omega
    by_cases e : k = 0
    · subst e
      simp at hs
      have := Int.mul_pos hP BB_pos
      omega
    · omega
  · subst h'; simpa using h

theorem div_of {t n s : Int} (h : t + n * BB = s) (h0 : 0 ≤ t) (h1 : t < BB) : t = s % BB ∧ n = s / BB := by
  unfold BB at *
  omega

/-- There is one number of limbs that is left. -/
theorem tl_ex (xs : List Int) : ∃ m, Tl xs m := by
  have : ∀ k, k ≤ xs.length → (∀ j, k ≤ j → xs.getD j 0 = 0) → ∃ m, Tl xs m := by
    intro k
    induction k with
    | zero => intro _ hz; exact ⟨0, Nat.zero_le _, hz, by simp⟩
    | succ k ih =>
      intro hk hz
      by_cases h : xs.getD k 0 = 0
      · refine ih (by omega) fun j hj => ?_
        by_cases e : j = k
        · rw [e]; exact h
        · exact hz j (by omega)
      · exact ⟨k + 1, hk, hz, fun _ => by simpa using h⟩
  exact this xs.length (Nat.le_refl _) (fun j hj => by simp [hj])

theorem tl_one {xs : List Int} {m n : Nat} (hm : Tl xs m) (hn : Tl xs n) : m = n := by
  rcases Nat.lt_trichotomy m n with h | h | h
  · exact absurd (hm.2.1 (n - 1) (by omega)) (hn.2.2 (by omega))
  · exact h
  · exact absurd (hn.2.1 (m - 1) (by omega)) (hm.2.2 (by omega))

end Go.Proofs.Ytnkjfandknndkaa
