/-
  Division by guesses, as arithmetic: no program.
-/
import Derived.Test.YtnkjfandknndkaaNatMath
import Derived.Test.YtnkjfandknndkaaHalfMath
namespace Go.Proofs.Ytnkjfandknndkaa

/-- What a guess of half a limb holds: u is a rest by y = y1 * 2^32 + y0, x the half that comes down, q the guess, r what it leaves of u by y1. -/
structure Gs (y y1 y0 u x q r : Int) : Prop where
  eq : q * y1 + r = u
  least : (u * 4294967296 + x) / y ≤ q
  q0 : 0 ≤ q
  q1 : q ≤ 4294967297
  r0 : 0 ≤ r
  r1 : r < 4294967296

/-- A divisor with its highest bit. -/
structure Dv (y y1 y0 : Int) : Prop where
  eq : y = y1 * 4294967296 + y0
  a0 : 0 ≤ y0
  a1 : y0 < 4294967296
  b0 : 2147483648 ≤ y1
  b1 : y1 < 4294967296

theorem Dv.pos {y y1 y0 : Int} (h : Dv y y1 y0) : 0 < y := by have := h.eq; have := h.a0; have := h.b0; omega

theorem gs_start {y y1 y0 u x : Int} (h : Dv y y1 y0) (hu0 : 0 ≤ u) (hu : u < y) (hx0 : 0 ≤ x) (hx : x < 4294967296) : Gs y y1 y0 u x (u / y1) (u - u / y1 * y1) := by
  have hp := h.pos
  have e := h.eq
  have h1 : 0 < y1 := by have := h.b0; omega
  have hm := Int.emod_add_mul_ediv u y1
  have hm0 := Int.emod_nonneg u (show y1 ≠ 0 by omega)
  have hm1 := Int.emod_lt_of_pos u h1
  rw [Int.mul_comm] at hm
  have hb1 := h.b1
  have hb0 := h.b0
  have ha0 := h.a0
  have ha1 := h.a1
  refine ⟨by omega, ?_, Int.ediv_nonneg hu0 (by omega), ?_, by omega, by omega⟩
  · rw [Int.le_ediv_iff_mul_le h1]
    have hD := Int.ediv_mul_le (u * 4294967296 + x) (show y ≠ 0 by omega)
    have hD0 : 0 ≤ (u * 4294967296 + x) / y := Int.ediv_nonneg (by omega) (by omega)
    generalize (u * 4294967296 + x) / y = D at hD hD0 ⊢
    have h2 : D * y = D * y1 * 4294967296 + D * y0 := by rw [e, Int.mul_add, Int.mul_assoc]
    have h3 := Int.mul_nonneg hD0 ha0
    omega
  · have : u / y1 < 4294967298 := Int.ediv_lt_of_lt_mul h1 (by omega)
    omega

theorem gs_lt {y y1 y0 u x : Int} (h : Dv y y1 y0) (hu : u < y) (hx : x < 4294967296) : (u * 4294967296 + x) / y < 4294967296 := Int.ediv_lt_of_lt_mul h.pos (by omega)

theorem gs_prod {y y1 y0 u x q r : Int} (h : Dv y y1 y0) (g : Gs y y1 y0 u x q r) : q * y = (u - r) * 4294967296 + q * y0 := by
  have e := g.eq
  rw [h.eq, Int.mul_add, ← Int.mul_assoc, show q * y1 = u - r by omega]

theorem gs_small {y y1 y0 u x q r : Int} (h : Dv y y1 y0) (g : Gs y y1 y0 u x q r) : 0 ≤ q * y0 ∧ q * y0 ≤ 18446744073709551615 := by
  refine ⟨Int.mul_nonneg g.q0 h.a0, ?_⟩
  have := Int.mul_le_mul g.q1 (show y0 ≤ 4294967295 by have := h.a1; omega) h.a0 (by omega : (0 : Int) ≤ 4294967297)
  omega

/-- The guess is good. -/
theorem gs_stop {y y1 y0 u x q r : Int} (h : Dv y y1 y0) (g : Gs y y1 y0 u x q r) (ht : q * y0 ≤ 4294967296 * r + x) : q = (u * 4294967296 + x) / y := by
  have hp := gs_prod h g
  have : q ≤ (u * 4294967296 + x) / y := by rw [Int.le_ediv_iff_mul_le h.pos]; omega
  have := g.least
  omega

/-- The guess is too great. -/
theorem gs_more {y y1 y0 u x q r : Int} (h : Dv y y1 y0) (g : Gs y y1 y0 u x q r) (hu0 : 0 ≤ u) (hu : u < y) (hx0 : 0 ≤ x) (hx : x < 4294967296) (ht : 4294967296 ≤ q ∨ 4294967296 * r + x < q * y0) : (u * 4294967296 + x) / y ≤ q - 1 ∧ 1 ≤ q := by
  have hp := gs_prod h g
  have h0 : 0 ≤ (u * 4294967296 + x) / y := Int.ediv_nonneg (by omega) (by have := h.pos; omega)
  have h1 : (u * 4294967296 + x) / y < q := by
    rcases ht with ht | ht
    · have := gs_lt h hu hx; omega
    · rw [Int.ediv_lt_iff_lt_mul h.pos]; omega
  omega

theorem gs_next {y y1 y0 u x q r : Int} (h : Dv y y1 y0) (g : Gs y y1 y0 u x q r) (hm : (u * 4294967296 + x) / y ≤ q - 1 ∧ 1 ≤ q) (hr : r + y1 < 4294967296) : Gs y y1 y0 u x (q - 1) (r + y1) := by
  have e := g.eq
  have := g.r0
  have := h.b0
  have := g.q1
  refine ⟨?_, hm.1, by omega, by omega, by omega, hr⟩
  rw [Int.sub_mul]
  omega

theorem gs_break {y y1 y0 u x q r : Int} (h : Dv y y1 y0) (g : Gs y y1 y0 u x q r) (hx0 : 0 ≤ x) (hm : (u * 4294967296 + x) / y ≤ q - 1 ∧ 1 ≤ q) (hr : 4294967296 ≤ r + y1) : q - 1 = (u * 4294967296 + x) / y := by
  have e := g.eq
  have hq1 := g.q1
  have h1 : (q - 1) * y = (u - (r + y1)) * 4294967296 + (q - 1) * y0 := by
    rw [h.eq, Int.mul_add, ← Int.mul_assoc, show (q - 1) * y1 = u - (r + y1) by rw [Int.sub_mul]; omega]
  have h2 := Int.mul_le_mul (show q - 1 ≤ 4294967296 by omega) (show y0 ≤ 4294967295 by have := h.a1; omega) h.a0 (by omega : (0 : Int) ≤ 4294967296)
  have : q - 1 ≤ (u * 4294967296 + x) / y := by rw [Int.le_ediv_iff_mul_le h.pos]; omega
  omega

theorem two_halves {y hi l1 l0 q1 q0 v : Int} (hy : 0 < y) (hv : v = hi * 4294967296 + l1 - q1 * y) (h0 : q0 = (v * 4294967296 + l0) / y) : q1 * 4294967296 + q0 = (hi * BB + (l1 * 4294967296 + l0)) / y := by
  have e : hi * BB + (l1 * 4294967296 + l0) = (v * 4294967296 + l0) + (q1 * 4294967296) * y := by
    rw [hv]; unfold BB
    have : q1 * 4294967296 * y = q1 * y * 4294967296 := by rw [Int.mul_assoc, Int.mul_comm 4294967296, ← Int.mul_assoc]
    omega
  rw [e, Int.add_mul_ediv_right _ _ (by omega), ← h0]
  omega

/-- The rest behind the first half. -/
theorem rest_bd {y u x q : Int} (hy : 0 < y) (hq : q = (u * 4294967296 + x) / y) : 0 ≤ u * 4294967296 + x - q * y ∧ u * 4294967296 + x - q * y < y := by
  subst hq
  have := Int.emod_add_mul_ediv (u * 4294967296 + x) y
  have h0 := Int.emod_nonneg (u * 4294967296 + x) (show y ≠ 0 by omega)
  have h1 := Int.emod_lt_of_pos (u * 4294967296 + x) hy
  rw [Int.mul_comm y] at this
  omega

theorem dv_of {y : Int} (h0 : 9223372036854775808 ≤ y) (h1 : y < BB) : Dv y (y / 4294967296) (y % 4294967296) := by
  unfold BB at h1
  exact ⟨by omega, by omega, by omega, by omega, by omega⟩

/-! ### rows -/

theorem val_set (os : List Int) (j : Nat) (v : Int) (h : j < os.length) : val (os.set j v) = val os + (v - lim os j) * BB ^ j := by
  induction os generalizing j with
  | nil => simp at h
  | cons x xs ih =>
    cases j with
    | zero => simp [val, lim]; omega
    | succ j =>
      have e : lim (x :: xs) ((j + 1 : Nat) : Int) = lim xs j := by rw [lim_nat, lim_nat]; simp
      rw [List.set_cons_succ, val, val, ih j (by simp at h; omega), e, pw_succ]
      grind

theorem val_zeros0 (k : Nat) : val (List.replicate k 0) = 0 := by
  induction k with
  | zero => rfl
  | succ k ih => rw [List.replicate_succ, val, ih]; simp
theorem limbs_zeros (k : Nat) : Limbs (List.replicate k 0) := fun x hx => by rw [List.eq_of_mem_replicate hx]; exact ⟨Int.le_refl _, BB_pos⟩
theorem limbs_set {os : List Int} (h : Limbs os) (j : Nat) {v : Int} (h0 : 0 ≤ v) (h1 : v < BB) : Limbs (os.set j v) := by
  intro x hx
  rcases List.mem_or_eq_of_mem_set hx with h' | h'
  · exact h x h'
  · rw [h']; exact ⟨h0, h1⟩
theorem limbs_drop {xs : List Int} (h : Limbs xs) (m : Nat) : Limbs (xs.drop m) := fun y hy => h y (List.mem_of_mem_drop hy)

theorem val_split (xs : List Int) (k : Nat) (h : k ≤ xs.length) : val xs = pv xs k + val (xs.drop k) * BB ^ k := by
  induction k with
  | zero => simp [pv]
  | succ k ih =>
    rw [ih (by omega), pv, pw_succ]
    have e : xs.drop k = lim xs k :: xs.drop (k + 1) := by
      rw [lim_nat, List.drop_eq_getElem_cons (by omega)]
      simp [show k < xs.length by omega]
    rw [e, val]
    grind

theorem Num.len {r : List Int} {v : Int} (h : Num r v) (n : Nat) (h0 : BB ^ n ≤ v) (h1 : v < BB ^ (n + 1)) : r.length = n + 1 := by
  have hb := (val_bd h.limbs).2
  rw [h.val] at hb
  rcases Nat.lt_or_ge r.length (n + 1) with hl | hl
  · have := pw_le (show r.length ≤ n by omega); omega
  · rcases Nat.lt_or_ge (n + 1) r.length with hg | hg
    · obtain ⟨m, hm⟩ : ∃ m, r.length = m + 1 := ⟨r.length - 1, by omega⟩
      have h2 := val_ge h.limbs h.trim m hm
      rw [h.val] at h2
      have := pw_le (show n + 1 ≤ m by omega)
      omega
    · omega

theorem top_split {r : List Int} {n : Nat} (h : r.length = n + 1) : val r = pv r n + lim r n * BB ^ n := by rw [← pv_val r (n + 1) (by omega), pv]

/-- A divisor that is shifted so that its highest bit is set. -/
theorem norm_len {b r : List Int} {n : Nat} {P : Int} (hb : Limbs b) (hn : b.length = n + 1) (hP : 0 < P) (h0 : 9223372036854775808 ≤ lim b n * P) (h1 : (lim b n + 1) * P ≤ BB) (hr : Num r (val b * P)) :
    r.length = n + 1 ∧ 9223372036854775808 ≤ lim r n := by
  have hs := top_split hn
  have hp := pv_bd hb n
  have hpw := pw_pos n
  have e1 : val b * P = pv b n * P + lim b n * P * BB ^ n := by rw [hs]; grind
  have l1 : 9223372036854775808 * BB ^ n ≤ lim b n * P * BB ^ n := Int.mul_le_mul_of_nonneg_right h0 (Int.le_of_lt hpw)
  have l2 := Int.mul_nonneg hp.1 (Int.le_of_lt hP)
  have u1 : (lim b n + 1) * P * BB ^ n ≤ BB * BB ^ n := Int.mul_le_mul_of_nonneg_right h1 (Int.le_of_lt hpw)
  have u2 : (pv b n + 1) * P ≤ BB ^ n * P := Int.mul_le_mul_of_nonneg_right (by omega) (Int.le_of_lt hP)
  have u3 : (lim b n + 1) * P * BB ^ n = lim b n * P * BB ^ n + BB ^ n * P := by grind
  have u4 : (pv b n + 1) * P = pv b n * P + P := by grind
  have u5 : BB ^ (n + 1) = BB * BB ^ n := by rw [pw_succ, Int.mul_comm]
  have hlen := hr.len n (by omega) (by omega)
  refine ⟨hlen, ?_⟩
  have hs2 := top_split hlen
  have hp2 := (pv_bd hr.limbs n).2
  rw [hr.val] at hs2
  rcases Int.lt_or_le (lim r n) 9223372036854775808 with hl | hl
  · have : (lim r n + 1) * BB ^ n ≤ 9223372036854775808 * BB ^ n := Int.mul_le_mul_of_nonneg_right (by omega) (Int.le_of_lt hpw)
    rw [Int.add_mul, Int.one_mul] at this
    omega
  · exact hl

/-- A guess by the highest limbs is not too small. -/
theorem guess_least {R B : List Int} {n : Nat} {V G : Int} (hR : Limbs R) (lR : R.length = n + 1 + 1) (hB : Limbs B) (lB : B.length = n + 1) (hV : V = val B) (hd : 9223372036854775808 ≤ lim B n)
    (hG : G = (lim R (n + 1 : Nat) * BB + lim R n) / lim B n) : val R / V ≤ G := by
  have hpw := pw_pos n
  have hsB := top_split lB
  have hpB := (pv_bd hB n).1
  have hsR := top_split lR
  have hpR := (pv_bd hR n).2
  rw [pv, pw_succ] at hsR
  have hvR := (val_bd hR).1
  have h1 : lim B n * BB ^ n ≤ V := by omega
  have hVp : 0 < V := by
    have := Int.mul_pos (show 0 < lim B n by omega) hpw
    omega
  have hD := Int.ediv_mul_le (val R) (show V ≠ 0 by omega)
  have hD0 : 0 ≤ val R / V := Int.ediv_nonneg hvR (by omega)
  rw [hG, Int.le_ediv_iff_mul_le (by omega)]
  generalize val R / V = D at hD hD0 ⊢
  have h2 := Int.mul_le_mul_of_nonneg_left h1 hD0
  rw [← Int.mul_assoc] at h2
  have e : (lim R (n + 1 : Nat) * BB + lim R n) * BB ^ n = lim R n * BB ^ n + lim R (n + 1 : Nat) * (BB ^ n * BB) := by grind
  have h3 : D * lim B n * BB ^ n < (lim R (n + 1 : Nat) * BB + lim R n + 1) * BB ^ n := by
    rw [Int.add_mul _ 1, Int.one_mul, e]
    omega
  have := Int.lt_of_mul_lt_mul_right h3 (Int.le_of_lt hpw)
  omega

/-- What the loop of divide holds ahead of the place k - 1. -/
structure DivInv (A : List Int) (V : Int) (n m k : Nat) (qs rs : List Int) : Prop where
  len : qs.length = m
  limbs : Limbs qs
  rlimbs : Limbs rs
  rlt : val rs < V
  rlen : rs.length ≤ n
  zeros : ∀ j : Nat, j < k → lim qs j = 0
  eq : val A = val qs * V + val rs * BB ^ k + pv A k

theorem lim_zeros (m j : Nat) : lim (List.replicate m 0) j = 0 := by
  rw [lim_nat, List.getD_eq_getElem?_getD]
  by_cases h : j < m
  · simp [h]
  · simp [h]

theorem div_start {A B : List Int} {n m : Nat} {V : Int} (hA : Limbs A) (hB : Limbs B) (lB : B.length = n + 1) (tB : Trim B) (hV : V = val B) (hm : m = A.length - n) :
    DivInv A V (n + 1) m m (List.replicate m 0) (A.drop m) := by
  have hge := val_ge hB tB n lB
  have hl : (A.drop m).length ≤ n := by simp; omega
  have hb := (val_bd (limbs_drop hA m)).2
  refine ⟨by simp, limbs_zeros _, limbs_drop hA m, ?_, by omega, fun j _ => lim_zeros m j, ?_⟩
  · have := pw_le hl
    omega
  · rw [val_zeros0, val_split A m (by omega)]
    omega

theorem val_row (x : Int) (rs : List Int) : val (x :: rs) = x + BB * val rs := rfl

theorem div_row {A : List Int} {V : Int} {n m k : Nat} {qs rs : List Int} (h : DivInv A V n m (k + 1) qs rs) (hA : Limbs A) : 0 ≤ lim A k + BB * val rs ∧ (lim A k + BB * val rs) / V < BB := by
  have hl := lim_bd hA k
  have hv := (val_bd h.rlimbs).1
  have hB := BB_pos
  have h1 := Int.mul_nonneg (Int.le_of_lt hB) hv
  refine ⟨by omega, ?_⟩
  have h2 : val rs + 1 ≤ V := h.rlt
  have h3 := Int.mul_le_mul_of_nonneg_left h2 (Int.le_of_lt hB)
  rw [Int.mul_add, Int.mul_one] at h3
  exact Int.ediv_lt_of_lt_mul (by omega) (by omega)

theorem div_next {A : List Int} {V : Int} {n m k : Nat} {qs rs ls : List Int} {d : Int} (h : DivInv A V n m (k + 1) qs rs) (hA : Limbs A) (hk : k < m) (hV : V < BB ^ n) (hd : d = (lim A k + BB * val rs) / V) (hls : Num ls (lim A k + BB * val rs - V * d)) :
    DivInv A V n m k (qs.set k d) ls := by
  have hr := div_row h hA
  have hVp : 0 < V := by have := h.rlt; have := (val_bd h.rlimbs).1; omega
  have hd0 : 0 ≤ d := by rw [hd]; exact Int.ediv_nonneg hr.1 (by omega)
  have hlt : lim A k + BB * val rs - V * d < V := by
    have h1 := Int.emod_add_mul_ediv (lim A k + BB * val rs) V
    have h2 := Int.emod_lt_of_pos (lim A k + BB * val rs) hVp
    rw [← hd] at h1
    omega
  refine ⟨by simp [h.len], limbs_set h.limbs k hd0 (by rw [hd]; exact hr.2), hls.limbs, by rw [hls.val]; exact hlt, ?_, ?_, ?_⟩
  · rcases Nat.lt_or_ge n ls.length with hg | hg
    · obtain ⟨j, hj⟩ : ∃ j, ls.length = j + 1 := ⟨ls.length - 1, by omega⟩
      have h1 := val_ge hls.limbs hls.trim j hj
      rw [hls.val] at h1
      have := pw_le (show n ≤ j by omega)
      omega
    · exact hg
  · intro j hj
    have := h.zeros j (by omega)
    rw [lim_nat] at this ⊢
    rw [List.getD_eq_getElem?_getD, List.getElem?_set_ne (by omega), ← List.getD_eq_getElem?_getD]
    exact this
  · rw [val_set qs k d (by rw [h.len]; exact hk), h.zeros k (by omega), hls.val, h.eq, pv, pw_succ]
    grind

theorem div_end {A qs rs : List Int} {n m : Nat} {a b P V : Int} (h : DivInv A V n m 0 qs rs) (hP : 0 < P) (hb : 0 < b) (hA : val A = a * P) (hV : V = b * P) : val qs = a / b ∧ val rs / P = a % b ∧ 0 ≤ val rs := by
  have e := h.eq
  simp only [pv, Int.pow_zero, Int.mul_one, Int.add_zero] at e
  rw [hA, hV] at e
  have hlt := h.rlt
  rw [hV] at hlt
  have h0 := (val_bd h.rlimbs).1
  generalize val qs = Q at e ⊢
  generalize val rs = r at e hlt h0 ⊢
  have hr : r = (a - Q * b) * P := by grind
  have ht0 : 0 ≤ a - Q * b := by
    rcases Int.lt_or_le (a - Q * b) 0 with hl | hl
    · have := Int.mul_pos (show 0 < -(a - Q * b) by omega) hP
      rw [Int.neg_mul] at this
      omega
    · exact hl
  have ht1 : a - Q * b < b := by
    rw [hr] at hlt
    exact Int.lt_of_mul_lt_mul_right hlt (Int.le_of_lt hP)
  have e2 : a = (a - Q * b) + b * Q := by rw [Int.mul_comm b]; omega
  refine ⟨?_, ?_, h0⟩
  · rw [e2, Int.add_mul_ediv_left _ _ (by omega), Int.ediv_eq_zero_of_lt ht0 ht1]; omega
  · rw [hr, Int.mul_ediv_cancel _ (by omega)]
    conv => rhs; rw [e2]
    rw [Int.add_mul_emod_self_left, Int.emod_eq_of_lt ht0 ht1]

end Go.Proofs.Ytnkjfandknndkaa
