/-
  The leading term of a product.
-/
import Derived.Test.YtbdldijgcmgfaaaGreatZeroW
namespace Go.Proofs.YtbdldijgcmgfaaaGreat
open Go.RowKit

theorem UpM.add {o : Int} {m n : Mo} (h : UpM o m n) (r : Mo) (ho : Ord o) : UpM o (addM m r) (addM n r) := Mn.Up.add h ho.lo ho.hi
theorem addM_comm (m n : Mo) : addM m n = addM n m := by refine Mo.ext4 ?_ ?_ ?_ ?_ <;> simp only [addM] <;> omega
/-- The head is the greatest. -/
theorem head_up {o : Int} {s : TL} {l : List TL} (hf : Falls o (s :: l)) {x : TL} (hx : x ∈ s :: l) : x = s ∨ UpM o s.m x.m := by
  rcases List.mem_cons.1 hx with h | h
  · exact .inl h
  · exact .inr ((List.pairwise_cons.1 hf).1 x h)
theorem cv_zero_of {p : List TL} {F : Mo → Int} {m : Mo} (h : ∀ x ∈ p, F (subM m x.m) = 0) : cv p F m = 0 := by
  induction p with
  | nil => rfl
  | cons x p ih =>
    simp only [cv]
    rw [h x (.head _), ih fun y hy => h y (.tail _ hy)]
    simp
theorem lead_math {o : Int} (ho : Ord o) {s t : TL} {p q r : List TL} {K L N : Nat} (hp : IntP o K (s :: p)) (hq : IntP o L (t :: q)) (hr : IntP o N r) (hc : ∀ m, coef r m = cv (s :: p) (coef (t :: q)) m) (hm : ∀ y ∈ r, ∃ x ∈ s :: p, ∃ u ∈ t :: q, y.m = addM x.m u.m) : ∃ y r', r = y :: r' ∧ y.m = addM s.m t.m := by
  -- what a pair comes to
  have pair : ∀ x ∈ s :: p, ∀ u ∈ t :: q, addM x.m u.m = addM s.m t.m ∨ UpM o (addM s.m t.m) (addM x.m u.m) := by
    intro x hx u hu
    rcases head_up hp.falls hx with rfl | h1
    · rcases head_up hq.falls hu with rfl | h2
      · exact .inl rfl
      · have := h2.add x.m ho
        rw [addM_comm t.m, addM_comm u.m] at this
        exact .inr this
    · rcases head_up hq.falls hu with rfl | h2
      · exact .inr (h1.add u.m ho)
      · have h3 := h2.add x.m ho
        rw [addM_comm t.m, addM_comm u.m] at h3
        have h4 := h1.add t.m ho
        exact .inr (h4.trans h3 ho)
  have hlead : coef r (addM s.m t.m) ≠ 0 := by
    rw [hc]
    simp only [cv]
    have e1 : subM (addM s.m t.m) s.m = t.m := by refine Mo.ext4 ?_ ?_ ?_ ?_ <;> simp only [subM, addM] <;> omega
    rw [e1, coef_falls ho hq.falls (.head _), cv_zero_of, Int.add_zero]
    · exact Int.mul_ne_zero (hp.nz s (.head _)) (hq.nz t (.head _))
    · intro x hx
      refine coef_none fun u hu e => ?_
      have e2 : addM x.m u.m = addM s.m t.m := (sub_iff _ _ _).2 e
      have h1 := (List.pairwise_cons.1 hp.falls).1 x hx
      rcases head_up hq.falls hu with rfl | h2
      · have := h1.add u.m ho
        rw [e2] at this
        exact this.self ho
      · have h3 := h2.add x.m ho
        rw [addM_comm t.m, addM_comm u.m, e2] at h3
        exact ((h1.add t.m ho).trans h3 ho).self ho
  obtain ⟨y, hy, hym⟩ := coef_mem hlead
  match r, hr, hy, hm with
  | z :: r', hr, hy, hm =>
    refine ⟨z, r', rfl, ?_⟩
    obtain ⟨x, hx, u, hu, e⟩ := hm z (.head _)
    rcases pair x hx u hu with h | h
    · rw [e, h]
    · rcases head_up hr.falls hy with rfl | h2
      · exact hym
      · rw [hym, e] at h2
        exact (h2.irr h ho).elim

/-- What the product of two that were made is. -/
theorem lead_made {o : Int} (ho : Ord o) {p q x : List TL} {k : Int} (hp : Made o p) (hq : Made o q) (h : MulP o p q x k) :
    (k = 90 ∧ x = []) ∨ (k = 0 ∧ (p = [] ∨ q = [] → x = []) ∧ ∀ s p' t q', p = s :: p' → q = t :: q' → ∃ y r', x = y :: r' ∧ y.m = addM s.m t.m) := by
  have h1 := hp.len
  have h2 := hq.len
  have hb : p.length * q.length ≤ 10 * 10 := Nat.mul_le_mul h1 h2
  obtain ⟨r, a1, a2, a3, a4, a5, a6⟩ := mul_small (K := 1280) (L := 1280) ho hp.int hq.int (by omega) (by omega) (fun x hx t ht => low_add (hp.low x hx) (hq.low t ht)) (by omega) (by omega) (by omega) (by omega) (by omega) h
  by_cases hr : 60 < r.length
  · obtain ⟨b1, b2⟩ := a4 hr
    exact .inl ⟨b2, b1⟩
  · obtain ⟨b1, b2⟩ := a5 (by omega)
    subst b1
    refine .inr ⟨b2, fun he => ?_, fun s p' t q' e1 e2 => ?_⟩
    · have : x.length ≤ 0 := by
        rcases he with he | he <;> rw [he] at a3 <;> simpa using a3
      exact List.length_eq_zero_iff.1 (by omega)
    · subst e1 e2
      exact lead_math ho hp.int hq.int a1 a2 a6
end Go.Proofs.YtbdldijgcmgfaaaGreat
