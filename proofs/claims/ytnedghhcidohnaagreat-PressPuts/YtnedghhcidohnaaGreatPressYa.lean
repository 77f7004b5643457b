/-
  How many bytes a polynomial has: no program.
-/
import Derived.Test.YtnedghhcidohnaaGreatPressA
import Derived.Test.YtnedghhcidohnaaGreatPolyRR
import Derived.Test.YtnedghhcidohnaaGreatJL1
namespace Go.Proofs.YtnedghhcidohnaaGreat
open Go.RowKit

theorem cnt_few (n : Nat) (h : n ≤ 60) (h0 : 0 < n) : cntB n = 1 := by
  rw [cntB_next n h0, Nat.div_eq_of_lt (by omega), cntB_zero]
theorem tm_parts {t : TL} (h : MayT t) (hz : t.c.top ≠ 0) : (0 < t.c.num.length ∧ t.c.num.length ≤ 8) ∧ (0 < t.c.den.length ∧ t.c.den.length ≤ 8) := by
  refine ⟨⟨Nat.pos_of_ne_zero fun e => hz ?_, h.c.num.1⟩, ⟨Nat.pos_of_ne_zero fun e => h.c.pos ?_, h.c.den.1⟩⟩
  · have : t.c.num = [] := List.length_eq_zero_iff.1 e
    exact (sg_zero t.c.neg).2 (by rw [this]; rfl)
  · have : t.c.den = [] := List.length_eq_zero_iff.1 e
    rw [this]; rfl
/-- A term's bytes, counted. -/
def szT (t : TL) : Nat := 9 + 8 * t.c.num.length + 8 * t.c.den.length
theorem putTm_sz {t : TL} (h : MayT t) (hz : t.c.top ≠ 0) : (putTm t).length = szT t := by
  obtain ⟨⟨a, b⟩, c, d⟩ := tm_parts h hz
  simp only [putTm, putR, szT, List.length_append, List.length_cons, List.length_nil, putN_length]
  rw [cnt_few _ (by omega) a, cnt_few _ (by omega) c]
  omega
def szs : List TL → Nat
  | [] => 0
  | t :: l => szT t + szs l
theorem szs_append (l m : List TL) : szs (l ++ m) = szs l + szs m := by
  induction l with
  | nil => simp [szs]
  | cons t l ih => simp [szs, ih]; omega
theorem putTms_sz : ∀ l : List TL, (∀ t ∈ l, MayT t ∧ t.c.top ≠ 0) → (l.flatMap putTm).length = szs l ∧ szs l ≤ 137 * l.length
  | [], _ => by simp [szs]
  | t :: l, h => by
    have h1 := h t (.head _)
    have h2 := putTms_sz l (fun s hs => h s (.tail _ hs))
    have h3 := putTm_sz h1.1 h1.2
    have h4 := tm_parts h1.1 h1.2
    rw [List.flatMap_cons, List.length_append, List.length_cons, Nat.mul_add]
    simp only [szs]
    have h5 : szT t ≤ 137 := by unfold szT; omega
    omega
theorem szs_take {l : List TL} {i : Nat} {t : TL} (h : l[i]? = some t) : szs (l.take (i + 1)) = szs (l.take i) + szT t := by
  have : l.take (i + 1) = l.take i ++ [t] := by
    rw [List.take_add_one, h]; rfl
  rw [this, szs_append]; simp [szs]
theorem szs_le {l : List TL} (h : ∀ t ∈ l, MayT t ∧ t.c.top ≠ 0) (i : Nat) : szs (l.take i) ≤ 137 * l.length := by
  have h1 := (putTms_sz (l.take i) (fun t ht => h t (List.mem_of_mem_take ht))).2
  have h2 : (l.take i).length ≤ l.length := by rw [List.length_take]; omega
  have := Nat.mul_le_mul_left 137 h2
  omega
theorem putPs_sz {p : List TL} (h : MayA p) : (putPs p).length = (if p.length = 0 then 1 else 2) + szs p := by
  have h1 := (putTms_sz p (fun t ht => ⟨h.may t ht, h.nz t ht⟩)).1
  simp only [putPs, List.length_append, putL_length, h1]
  by_cases e : p.length = 0
  · rw [if_pos e, e, cntB_zero]
  · rw [if_neg e, cnt_few _ h.len (by omega)]
theorem MayA.ts {p : List TL} (h : MayA p) : ∀ t ∈ p, MayT t ∧ t.c.top ≠ 0 := fun t ht => ⟨h.may t ht, h.nz t ht⟩

theorem list1 {W : World} {B : Nat} {lo : Option Addr} {n nc : Nat} {ps : List TP} {ls : List TL} (h : W.heap[B]? = some (.cells #[.slice lo n nc] 23 (0, 0))) (h1 : PolyAt W lo n nc ps ls) : ListAt W (some ⟨B, 0, none⟩) 1 [ls] := by
  refine ⟨rfl, by omega, fun i hi => ?_⟩
  match i, hi with
  | 0, _ => exact ⟨B, 0, lo, n, nc, ps, ls, rfl, by rw [cell_of_row W B _ _ 23 (0, 0) h]; rfl, rfl, h1, (Array.getElem?_eq_some_iff.1 h).1⟩
end Go.Proofs.YtnedghhcidohnaaGreat
