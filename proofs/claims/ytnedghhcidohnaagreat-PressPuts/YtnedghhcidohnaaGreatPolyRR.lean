/-
  shown: x + y, less y.
-/
import Derived.Below
import Derived.BigQuiet
import Derived.Deep.DrawnRows
import Derived.Deep.Draws
import Derived.Deep.QuietTactic
import Derived.Deep.RegionHeld3
import Derived.Deep.RegionWith
import Derived.Handy
import Derived.Laws.AppendOwnNone
import Derived.Laws.EntriesVeiled
import Derived.Laws.Rows
import Derived.Lib.AppendZeros
import Derived.MapViews
import Derived.Maps.OwnSet
import Derived.Maps.RangeWalk
import Derived.Test.YtnedghhcidohnaaGreatRows
import Derived.WalkKit
import Derived.WalkLawsBesides
import Derived.WalkSmall
import Derived.WalkSpells
import Derived.Test.YtnedghhcidohnaaGreatLD1
import Derived.Test.YtnedghhcidohnaaGreatJQ1
namespace Go.Proofs.YtnedghhcidohnaaGreat
open Go.RowKit

/-- A row of one term, of two. -/
def T1c (p : TP) : Obj := .cells #[.bool p.neg, .slice p.no p.nn p.nc, .slice p.eo p.en p.ec, .int .i64 p.a, .int .i64 p.b, .int .i64 p.c, .int .i64 p.d] 49
def T2c (p q : TP) : Obj := .cells #[.bool p.neg, .slice p.no p.nn p.nc, .slice p.eo p.en p.ec, .int .i64 p.a, .int .i64 p.b, .int .i64 p.c, .int .i64 p.d, .bool q.neg, .slice q.no q.nn q.nc, .slice q.eo q.en q.ec, .int .i64 q.a, .int .i64 q.b, .int .i64 q.c, .int .i64 q.d] 49
theorem poly1 {W : World} {b : Nat} {p : TP} {t : TL} (h : W.heap[b]? = some (T1c p)) (T : TermAt W p t) : PolyAt W (some ⟨b, 0, none⟩) 1 1 [p] [t] := by
  refine ⟨rfl, Nat.le_refl _, by unfold maxLen; omega, (fun e => by cases e), b, 0, fun _ => rfl, rfl, fun _ => (Array.getElem?_eq_some_iff.1 h).1, fun i q hq j v hv => ?_, fun i q s hq hs => ?_⟩
  · match i, hq with
    | 0, hq =>
      simp at hq
      subst hq
      have hh : W.heap[b]? = some (.cells p.cs.toArray 49 (0, 0)) := h
      rw [cell_of_row W b _ _ 49 (0, 0) hh]
      simpa using hv
  · match i, hq, hs with
    | 0, hq, hs =>
      simp at hq hs
      subst hq hs
      exact T
theorem poly2 {W : World} {b : Nat} {p q : TP} {t s : TL} (h : W.heap[b]? = some (T2c p q)) (T : TermAt W p t) (S : TermAt W q s) : PolyAt W (some ⟨b, 0, none⟩) 2 2 [p, q] [t, s] := by
  refine ⟨rfl, Nat.le_refl _, by unfold maxLen; omega, (fun e => by cases e), b, 0, fun _ => rfl, rfl, fun _ => (Array.getElem?_eq_some_iff.1 h).1, fun i r hr j v hv => ?_, fun i r u hr hu => ?_⟩
  · have hh : W.heap[b]? = some (.cells (tcells [p, q]).toArray 49 (0, 0)) := h
    rw [cell_of_row W b _ _ 49 (0, 0) hh]
    have := tcells_at [p, q] i j r v hr hv
    simpa using this
  · match i, hr, hu with
    | 0, hr, hu =>
      simp at hr hu
      subst hr hu
      exact T
    | 1, hr, hu =>
      simp at hr hu
      subst hr hu
      exact S
theorem list2 {W : World} {B : Nat} {lo mo : Option Addr} {n m nc mc : Nat} {ps qs : List TP} {ls ms : List TL} (h : W.heap[B]? = some (.cells #[.slice lo n nc, .slice mo m mc] 23 (0, 0))) (h1 : PolyAt W lo n nc ps ls) (h2 : PolyAt W mo m mc qs ms) : ListAt W (some ⟨B, 0, none⟩) 2 [ls, ms] := by
  refine ⟨rfl, by omega, fun i hi => ?_⟩
  match i, hi with
  | 0, _ => exact ⟨B, 0, lo, n, nc, ps, ls, rfl, by rw [cell_of_row W B _ _ 23 (0, 0) h]; rfl, rfl, h1, (Array.getElem?_eq_some_iff.1 h).1⟩
  | 1, _ => exact ⟨B, 0, mo, m, mc, qs, ms, rfl, by rw [cell_of_row W B _ _ 23 (0, 0) h]; rfl, rfl, h2, (Array.getElem?_eq_some_iff.1 h).1⟩
theorem new_at {W : World} {o : Obj} {b : Nat} (e : b = W.heap.size) : (W.alloc o).heap[b]? = some o := by
  subst e
  exact heap_alloc_new W o
theorem old_at {W W' : World} {o : Obj} {b : Nat} (h : W.heap[b]? = some o) (hb : Below W.heap.size W W') : W'.heap[b]? = some o := (hb.block b (Array.getElem?_eq_some_iff.1 h).1).trans h

theorem eight {W : World} {a b : Nat} (h : Mn.MBox W a 1 0 0 0) (g : Mn.MBox W b 0 1 0 0) : W.cell? ⟨a, 0, none⟩ = some (.int .i64 1) ∧ W.cell? ⟨a, 1, none⟩ = some (.int .i64 0) ∧ W.cell? ⟨a, 2, none⟩ = some (.int .i64 0) ∧ W.cell? ⟨a, 3, none⟩ = some (.int .i64 0) ∧ W.cell? ⟨b, 0, none⟩ = some (.int .i64 0) ∧ W.cell? ⟨b, 1, none⟩ = some (.int .i64 1) ∧ W.cell? ⟨b, 2, none⟩ = some (.int .i64 0) ∧ W.cell? ⟨b, 3, none⟩ = some (.int .i64 0) := ⟨h.c0, h.c1, h.c2, h.c3, g.c0, g.c1, g.c2, g.c3⟩

end Go.Proofs.YtnedghhcidohnaaGreat
