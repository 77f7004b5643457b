/-
  A term that comes in, taken apart; three polynomials as a slice.
-/
import Derived.Test.YtbdldijgcmgfaaaGreatPolyCame
import Derived.Test.YtbdldijgcmgfaaaGreatJV1
namespace Go.Proofs.YtbdldijgcmgfaaaGreat
open Go.ChangeShapes Go.WideShapes Go.ChangeAt Go.RowKit

set_option maxRecDepth 100000 in
theorem open_term {H : Type} {enc : TypeId × Value → H} {w : World} {r : Reach} {b0 : Nat} {v : Value} {d : DataW H} {p : List MemPlace} (hv : Value.okWide Tryz.prog w r b0 39 v) (h : DataW.Trod enc Tryz.prog w 0 (fun _ => true) true 39 v d p) :
    ∃ (q : TP) (t : TL), v = .agg #[.bool q.neg, .slice q.no q.nn q.nc, .slice q.eo q.en q.ec, .int .i64 q.a, .int .i64 q.b, .int .i64 q.c, .int .i64 q.d] ∧ TermAt w q t := by
  obtain ⟨cs, rfl, hsz⟩ := okWide_struct Tryz.underlying39 hv
  obtain ⟨fuel, hf⟩ := h
  obtain ⟨q, xs, ys, hcs, r1, r2⟩ := open_term_cells hf
  refine ⟨q, ⟨⟨q.neg, xs.take q.nn, ys.take q.en⟩, ⟨q.a, q.b, q.c, q.d⟩⟩, ?_, ⟨⟨r1.row, r2.row⟩, rfl, rfl⟩⟩
  obtain ⟨l⟩ := cs
  simp only [Value.cells] at hcs
  have hl : l = q.cs := hcs
  rw [hl]
  rfl

theorem list3 {W : World} {B : Nat} {lo mo no : Option Addr} {n m k nc mc kc : Nat} {ps qs rs : List TP} {ls ms ks : List TL} (h : W.heap[B]? = some (.cells #[.slice lo n nc, .slice mo m mc, .slice no k kc] 23 (0, 0))) (h1 : PolyAt W lo n nc ps ls) (h2 : PolyAt W mo m mc qs ms) (h3 : PolyAt W no k kc rs ks) : ListAt W (some ⟨B, 0, none⟩) 3 [ls, ms, ks] := by
  refine ⟨rfl, by omega, fun i hi => ?_⟩
  match i, hi with
  | 0, _ => exact ⟨B, 0, lo, n, nc, ps, ls, rfl, by rw [cell_of_row W B _ _ 23 (0, 0) h]; rfl, rfl, h1, (Array.getElem?_eq_some_iff.1 h).1⟩
  | 1, _ => exact ⟨B, 0, mo, m, mc, qs, ms, rfl, by rw [cell_of_row W B _ _ 23 (0, 0) h]; rfl, rfl, h2, (Array.getElem?_eq_some_iff.1 h).1⟩
  | 2, _ => exact ⟨B, 0, no, k, kc, rs, ks, rfl, by rw [cell_of_row W B _ _ 23 (0, 0) h]; rfl, rfl, h3, (Array.getElem?_eq_some_iff.1 h).1⟩
end Go.Proofs.YtbdldijgcmgfaaaGreat
