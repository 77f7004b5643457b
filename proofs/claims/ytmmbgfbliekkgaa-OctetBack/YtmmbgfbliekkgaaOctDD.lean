/-
  A number that comes in: taken apart.
-/
import Derived.Test.YtmmbgfbliekkgaaJ1
import Derived.Test.YtmmbgfbliekkgaaCame
import Derived.Deep.Strs
namespace Go.Proofs.Ytmmbgfbliekkgaa
open Go.ChangeShapes Go.WideShapes Go.ChangeAt Go.RowKit

theorem array3 {α : Type} {cs : Array α} (h : cs.size = 3) : ∃ c0 c1 c2, cs = #[c0, c1, c2] := by
  obtain ⟨l⟩ := cs
  match l, h with
  | [c0, c1, c2], _ => exact ⟨c0, c1, c2, rfl⟩

theorem cells26 : Try.prog.cellsOf 26 = 3 := by kernel_rfl
theorem cells24 : Try.prog.cellsOf 24 = 1 := by kernel_rfl
theorem cells4 : Try.prog.cellsOf 4 = 1 := by kernel_rfl

variable {H : Type} {enc : TypeId × Value → H} {w : World}

theorem open_nat {n : Nat} {c : Value} {y : DataW H × List MemPlace} (h : DataW.trod enc Try.prog w 0 (fun _ => true) true n 24 [c] = some y) :
    ∃ ao len cap xs, c = .slice ao len cap ∧ IsRow .u64 w ao len cap xs := by
  rcases open_ints Try.underlying24 Try.underlying22 (by kernel_rfl) h with ⟨hcs, _⟩ | ⟨x, l, c', zs, hcs, _, hl, hm, hz, _, hcell, hwz⟩
  · simp at hcs
    exact ⟨none, 0, 0, [], hcs, .inl ⟨rfl, rfl, rfl, rfl⟩⟩
  · simp at hcs
    exact ⟨some x, l, c', zs, hcs, .inr ⟨x, rfl, hl, hm, by simpa using hz, hcell, hwz⟩⟩

set_option maxRecDepth 100000 in
theorem open_rat {r : Reach} {b0 : Nat} {v : Value} {d : DataW H} {p : List MemPlace} (hv : Value.okWide Try.prog w r b0 26 v) (h : DataW.Trod enc Try.prog w 0 (fun _ => true) true 26 v d p) :
    ∃ g no nn nc xs eo en ec ys, v = .agg #[.bool g, .slice no nn nc, .slice eo en ec] ∧ IsRow .u64 w no nn nc xs ∧ IsRow .u64 w eo en ec ys := by
  obtain ⟨cs, rfl, hsz⟩ := okWide_struct Try.underlying26 hv
  obtain ⟨c0, c1, c2, rfl⟩ := array3 (hsz.trans cells26)
  obtain ⟨fuel, hf⟩ := h
  obtain ⟨y0, y1, y2, n, hx, _, h0, h1, h2⟩ := Go.Deep.trod_struct3 Try.underlying26 hf
  obtain ⟨g, e0, _⟩ := DataW.trod_bool Try.underlying4 (show DataW.trod enc Try.prog w 0 (fun _ => true) true n 4 [c0] = some y0 by simpa [Value.cells, cells4] using h0)
  obtain ⟨no, nn, nc, xs, rfl, r1⟩ := open_nat (show DataW.trod enc Try.prog w 0 (fun _ => true) true n 24 [c1] = some y1 by simpa [Value.cells, cells24] using h1)
  obtain ⟨eo, en, ec, ys, rfl, r2⟩ := open_nat (show DataW.trod enc Try.prog w 0 (fun _ => true) true n 24 [c2] = some y2 by simpa [Value.cells, cells24] using h2)
  simp only [List.cons.injEq, and_true] at e0
  subst e0
  exact ⟨g, no, nn, nc, xs, eo, en, ec, ys, rfl, r1, r2⟩
end Go.Proofs.Ytmmbgfbliekkgaa
