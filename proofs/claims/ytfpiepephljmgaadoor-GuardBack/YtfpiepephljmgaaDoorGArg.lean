/-
  A frame that comes in: taken apart, and put together.
-/
import Derived.Test.YtfpiepephljmgaaDoorLaidW
import Derived.Deep.Strs
namespace Go.Proofs.YtfpiepephljmgaaDoor
open Go.ChangeShapes Go.WideShapes Go.ChangeAt Go.RowKit

theorem array3 {α : Type} {cs : Array α} (h : cs.size = 3) : ∃ c0 c1 c2, cs = #[c0, c1, c2] := by
  obtain ⟨l⟩ := cs
  match l, h with
  | [c0, c1, c2], _ => exact ⟨c0, c1, c2, rfl⟩

theorem cells24 : Tryd.prog.cellsOf 24 = 3 := by kernel_rfl
theorem cells22 : Tryd.prog.cellsOf 22 = 1 := by kernel_rfl
theorem cells9 : Tryd.prog.cellsOf 9 = 1 := by kernel_rfl

variable {H : Type} {enc : TypeId × Value → H} {w : World} {base : Nat} {spare : Nat → Bool} {held : Bool}

theorem open_frame {r : Reach} {b0 : Nat} {v : Value} {d : DataW H} {p : List MemPlace} (hv : Value.okWide Tryd.prog w r b0 24 v) (h : DataW.Trod enc Tryd.prog w base spare held 24 v d p) :
    ∃ (x y : Int) (T : ByteArray), v = .agg #[.int .u64 x, .int .u64 y, .string T] ∧ d = .agg [.lit (.int .u64 x), .lit (.int .u64 y), .lit (.string T.data.toList)] ∧ p = [] ∧ ((Lit.int .u64 x).wf = true ∧ (Lit.int .u64 y).wf = true ∧ T.size ≤ maxLen) := by
  obtain ⟨cs, rfl, hsz⟩ := okWide_struct Tryd.underlying24 hv
  obtain ⟨c0, c1, c2, rfl⟩ := array3 (hsz.trans cells24)
  obtain ⟨fuel, hf⟩ := h
  obtain ⟨y0, y1, y2, n, hx, _, h0, h1, h2⟩ := Go.Deep.trod_struct3 Tryd.underlying24 hf
  simp only [Prod.mk.injEq] at hx
  obtain ⟨rfl, rfl⟩ := hx
  obtain ⟨x, e0, rfl, k0⟩ := DataW.trod_int Tryd.underlying22 (show DataW.trod enc Tryd.prog w base spare held n 22 [c0] = some y0 by simpa [Value.cells, cells22] using h0)
  obtain ⟨y, e1, rfl, k1⟩ := DataW.trod_int Tryd.underlying22 (show DataW.trod enc Tryd.prog w base spare held n 22 [c1] = some y1 by simpa [Value.cells, cells22] using h1)
  obtain ⟨T, e2, rfl, k2⟩ := DataW.trod_string Tryd.underlying9 (show DataW.trod enc Tryd.prog w base spare held n 9 [c2] = some y2 by simpa [Value.cells, cells9] using h2)
  simp only [List.cons.injEq, and_true] at e0 e1 e2
  subst e0 e1 e2
  exact ⟨x, y, T, rfl, rfl, rfl, k0, k1, k2⟩

theorem shut_frame {x y : Int} {T : ByteArray} (h : (Lit.int .u64 x).wf = true ∧ (Lit.int .u64 y).wf = true ∧ T.size ≤ maxLen) :
    DataW.Trod enc Tryd.prog w base spare held 24 (.agg #[.int .u64 x, .int .u64 y, .string T]) (.agg [.lit (.int .u64 x), .lit (.int .u64 y), .lit (.string T.data.toList)]) [] :=
  ⟨2, Go.Deep.trod_struct3_mk (n := 1) (y0 := (.lit (.int .u64 x), [])) (y1 := (.lit (.int .u64 y), [])) (y2 := (.lit (.string T.data.toList), [])) Tryd.underlying24 (by rw [cells24]; rfl)
    (by simp [Value.cells, cells22, DataW.trod, Tryd.underlying22, h.1]) (by simp [Value.cells, cells22, DataW.trod, Tryd.underlying22, h.2.1]) (by simp [Value.cells, cells9, DataW.trod, Tryd.underlying9, h.2.2])⟩
end Go.Proofs.YtfpiepephljmgaaDoor
