/-
  The reference's Same: whether two rows are the same.
-/
import Derived.Test.YtghnmfkgpkikfaaDoorBase
namespace Go.Proofs.YtghnmfkgpkikfaaDoor
open Go.RowKit

theorem Eqw.refl (w : World) : Eqw w w := ⟨rfl, rfl, rfl, rfl⟩
theorem Eqw.cell {w' w : World} (h : Eqw w' w) (a : Addr) : w'.cell? a = w.cell? a := by simp [World.cell?, h.heap]
theorem Eqw.drewN {w' w : World} (h : Eqw w' w) (n : Nat) : Eqw (w'.drewN n) w := ⟨h.heap, h.os, h.output, h.tape⟩
theorem Eqw.drew {w' w : World} (h : Eqw w' w) : Eqw w'.drew w := ⟨h.heap, h.os, h.output, h.tape⟩

theorem ret_bool {a b : Bool} (h : a = b) : Ending.returned (.bool a) = .returned (.bool b) := by rw [h]

theorem eq_of_getD {xs ys : List Int} (h : xs.length = ys.length) (hk : ∀ j, j < xs.length → xs.getD j 0 = ys.getD j 0) : xs = ys := by
  apply List.ext_getElem h
  intro i h1 h2
  have := hk i h1
  simpa [h1, h2] using this

theorem RowAt.on {w w' w'' : World} {ao : Option Addr} {n cap : Nat} {xs : List Int} (h : RowAt w ao n cap xs) (hb : Below w.heap.size w w') (hb' : Below w'.heap.size w' w'') : RowAt w'' ao n cap xs := (h.below hb).below hb'
theorem chain {w w' w'' : World} (hb : Below w.heap.size w w') (hb' : Below w'.heap.size w' w'') : Below w.heap.size w w'' := hb.trans (hb'.mono hb.size)
end Go.Proofs.YtghnmfkgpkikfaaDoor
