/-
  A region that draws its order, whose calls tell one value and make memory of their own: one walk, in the text's order.
-/
import Derived.Test.YtjecibpeahjenaaMK
namespace Go.Proofs.Ytjecibpeahjenaa
open Go.RowKit

/-- A world in which all that lay in W lies as it did. -/
structure Wd (W : World) where
  w : World
  h : Below W.heap.size W w

theorem Wd.at {W : World} (n : Wd W) {B : Nat} {o : Obj} (h : W.heap[B]? = some o) : n.w.heap[B]? = some o := keepAt h n.h

theorem region_wd {P : Program} {id : Nat} {Q : Exit → Act → World → Prop} {a : Act} {w : World} {l : List Oper} (hm : P.follows .mixedOrders = true) (hB : Region.lexB .any l.toArray = true)
    (h : wpQuiet P l.toArray (fun w' => ∃ n : Wd w, w' = n.w) (fun a' => ∀ w', (∃ n : Wd w, w' = n.w) → Q .normal a' w') l a) : (Code.region id l.toArray true).wp P Q a w :=
  wp_region_quiet (C := fun w' => ∃ n : Wd w, w' = n.w) hm hB ⟨⟨_, (Below.refl _ _).drew⟩, rfl⟩ (by simpa using h)

theorem wd_of {P : Program} {f : FuncId} {args : Array Value} {W : World} {n : Wd W} {v : Value} (h : Calls P f args n.w fun e w' => e = .returned v ∧ Below n.w.heap.size n.w w') : Calls P f args n.w fun e w' => e = .returned v ∧ ∃ m : Wd W, w' = m.w :=
  h.mono fun _ _ ⟨he, hb⟩ => ⟨he, ⟨_, chain n.h hb⟩, rfl⟩

end Go.Proofs.Ytjecibpeahjenaa
