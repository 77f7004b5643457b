/-
  A world in which the listed tables hold their data; the table of powers of ten out of a row's list.
-/
import Derived.Test.YtghnmfkgpkikfaaGreatDoorShelf
import Derived.Test.YtghnmfkgpkikfaaGreatDoorJ3
import Derived.Test.YtghnmfkgpkikfaaGreatDoorFmt
import Derived.ProofKit
import Derived.OpenShut
import Derived.ShutString
import Derived.ChangeOld
import Derived.Below
import Derived.Deep.DeepHandedRow
import Derived.Lib.LaidTab
import Derived.Stop.LaidErr
import Derived.SevenTiedAt
namespace Go.Proofs.YtghnmfkgpkikfaaGreatDoor
open Go.ChangeShapes Go.WideShapes Go.ChangeAt Go.RowKit

/-- The cells of a number, or of two in one. -/
def cellsOne : DataW Unit → List Value
  | .lit (.int k z) => [.int k z]
  | .agg [.lit (.int k z), .lit (.int l y)] => [.int k z, .int l y]
  | _ => []
/-- The cells of a table. -/
def cellsAll : DataW Unit → Array Value
  | .agg ds => (ds.flatMap cellsOne).toArray
  | _ => #[]
def laidIn (w : World) (b : Nat) (cs : Array Value) : World :=
  { w with heap := w.heap.modify b fun
      | .cells _ t fr => .cells cs t fr
      | o => o }
def laidAll (P : Program) : List (String × DataW Unit) → World → World
  | [], w => w
  | (n, d) :: r, w => laidAll P r (match P.globalNamed n with | some g => laidIn w g (cellsAll d) | none => w)
/-- The settled world, the listed tables laid in it. -/
def laidWorld (P : Program) (l : List (String × DataW Unit)) (os : Os) : World := laidAll P l (World.holding P os ⟨#[], #[], []⟩)

theorem pow10At : Tryz.prog.globalNamed Tryz.pow10Name = some 0 := by kernel_rfl
theorem pow10Type : (Tryz.prog.globals[0]?).map (·.type) = some 132 := by kernel_rfl
theorem pow10Cells : Tryz.prog.cellsOf 132 = 20 := by kernel_rfl
theorem pow10Cell : Tryz.prog.cellsOf 24 = 1 := by kernel_rfl

theorem tab_of {W : World} (h : laidMetH Tryz.prog Rows.digitTellsRow.laid W) : Tab W :=
  Lib.tabIs_of_head (rest := (Rows.digitTellsRow.laid.drop 3)) pow10At pow10Type Tryz.underlying132 Tryz.underlying24 pow10Cell pow10Cells (laidMet.tail (laidMet.tail h))

end Go.Proofs.YtghnmfkgpkikfaaGreatDoor
