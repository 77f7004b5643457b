/-
  A world in which the listed table holds its data; the table of half bytes out of a row's list.
-/
import Derived.Test.YtfpiepephljmgaaDoorGSum
import Derived.Test.YtfpiepephljmgaaDoorCards
import Derived.Test.YtfpiepephljmgaaDoorTie
import Derived.ProofKit
import Derived.OpenShut
import Derived.ShutString
import Derived.ChangeOld
import Derived.Below
import Derived.Deep.DeepHandedRow
import Derived.Lib.LaidTab
import Derived.Stop.LaidErr
import Derived.SevenTiedAt
namespace Go.Proofs.YtfpiepephljmgaaDoor
open Go.ChangeShapes Go.WideShapes Go.ChangeAt Go.RowKit

theorem own : ownKnob Tryd.prog.godebug = none := by kernel_rfl
theorem laidOut : laidOutB Tryd.prog = true := by kernel_rfl

/-- A slice of integers that came in: nil, or a row of 'cap' cells. -/
def IsRow (k : IntKind) (w : World) (a : Option Addr) (len cap : Nat) (zs : List Int) : Prop :=
  (a = none ∧ len = 0 ∧ cap = 0 ∧ zs = []) ∨
  ∃ x, a = some x ∧ len ≤ cap ∧ cap ≤ maxLen ∧ zs.length = cap ∧ (∀ i, i < zs.length → w.cell? (x.add i) = some (.int k (zs.getD i 0))) ∧ ∀ n ∈ zs, (Lit.int k n).wf = true

/-- The cells of a number, or of two in one. -/
def cellsOne : DataW Unit → List Value
  | .lit (.int k z) => [.int k z]
  | _ => []
/-- The cells of a table. -/
def cellsAll : DataW Unit → Array Value
  | .agg ds => (ds.flatMap cellsOne).toArray
  | _ => #[]
def laidIn (w : World) (b : Nat) (cs : Array Value) : World :=
  { w with heap := w.heap.modify b fun
      | .cells _ t fr => .cells cs t fr
      | o => o }
def laidAll (P : Program) : List (String × DataW Unit) → World → World
  | [], w => w
  | (n, d) :: r, w => laidAll P r (match P.globalNamed n with | some g => laidIn w g (cellsAll d) | none => w)
/-- The settled world, the listed tables laid in it. -/
def laidWorld (P : Program) (l : List (String × DataW Unit)) (os : Os) : World := laidAll P l (World.holding P os ⟨#[], #[], []⟩)

/-- The table's name, out of a row's list. -/
def fourName : String := (Rows.guardNoneRow.laid.map (·.1)).headD default
theorem fourAt : Tryd.prog.globalNamed fourName = some 0 := by kernel_rfl
theorem fourType : (Tryd.prog.globals[0]?).map (·.type) = some 63 := by kernel_rfl
theorem fourCells : Tryd.prog.cellsOf 63 = 16 := by kernel_rfl
theorem fourCell : Tryd.prog.cellsOf 41 = 1 := by kernel_rfl

theorem tab_of {W : World} (h : laidMetH Tryd.prog Rows.guardNoneRow.laid W) : Tab W := by
  have h1 : Lib.TabIs Tryd.prog W fourName .u32 tab := Lib.tabIs_of_head (rest := []) fourAt fourType (by kernel_rfl) (by kernel_rfl) fourCell fourCells h
  intro i hi
  exact h1.cell fourAt i hi
end Go.Proofs.YtfpiepephljmgaaDoor
