/-
  NARROWER THAN 'FOR EVERY INPUT', by the rows' own cells (each row's printed sentence says how): GuardTells: laid · GuardBack: laid · GuardTurned: laid · GuardOrder: laid · GuardLinear: laid · GuardCut: laid · GuardNone: laid.
  DERIVED. THE GIVEN ROWS OF THIS SEAT. 7 by the template 'for every input the law returns true; each argument reads behind the call as it read before'; 0 by the template 'total and deterministic' (their statements: YtfpiepephljmgaaDoorTotals.lean).
  GIVEN WITH THE SEED: the statements are not yours to turn. If you find one false, say at which input.
  Laid BY PROGRAM, IN A SANDBOX (cutbox-rows.mjs): the forced cells as the released guide's own fill.sh prints them over the translation 2168b358d3f185a2… (all of the seat's roots in one cut). By AI agents, Wed Nov 11 2026. No macro, syntax, notation, axiom, sorry.
-/
import Derived.Test.YtfpiepephljmgaaDoorChecked
import GoSem.Claim
import GoSem.ClaimJoined
import GoSem.ClaimMapViews
import Derived.JoinedTies
import Derived.KernelRfl
namespace Go.Proofs.YtfpiepephljmgaaDoor
/- THE CELL 'sum', in the pinned program and in every row, IS THE sha256 OF THE DUMP (.gsa) THAT YtfpiepephljmgaaDoorProg.lean LOADS. Nothing in Lean hashes anything: it is a label: what it is worth is what the hold of that sum in a sandbox is worth. -/
noncomputable def Tryd.pinned : Pinned := { name := "ytfpiepephljmgaadoor", sum := "2168b358d3f185a29c5e999fae8adc098573a07d77f29c892c11795d7771c4b3", checked := Tryd.checked }
namespace Rows
def none {H : Type} : Left H := { results := [], args := [] }

/- WHAT THE LISTED PACKAGE-LEVEL VARIABLES READ AS WHEN THE CALL BEGINS. Each datum BY PROGRAM (the guide's laid-datum.mjs) off the statement by which the dump's own 'gosem.cut.vars' lays the variable. In a bare row this is a premise. The card (YtfpiepephljmgaaDoorCards.lean) ties it to the program's text. -/
def laid_syzygy_guard_fourSteps {H : Type} : DataW H := .agg [.lit (.int .u32 0), .lit (.int .u32 498536548), .lit (.int .u32 997073096), .lit (.int .u32 651767980), .lit (.int .u32 1994146192), .lit (.int .u32 1802195444), .lit (.int .u32 1303535960), .lit (.int .u32 1342533948), .lit (.int .u32 3988292384), .lit (.int .u32 4027552580), .lit (.int .u32 3604390888), .lit (.int .u32 3412177804), .lit (.int .u32 2607071920), .lit (.int .u32 2262029012), .lit (.int .u32 2685067896), .lit (.int .u32 3183342108)]

/-- 'syzygylaw07.GuardTells': WHATEVER THE INPUT: true; the input reads as it did. -/
def guardTellsSpec : ChangeSpec := { name := "guardTells", fn := fun _ => fun
  | [d1, d2, d3] => { results := [.lit (.bool true)], args := [d1, d2, d3] }
  | _ => none }
def guardTellsRow : OpenClaim := { program := "ytfpiepephljmgaadoor", sum := "2168b358d3f185a29c5e999fae8adc098573a07d77f29c892c11795d7771c4b3", func := "syzygy/syzygylaw07.GuardTells", spec := "guardTells", unfollowed := true, recurses := true, named := ["syzygy/guard.fourSteps"], apart := false, laid := [("syzygy/guard.fourSteps", laid_syzygy_guard_fourSteps)] }
def GuardTellsSaid : Prop := guardTellsRow.holds Tryd.pinned (OpenSpec.ofChange guardTellsSpec)

/-- ITS FALSE NEIGHBOUR: 'it returns false'. Refute it at one input. -/
def guardTellsWrong : ChangeSpec := { name := "guardTells", fn := fun _ => fun
  | [d1, d2, d3] => { results := [.lit (.bool false)], args := [d1, d2, d3] }
  | _ => none }
def GuardTellsWrongFalsely : Prop := guardTellsRow.holds Tryd.pinned (OpenSpec.ofChange guardTellsWrong)

/-- 'syzygylaw07.GuardBack': WHATEVER THE INPUT: true; the input reads as it did. -/
def guardBackSpec : ChangeSpec := { name := "guardBack", fn := fun _ => fun
  | [d1, d2, d3, d4] => { results := [.lit (.bool true)], args := [d1, d2, d3, d4] }
  | _ => none }
def guardBackRow : OpenClaim := { program := "ytfpiepephljmgaadoor", sum := "2168b358d3f185a29c5e999fae8adc098573a07d77f29c892c11795d7771c4b3", func := "syzygy/syzygylaw07.GuardBack", spec := "guardBack", unfollowed := true, recurses := true, named := ["syzygy/guard.fourSteps"], apart := false, laid := [("syzygy/guard.fourSteps", laid_syzygy_guard_fourSteps)] }
def GuardBackSaid : Prop := guardBackRow.holds Tryd.pinned (OpenSpec.ofChange guardBackSpec)

/-- ITS FALSE NEIGHBOUR: 'it returns false'. Refute it at one input. -/
def guardBackWrong : ChangeSpec := { name := "guardBack", fn := fun _ => fun
  | [d1, d2, d3, d4] => { results := [.lit (.bool false)], args := [d1, d2, d3, d4] }
  | _ => none }
def GuardBackWrongFalsely : Prop := guardBackRow.holds Tryd.pinned (OpenSpec.ofChange guardBackWrong)

/-- 'syzygylaw07.GuardTurned': WHATEVER THE INPUT: true; the input reads as it did. -/
def guardTurnedSpec : ChangeSpec := { name := "guardTurned", fn := fun _ => fun
  | [d1, d2, d3] => { results := [.lit (.bool true)], args := [d1, d2, d3] }
  | _ => none }
def guardTurnedRow : OpenClaim := { program := "ytfpiepephljmgaadoor", sum := "2168b358d3f185a29c5e999fae8adc098573a07d77f29c892c11795d7771c4b3", func := "syzygy/syzygylaw07.GuardTurned", spec := "guardTurned", named := ["syzygy/guard.fourSteps"], apart := false, laid := [("syzygy/guard.fourSteps", laid_syzygy_guard_fourSteps)] }
def GuardTurnedSaid : Prop := guardTurnedRow.holds Tryd.pinned (OpenSpec.ofChange guardTurnedSpec)

/-- ITS FALSE NEIGHBOUR: 'it returns false'. Refute it at one input. -/
def guardTurnedWrong : ChangeSpec := { name := "guardTurned", fn := fun _ => fun
  | [d1, d2, d3] => { results := [.lit (.bool false)], args := [d1, d2, d3] }
  | _ => none }
def GuardTurnedWrongFalsely : Prop := guardTurnedRow.holds Tryd.pinned (OpenSpec.ofChange guardTurnedWrong)

/-- 'syzygylaw07.GuardOrder': WHATEVER THE INPUT: true; the input reads as it did. -/
def guardOrderSpec : ChangeSpec := { name := "guardOrder", fn := fun _ => fun
  | [d1, d2] => { results := [.lit (.bool true)], args := [d1, d2] }
  | _ => none }
def guardOrderRow : OpenClaim := { program := "ytfpiepephljmgaadoor", sum := "2168b358d3f185a29c5e999fae8adc098573a07d77f29c892c11795d7771c4b3", func := "syzygy/syzygylaw07.GuardOrder", spec := "guardOrder", unfollowed := true, recurses := true, named := ["syzygy/guard.fourSteps"], apart := false, laid := [("syzygy/guard.fourSteps", laid_syzygy_guard_fourSteps)] }
def GuardOrderSaid : Prop := guardOrderRow.holds Tryd.pinned (OpenSpec.ofChange guardOrderSpec)

/-- ITS FALSE NEIGHBOUR: 'it returns false'. Refute it at one input. -/
def guardOrderWrong : ChangeSpec := { name := "guardOrder", fn := fun _ => fun
  | [d1, d2] => { results := [.lit (.bool false)], args := [d1, d2] }
  | _ => none }
def GuardOrderWrongFalsely : Prop := guardOrderRow.holds Tryd.pinned (OpenSpec.ofChange guardOrderWrong)

/-- 'syzygylaw07.GuardLinear': WHATEVER THE INPUT: true; the input reads as it did. -/
def guardLinearSpec : ChangeSpec := { name := "guardLinear", fn := fun _ => fun
  | [d1, d2, d3] => { results := [.lit (.bool true)], args := [d1, d2, d3] }
  | _ => none }
def guardLinearRow : OpenClaim := { program := "ytfpiepephljmgaadoor", sum := "2168b358d3f185a29c5e999fae8adc098573a07d77f29c892c11795d7771c4b3", func := "syzygy/syzygylaw07.GuardLinear", spec := "guardLinear", named := ["syzygy/guard.fourSteps"], apart := false, laid := [("syzygy/guard.fourSteps", laid_syzygy_guard_fourSteps)] }
def GuardLinearSaid : Prop := guardLinearRow.holds Tryd.pinned (OpenSpec.ofChange guardLinearSpec)

/-- ITS FALSE NEIGHBOUR: 'it returns false'. Refute it at one input. -/
def guardLinearWrong : ChangeSpec := { name := "guardLinear", fn := fun _ => fun
  | [d1, d2, d3] => { results := [.lit (.bool false)], args := [d1, d2, d3] }
  | _ => none }
def GuardLinearWrongFalsely : Prop := guardLinearRow.holds Tryd.pinned (OpenSpec.ofChange guardLinearWrong)

/-- 'syzygylaw07.GuardCut': WHATEVER THE INPUT: true; the input reads as it did. -/
def guardCutSpec : ChangeSpec := { name := "guardCut", fn := fun _ => fun
  | [d1, d2, d3] => { results := [.lit (.bool true)], args := [d1, d2, d3] }
  | _ => none }
def guardCutRow : OpenClaim := { program := "ytfpiepephljmgaadoor", sum := "2168b358d3f185a29c5e999fae8adc098573a07d77f29c892c11795d7771c4b3", func := "syzygy/syzygylaw07.GuardCut", spec := "guardCut", named := ["syzygy/guard.fourSteps"], apart := false, laid := [("syzygy/guard.fourSteps", laid_syzygy_guard_fourSteps)] }
def GuardCutSaid : Prop := guardCutRow.holds Tryd.pinned (OpenSpec.ofChange guardCutSpec)

/-- ITS FALSE NEIGHBOUR: 'it returns false'. Refute it at one input. -/
def guardCutWrong : ChangeSpec := { name := "guardCut", fn := fun _ => fun
  | [d1, d2, d3] => { results := [.lit (.bool false)], args := [d1, d2, d3] }
  | _ => none }
def GuardCutWrongFalsely : Prop := guardCutRow.holds Tryd.pinned (OpenSpec.ofChange guardCutWrong)

/-- 'syzygylaw07.GuardNone': WHATEVER THE INPUT: true; the input reads as it did. -/
def guardNoneSpec : ChangeSpec := { name := "guardNone", fn := fun _ => fun
  | [d] => { results := [.lit (.bool true)], args := [d] }
  | _ => none }
def guardNoneRow : OpenClaim := { program := "ytfpiepephljmgaadoor", sum := "2168b358d3f185a29c5e999fae8adc098573a07d77f29c892c11795d7771c4b3", func := "syzygy/syzygylaw07.GuardNone", spec := "guardNone", named := ["syzygy/guard.fourSteps"], apart := false, laid := [("syzygy/guard.fourSteps", laid_syzygy_guard_fourSteps)] }
def GuardNoneSaid : Prop := guardNoneRow.holds Tryd.pinned (OpenSpec.ofChange guardNoneSpec)

/-- ITS FALSE NEIGHBOUR: 'it returns false'. Refute it at one input. -/
def guardNoneWrong : ChangeSpec := { name := "guardNone", fn := fun _ => fun
  | [d] => { results := [.lit (.bool false)], args := [d] }
  | _ => none }
def GuardNoneWrongFalsely : Prop := guardNoneRow.holds Tryd.pinned (OpenSpec.ofChange guardNoneWrong)

/- THE SECOND FORM. 'bulk': how many values and letters a reading holds, each counted each time it is reached (what is shared counts as often as it is met; a slice's spare places count too). A statement '..UptoSaid' is the law's where the arguments, and the package variables that the reading takes, are together of bulk at most 1048576: NARROWER than '..Said'. Prove '..Said' where nothing that the law and all that it calls make is longer than what came in: it says more and counts as full. Else prove '..UptoSaid'. A law counts once. -/
mutual
def uptoBulk {H : Type} : DataW H → Nat
  | .lit (.string bytes) => bytes.length + 1
  | .lit _ => 1
  | .nil => 1
  | .ptr d => uptoBulk d + 1
  | .slice elems spare => uptoBulkAll elems + uptoBulkAll spare + 1
  | .agg parts => uptoBulkAll parts + 1
  | .iface _ d => uptoBulk d + 1
  | .map entries => uptoBulkEntries entries + 1
  | .held _ => 1
def uptoBulkAll {H : Type} : List (DataW H) → Nat
  | [] => 0
  | d :: r => uptoBulk d + uptoBulkAll r
def uptoBulkEntries {H : Type} : List (Lit × DataW H) → Nat
  | [] => 0
  | x :: r => uptoBulkEntry x + uptoBulkEntries r
def uptoBulkEntry {H : Type} : Lit × DataW H → Nat
  | (.string bytes, d) => bytes.length + uptoBulk d + 1
  | (_, d) => uptoBulk d + 1
 end
def uptoSmall : (H : Type) → List (DataW H) → Bool := fun _ ds => decide (uptoBulkAll ds ≤ 1048576)
def OpenSpec.upto (s : _root_.Go.ChangeSpec) : _root_.Go.OpenSpec := { _root_.Go.OpenSpec.ofChange s with cond := some uptoSmall }

/-- 'syzygylaw07.GuardTells', WHERE WHAT IT READS IS OF BULK AT MOST 1048576: true; the input reads as it did. -/
def guardTellsUptoRow : OpenClaim := { program := "ytfpiepephljmgaadoor", sum := "2168b358d3f185a29c5e999fae8adc098573a07d77f29c892c11795d7771c4b3", func := "syzygy/syzygylaw07.GuardTells", spec := "guardTells", unfollowed := true, recurses := true, named := ["syzygy/guard.fourSteps"], apart := false, laid := [("syzygy/guard.fourSteps", laid_syzygy_guard_fourSteps)], narrowed := true }
def GuardTellsUptoSaid : Prop := guardTellsUptoRow.holds Tryd.pinned (OpenSpec.upto guardTellsSpec)

/-- 'syzygylaw07.GuardBack', WHERE WHAT IT READS IS OF BULK AT MOST 1048576: true; the input reads as it did. -/
def guardBackUptoRow : OpenClaim := { program := "ytfpiepephljmgaadoor", sum := "2168b358d3f185a29c5e999fae8adc098573a07d77f29c892c11795d7771c4b3", func := "syzygy/syzygylaw07.GuardBack", spec := "guardBack", unfollowed := true, recurses := true, named := ["syzygy/guard.fourSteps"], apart := false, laid := [("syzygy/guard.fourSteps", laid_syzygy_guard_fourSteps)], narrowed := true }
def GuardBackUptoSaid : Prop := guardBackUptoRow.holds Tryd.pinned (OpenSpec.upto guardBackSpec)

/-- 'syzygylaw07.GuardTurned', WHERE WHAT IT READS IS OF BULK AT MOST 1048576: true; the input reads as it did. -/
def guardTurnedUptoRow : OpenClaim := { program := "ytfpiepephljmgaadoor", sum := "2168b358d3f185a29c5e999fae8adc098573a07d77f29c892c11795d7771c4b3", func := "syzygy/syzygylaw07.GuardTurned", spec := "guardTurned", named := ["syzygy/guard.fourSteps"], apart := false, laid := [("syzygy/guard.fourSteps", laid_syzygy_guard_fourSteps)], narrowed := true }
def GuardTurnedUptoSaid : Prop := guardTurnedUptoRow.holds Tryd.pinned (OpenSpec.upto guardTurnedSpec)

/-- 'syzygylaw07.GuardOrder', WHERE WHAT IT READS IS OF BULK AT MOST 1048576: true; the input reads as it did. -/
def guardOrderUptoRow : OpenClaim := { program := "ytfpiepephljmgaadoor", sum := "2168b358d3f185a29c5e999fae8adc098573a07d77f29c892c11795d7771c4b3", func := "syzygy/syzygylaw07.GuardOrder", spec := "guardOrder", unfollowed := true, recurses := true, named := ["syzygy/guard.fourSteps"], apart := false, laid := [("syzygy/guard.fourSteps", laid_syzygy_guard_fourSteps)], narrowed := true }
def GuardOrderUptoSaid : Prop := guardOrderUptoRow.holds Tryd.pinned (OpenSpec.upto guardOrderSpec)

/-- 'syzygylaw07.GuardLinear', WHERE WHAT IT READS IS OF BULK AT MOST 1048576: true; the input reads as it did. -/
def guardLinearUptoRow : OpenClaim := { program := "ytfpiepephljmgaadoor", sum := "2168b358d3f185a29c5e999fae8adc098573a07d77f29c892c11795d7771c4b3", func := "syzygy/syzygylaw07.GuardLinear", spec := "guardLinear", named := ["syzygy/guard.fourSteps"], apart := false, laid := [("syzygy/guard.fourSteps", laid_syzygy_guard_fourSteps)], narrowed := true }
def GuardLinearUptoSaid : Prop := guardLinearUptoRow.holds Tryd.pinned (OpenSpec.upto guardLinearSpec)

/-- 'syzygylaw07.GuardCut', WHERE WHAT IT READS IS OF BULK AT MOST 1048576: true; the input reads as it did. -/
def guardCutUptoRow : OpenClaim := { program := "ytfpiepephljmgaadoor", sum := "2168b358d3f185a29c5e999fae8adc098573a07d77f29c892c11795d7771c4b3", func := "syzygy/syzygylaw07.GuardCut", spec := "guardCut", named := ["syzygy/guard.fourSteps"], apart := false, laid := [("syzygy/guard.fourSteps", laid_syzygy_guard_fourSteps)], narrowed := true }
def GuardCutUptoSaid : Prop := guardCutUptoRow.holds Tryd.pinned (OpenSpec.upto guardCutSpec)

/-- 'syzygylaw07.GuardNone', WHERE WHAT IT READS IS OF BULK AT MOST 1048576: true; the input reads as it did. -/
def guardNoneUptoRow : OpenClaim := { program := "ytfpiepephljmgaadoor", sum := "2168b358d3f185a29c5e999fae8adc098573a07d77f29c892c11795d7771c4b3", func := "syzygy/syzygylaw07.GuardNone", spec := "guardNone", named := ["syzygy/guard.fourSteps"], apart := false, laid := [("syzygy/guard.fourSteps", laid_syzygy_guard_fourSteps)], narrowed := true }
def GuardNoneUptoSaid : Prop := guardNoneUptoRow.holds Tryd.pinned (OpenSpec.upto guardNoneSpec)

end Rows
end Go.Proofs.YtfpiepephljmgaaDoor
