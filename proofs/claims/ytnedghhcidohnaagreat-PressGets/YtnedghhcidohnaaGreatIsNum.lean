/-
  digit.isNumber: digits alone, and none that is 0 ahead of others.
-/
import Derived.BigCall
import Derived.BigGuard
import Derived.Deep.CutBlock
import Derived.Deep.CutRange
import Derived.Deep.DrawnRows
import Derived.Deep.RegionHeld3
import Derived.Laws.CopyOwn
import Derived.Lib.ConvBytes
import Derived.LoopIn
import Derived.LoopNIn
import Derived.Maps.AppendAt
import Derived.OwnWalkIn
import Derived.RangeFuncBound
import Derived.RangeFuncBox
import Derived.RangeFuncCalls
import Derived.RangeFuncLeaves
import Derived.RangeFuncNested
import Derived.TacticsInMore
import Derived.Test.YtnedghhcidohnaaGreatRows
import Derived.WalkKit
import Derived.Test.YtnedghhcidohnaaGreatJE1
import Derived.Test.YtnedghhcidohnaaGreatJG1
import Derived.Test.YtnedghhcidohnaaGreatTextMath
import Derived.Test.YtnedghhcidohnaaGreatJB1
namespace Go.Proofs.YtnedghhcidohnaaGreat
open Go.RowKit

theorem dstr_list (s : List UInt8) : (⟨s.toArray⟩ : ByteArray).toList = s := by rw [Lib.toList_data]
theorem dstr_size (s : List UInt8) : (⟨s.toArray⟩ : ByteArray).size = s.length := by simp [ByteArray.size]

theorem dstr_get0 {s : List UInt8} {S : ByteArray} (h : S = ⟨s.toArray⟩) (h0 : 0 < S.size) : S[0] = s.getD 0 0 := by
  subst h
  cases s with
  | nil => simp [ByteArray.size] at h0
  | cons c r => rfl

theorem dbelow_bytes (w : World) (e : TypeId) (s : ByteArray) : Below w.heap.size w (Lib.bytesWorld w e s) :=
  ⟨rfl, rfl, rfl, by rw [Lib.bytesWorld_size]; omega, fun k hk => Lib.bytesWorld_at_old w e s k hk⟩

end Go.Proofs.YtnedghhcidohnaaGreat
