/-
  The statements' shown: that a natural has digits.
-/
import Derived.Test.YtghnmfkgpkikfaaGreatDoorBaseP
import Derived.Test.YtghnmfkgpkikfaaGreatDoorJ1
namespace Go.Proofs.YtghnmfkgpkikfaaGreatDoor
open Go.RowKit

theorem txt64 : Txt [49, 56, 52, 52, 54, 55, 52, 52, 48, 55, 51, 55, 48, 57, 53, 53, 49, 54, 49, 54] (val [0, 1]) :=
  ⟨[6, 1, 6, 1, 5, 5, 9, 0, 7, 3, 7, 0, 4, 4, 7, 6, 4, 4, 8, 1], ⟨fun d hd => by revert d; decide, fun n hn => by simp at hn; subst hn; decide, by decide⟩, by decide⟩

theorem may01 : May [0, 1] := ⟨by decide, fun n hn => by simp at hn; subst hn; decide⟩

set_option maxHeartbeats 1000000 in
theorem shown_any (w : World) (ht : Tab w) : Calls Tryz.prog 7 #[] w fun e w' => e = .returned (.bool true) ∧ Below w.heap.size w w' := by
  have H : Hid (RowAt (w.alloc (Obj.cells #[.int .u64 0, .int .u64 1] 24)) (some ⟨w.heap.size, 0, none⟩) 2 2 [0, 1]) := RowAt.laid w [0, 1] (by intro y hy; simp at hy; rcases hy with rfl | rfl <;> (unfold BB; omega)) (by simp [maxLen])
  have HT : Hid (Tab (w.alloc (Obj.cells #[.int .u64 0, .int .u64 1] 24))) := ht.below ((Below.refl _ _).alloc (Nat.le_refl _) _)
  clear ht
  go_enter Tryz.func7, Tryz.ntmps7
  go_wp2_with fail
  refine (print_any _ _ _ [0, 1] _ H.out HT.out).mono ?_
  rintro e w1 ⟨s, rfl, h1, h2⟩
  have hs := (h1.fine may01).one txt64
  subst hs
  have HB : Hid (Below w.heap.size w w1) := chain ((Below.refl _ _).alloc (Nat.le_refl _) _) h2
  clear h1 h2
  go_wp2
  go_ret
  exact ⟨rfl, HB.out⟩

end Go.Proofs.YtghnmfkgpkikfaaGreatDoor
