/-
  The law's small case: 258 as bytes.
-/
import Derived.Test.YtmmbgfbliekkgaaOctE
namespace Go.Proofs.Ytmmbgfbliekkgaa
open Go.RowKit

theorem bitLen258 : bitLen 258 = 9 := by decide
theorem putL258 : putL 258 = [2, 1, 2] := by
  unfold putL cntB
  rw [bitLen258]
  rfl
theorem put258 (w : World) : Calls Try.prog 15 #[.int .u64 258] w fun e w' => e = .returned (.string (str [2, 1, 2])) ∧ Below w.heap.size w w' := by
  have h := put_any 258 w (by decide) (by decide)
  rw [show (258 : Int).toNat = 258 from rfl, putL258] at h
  exact h

set_option maxRecDepth 100000 in
set_option maxHeartbeats 1000000 in
theorem shown_any (w : World) : Calls Try.prog 10 #[] w fun e w' => e = .returned (.bool true) ∧ Below w.heap.size w w' := by
  have hcat : str [2, 1, 2] ++ { data := #[122] } = str [2, 1, 2, 122] := rfl
  have hsz : (str [2, 1, 2]).size = 3 := rfl
  have e1 : ((str [122]).toList == [122]) = true := by rw [beq_iff_eq, Lib.toList_data]; rfl
  have e2 : ((str [2, 1, 2]).toList == [2, 1, 2]) = true := by rw [beq_iff_eq, Lib.toList_data]; rfl
  go_enter Try.func10, Try.ntmps10
  go_wp2_with fail
  refine (put258 _).mono ?_
  rintro e w1 ⟨rfl, h1⟩
  have H1 : Hid (Below w.heap.size w w1) := h1
  clear h1
  go_wp2_with fail
  refine (get_ok [2, 1, 2, 122] 258 [122] _ (by rfl) (by decide)).mono ?_
  rintro e w2 ⟨rfl, h1⟩
  have H2 : Hid (Below w.heap.size w w2) := chain H1.out h1
  clear h1
  go_wp2_with fail
  refine (put258 _).mono ?_
  rintro e w3 ⟨rfl, h1⟩
  have H3 : Hid (Below w.heap.size w w3) := chain H2.out h1
  clear h1
  go_wp2_with fail
  go_ret
  exact ⟨rfl, H3.out⟩
end Go.Proofs.Ytmmbgfbliekkgaa
