/-
  The statements' held: a row that may be.
-/
import Derived.Test.YtghnmfkgpkikfaaDoorNatBase
import Derived.Test.YtghnmfkgpkikfaaDoorCame
namespace Go.Proofs.YtghnmfkgpkikfaaDoor
open Go.RowKit

set_option maxHeartbeats 400000 in
/-- The statements' held: a row that may be. -/
theorem lheld_any (ao : Option Addr) (na ca : Nat) (xs : List Int) (w : World) (ha : RowAt w ao na ca xs) :
    Calls Tryd.prog 10 #[.slice ao na ca] w fun e w' => ∃ ro m cap r, e = .returned (.slice ro m cap) ∧ RowAt w' ro m cap r ∧ (May r ∧ Limbs r) ∧ m ≤ 8 ∧ Below w.heap.size w w' := by
  obtain ⟨k, hk⟩ : ∃ k, k = min na 8 := ⟨_, rfl⟩
  have hmin : (if (na : Int) ≤ 8 then (na : Int) else 8) = (k : Int) := by split <;> omega
  have hmin2 : (if (8 : Int) < (na : Int) then (8 : Int) else (na : Int)) = (k : Int) := by split <;> omega
  have hk1 : k ≤ na := by omega
  have hk8 : k ≤ 8 := by omega
  have hkc : (k : Int) ≤ (ca : Int) := by have := ha.fits; omega
  have hmost : na ≤ maxLen := Nat.le_trans ha.fits ha.most
  unfold maxLen at hmost
  have HC : Hid (RowAt w ao k ca (xs.take k)) := ha.cut k hk1
  have HL : Hid (Limbs (xs.take k) ∧ (xs.take k).length ≤ 8) := ⟨limbs_take ha.limbs k, by simp; omega⟩
  clear ha hk
  go_enter Tryd.func10, Tryd.ntmps10
  go_wp2_with fail
  refine (rtrim_any _ _ _ (xs.take k) _ HC.out (by omega)).mono ?_
  rintro e w1 ⟨ro, m, cp, r, rfl, t1, t2, t3, t4⟩
  have T1 : Hid (RowAt w1 ro m cp r) := t1
  have T2 : Hid (May r ∧ Limbs r) := ⟨⟨by rw [t1.len]; omega, t2.trim⟩, t2.limbs⟩
  have T4 : Hid (Below w.heap.size w w1) := t4
  have hm8 : m ≤ 8 := by omega
  clear t1 t2 t3 t4 hmin hmin2
  go_wp2_with fail
  go_ret
  exact ⟨ro, m, cp, r, rfl, T1.out, T2.out, hm8, T4.out⟩

end Go.Proofs.YtghnmfkgpkikfaaDoor
