/-
  The reference's at.
-/
import Derived.Test.YtghnmfkgpkikfaaDoorSame
namespace Go.Proofs.YtghnmfkgpkikfaaDoor
open Go.RowKit

set_option maxHeartbeats 400000 in
theorem rat_any (ao : Option Addr) (n cap : Nat) (xs : List Int) (i : Nat) (w : World) (h : RowAt w ao n cap xs) :
    Calls Tryd.prog 24 #[.slice ao n cap, .int .i64 i] w fun e w' => e = .returned (.int .u64 (lim xs i)) ∧ w' = w := by
  obtain rfl := h.len
  have hl : xs.length ≤ maxLen := Nat.le_trans h.fits h.most
  unfold maxLen at hl
  by_cases hk : i < xs.length
  · obtain ⟨b, off, rfl, hlt, hc⟩ := h.cells (by intro e; rw [e] at hk; simp at hk)
    have hck := hc i hk
    rw [← lim_nat] at hck
    clear hc h
    go_enter Tryd.func24, Tryd.ntmps24
    go_wp2
    go_ret
    exact ⟨rfl, rfl⟩
  · go_enter Tryd.func24, Tryd.ntmps24
    go_wp2
    go_ret
    exact ⟨ret_int (lim_past _ _ (by omega)).symm, rfl⟩

end Go.Proofs.YtghnmfkgpkikfaaDoor
