/-
  The reference's From of layer 4, at any digits and any base.
-/
import Derived.Test.YtghnmfkgpkikfaaGreatDoorRFrom
namespace Go.Proofs.YtghnmfkgpkikfaaGreatDoor
open Go.RowKit

set_option maxHeartbeats 1000000 in
theorem rfrom_no (ao : Option Addr) (n cap : Nat) (l : List Int) (b : Int) (w : World) (h : RowAt w ao n cap l) (hd : ¬ (2 ≤ b ∧ Digs b l)) :
    Calls Tryz.prog 9 #[.slice ao n cap, .int .u64 b] w fun e w' => e = .returned (.tuple #[.slice none 0 0, .int .i64 1]) ∧ Below w.heap.size w w' := by
  have hn : n ≤ 9223372036854775807 := by have := h.fits; have := h.most; unfold maxLen at this; omega
  have HA : Hid (RowAt w ao n cap l ∧ ¬ (2 ≤ b ∧ Digs b l) ∧ l.length = n) := ⟨h, hd, h.len⟩
  clear h hd
  by_cases hb : b < 2
  · go_enter Tryz.func9, Tryz.ntmps9
    go_wp2_with fail
    go_ret2
    exact ⟨rfl, Below.refl _ _⟩
  · go_enter Tryz.func9, Tryz.ntmps9
    go_wp2_with fail
    go_loopw [6] (fun i wr => ∃ k : Nat, k ≤ n ∧ i = .int .i64 k ∧ wr = w ∧ Hid (∀ j, j < k → l.getD j 0 < b)) (fun i _ => n - (intOf i).toNat)
    case atStart => exact ⟨0, Nat.zero_le _, rfl, rfl, fun j hj => absurd hj (Nat.not_lt_zero _)⟩
    case round =>
      obtain ⟨k, hk, rfl, rfl, hz⟩ := hrel
      by_cases hlt : k < n
      · have hlt' : (k : Int) < (n : Int) := by omega
        have hkl : k < l.length := by rw [HA.out.2.2]; exact hlt
        obtain ⟨lb, loff, rfl, hllt, hlc⟩ := HA.out.1.cells (by intro e; rw [e] at hkl; simp at hkl)
        have hck := hlc k hkl
        obtain ⟨x, hx⟩ : ∃ x, x = l.getD k 0 := ⟨_, rfl⟩
        rw [← hx] at hck
        have HX : Hid (x = l.getD k 0) := hx
        clear hlc hx hkl
        by_cases hge : b ≤ x
        · go_wp2_with fail
          go_ret2
          exact ⟨rfl, Below.refl _ _⟩
        · have HG : Hid (x < b) := Int.not_le.1 hge
          go_wp2_with fail
          go_roundw
          case rel =>
            refine ⟨k + 1, by omega, by go_num, by first | rfl | trivial, fun j hj => ?_⟩
            by_cases e : j = k
            · rw [e, ← HX.out]; exact HG.out
            · exact hz.out j (by omega)
          case measure => simp [intOf]; omega
      · exfalso
        refine HA.out.2.1 ⟨by omega, fun x hx => ?_⟩
        obtain ⟨j, hj, rfl⟩ := List.getElem_of_mem hx
        have h1 := hz.out j (by have := HA.out.2.2; omega)
        rw [List.getD_eq_getElem?_getD, List.getElem?_eq_getElem hj] at h1
        exact ⟨(HA.out.1.limbs _ hx).1, h1⟩

theorem rfrom_any (ao : Option Addr) (n cap : Nat) (l : List Int) (b : Int) (w : World) (h : RowAt w ao n cap l) (hbB : b < BB) :
    Calls Tryz.prog 9 #[.slice ao n cap, .int .u64 b] w fun e w' => ∃ ro m c r k, e = .returned (.tuple #[.slice ro m c, .int .i64 k]) ∧ RowAt w' ro m c r ∧ Out (2 ≤ b ∧ Digs b l) False (dval b l) r k ∧ Below w.heap.size w w' := by
  by_cases hd : 2 ≤ b ∧ Digs b l
  · exact rfrom_yes ao n cap l b w h hd.1 hbB hd.2
  · exact (rfrom_no ao n cap l b w h hd).mono fun e w' ⟨h1, h2⟩ => ⟨none, 0, 0, [], 1, h1, RowAt.nil _, Out.arg hd, h2⟩

end Go.Proofs.YtghnmfkgpkikfaaGreatDoor
