/-
  SameList.
-/
import Derived.Test.YtnedghhcidohnaaGreatLC1
namespace Go.Proofs.YtnedghhcidohnaaGreat
open Go.RowKit

set_option maxRecDepth 100000 in
set_option maxHeartbeats 4000000 in
theorem sameList_b (lo : Option Addr) (n cap : Nat) (mo : Option Addr) (mcap : Nat) (lss : List (List TL)) (w : World) (h : ListAt w lo n lss) (g : ListAt w mo n lss) :
    Calls Tryz.prog 19 #[.slice lo n cap, .slice mo n mcap] w fun e w' => e = .returned (.bool true) ∧ Below w.heap.size w w' := by
  have hN := h.most
  have hn0 : (0 : Int) ≤ (n : Int) := by omega
  have H : Hid (ListAt w lo n lss ∧ ListAt w mo n lss) := ⟨h, g⟩
  clear h g
  go_enter Tryz.func19, Tryz.ntmps19
  go_wp2_with fail
  go_loopg [5] n (fun m s5 wr => ∃ i : Nat, i ≤ n ∧ n - i ≤ m ∧ s5 = .int .i64 i ∧ Hid (ListAt wr lo n lss ∧ ListAt wr mo n lss ∧ Below w.heap.size w wr))
  case atStart => exact ⟨0, Nat.zero_le _, by omega, rfl, H.out.1, H.out.2, Below.refl _ _⟩
  case round =>
    obtain ⟨i, hi, hir, rfl, hI⟩ := hrel
    by_cases i0 : i < n
    · obtain ⟨b1, off1, po1, pn1, pc1, ps1, x, rfl, hc1, hx1, hat1, hlt1⟩ := hI.out.1.elem i i0
      obtain ⟨b2, off2, po2, pn2, pc2, ps2, y, rfl, hc2, hx2, hat2, hlt2⟩ := hI.out.2.1.elem i i0
      have hxy : x = y := by rw [hx1] at hx2; injection hx2
      subst hxy
      have hin : (i : Int) < (n : Int) := by omega
      have hi0' : (0 : Int) ≤ (i : Int) := by omega
      have HI : Hid (i < n ∧ n - i ≤ _ ∧ PolyAt wr po1 pn1 pc1 ps1 x ∧ PolyAt wr po2 pn2 pc2 ps2 x ∧ ListAt wr (some ⟨b1, off1, none⟩) n lss ∧ ListAt wr (some ⟨b2, off2, none⟩) n lss ∧ Below w.heap.size w wr) := ⟨i0, hir, hat1, hat2, hI.out⟩
      have E1 : ∀ m : Mn.Wd wr, m.w.cell? ⟨b1, off1 + i, none⟩ = some (.slice po1 pn1 pc1) := fun m => (m.h.cell (p := ⟨b1, off1 + i, none⟩) hlt1).trans hc1
      have E2 : ∀ m : Mn.Wd wr, m.w.cell? ⟨b2, off2 + i, none⟩ = some (.slice po2 pn2 pc2) := fun m => (m.h.cell (p := ⟨b2, off2 + i, none⟩) hlt2).trans hc2
      have wne : Nonempty (Mn.Wd wr) := ⟨⟨_, Below.refl _ _⟩⟩
      clear hx1 hx2 hat1 hat2 hlt1 hlt2 hI hi hir i0
      go_wp2_with fail
      refine Mn.region_wd (by kernel_rfl) (by kernel_rfl) ?_
      repeat (go_big_quiet_step ((go_at_call 18; exact Mn.wd_of (rsame_b _ _ _ _ x _ _ _ _ x _ (HI.out.2.2.1.below (Mn.Wd.h _)) (HI.out.2.2.2.1.below (Mn.Wd.h _)) true ⟨fun _ => rfl, fun _ => rfl⟩))))
      refine wpQuiet_nil ?_
      intro _ hw
      obtain ⟨nq, hq⟩ := hw
      subst hq
      have HN : Hid (ListAt nq.w (some ⟨b1, off1, none⟩) n lss ∧ ListAt nq.w (some ⟨b2, off2, none⟩) n lss ∧ Below w.heap.size w nq.w) := ⟨HI.out.2.2.2.2.1.below nq.h, HI.out.2.2.2.2.2.1.below nq.h, chain HI.out.2.2.2.2.2.2 nq.h⟩
      clear wne E1 E2
      go_wp2
      go_roundg (n - (i + 1))
      case measure => have := HI.out.1; have := HI.out.2.1; omega
      case rel => exact ⟨i + 1, by have := HI.out.1; omega, Nat.le_refl _, by go_num, HN.out⟩
    · have hin : i = n := by omega
      have HF : Hid (Below w.heap.size w wr) := hI.out.2.2
      subst hin
      clear hI hi hir i0
      go_wp2_with fail
      go_ret
      exact ⟨rfl, HF.out⟩
end Go.Proofs.YtnedghhcidohnaaGreat
