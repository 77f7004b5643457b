/-
  The reference's Whole: halves put together.
-/
import Derived.Test.YtnkjfandknndkaaDigits
namespace Go.Proofs.Ytnkjfandknndkaa
open Go.RowKit

theorem hpv_pair (ds : List Int) (k : Nat) : hpv ds (2 * (k + 1)) = hpv ds (2 * k) + (lim ds ((2 * k : Nat) : Int) + lim ds ((2 * k + 1 : Nat) : Int) * HH) * BB ^ k := by
  rw [show 2 * (k + 1) = 2 * k + 1 + 1 by omega, hpv, hpv, hw_succ, hw_two]
  grind

theorem pair_bd {x y : Int} (hx0 : 0 ≤ x) (hx : x < HH) (hy0 : 0 ≤ y) (hy : y < HH) : 0 ≤ x + y * HH ∧ x + y * HH < BB := by unfold HH BB at *; omega

set_option maxRecDepth 100000 in
set_option maxHeartbeats 1000000 in
theorem whole_fresh (ao : Option Addr) (n cap : Nat) (ds : List Int) (w : World) (h : RowAt w ao n cap ds) (hh : Halves ds) (hn : n ≤ 200000) :
    Calls Try.prog 52 #[.slice ao n cap] w fun e w' => ∃ ro m cp r, e = .returned (.slice ro m cp) ∧ RowAt w' ro m cp r ∧ Num r (hval ds) ∧ m ≤ n ∧ Fresh w.heap.size ro ∧ Below w.heap.size w w' := by
  obtain ⟨i0, hi, hz0, hz1, hz2⟩ := info_parts Try.info50
  by_cases h0 : n = 0
  · have hx : ds = [] := List.length_eq_zero_iff.1 (h.len.trans h0)
    subst h0
    subst hx
    have HR : Hid (RowAt (w.alloc (Obj.cells #[] 50)) (some ⟨w.heap.size, 0, none⟩) 0 0 []) := (OwnR.nil w).row (by intro x hx; simp at hx)
    clear h
    go_enter Try.func52, Try.ntmps52
    go_wp2
    refine wp_loop_rounds 1 ?_
    rw [rounds_succ]
    go_wp2_with fail
    refine (rtrim_fresh _ _ _ [] _ HR.out (by omega)).mono ?_
    rintro e w1 ⟨ro, m, cp, r, rfl, h1, h2, h3, hf, h4⟩
    have HF : Hid (Fresh w.heap.size ro) := hf.mono (by simp)
    clear hf
    go_wp2
    go_ret
    exact ⟨ro, m, cp, r, rfl, h1, h2, h3, HF.out, chain ((Below.refl _ _).alloc (Nat.le_refl _) _) h4⟩
  · obtain ⟨b, off, rfl, hlt, hc⟩ := h.cells (by intro e; have := h.len; rw [e] at this; simp at this; omega)
    have HL : Hid (ds.length = n) := h.len
    have HM : Hid (Halves ds) := hh
    have HC : Hid (∀ j, j < n → w.cell? ⟨b, off + j, none⟩ = some (.int .u64 (lim ds j))) := fun j hj => by rw [hc j (by have := h.len; omega), lim_nat]
    clear h hc hh
    go_enter Try.func52, Try.ntmps52
    go_wp2
    go_loopw [3, 4, 5] (fun o i _ wr => ∃ (k g c : Nat) (zs : List Int), 2 * k ≤ n + 1 ∧ i = .int .i64 ((2 * k : Nat) : Int) ∧ o = .slice (some ⟨g, 0, none⟩) k c ∧ OwnR wr w.heap.size g k c zs ∧ Limbs zs ∧ zs.length = k ∧ val zs = hpv ds (2 * k) ∧ Below w.heap.size w wr) (fun _ i _ _ => n + 2 - (intOf i).toNat)
    case atStart => exact ⟨0, w.heap.size, 0, [], by omega, rfl, rfl, OwnR.nil w, by intro x hx; simp at hx, rfl, rfl, (Below.refl _ _).alloc (Nat.le_refl _) _⟩
    case round =>
      obtain ⟨k, g, c, zs, hk, rfl, rfl, hown, hlz, hzl, hval, hbel⟩ := hrel
      have HO : Hid (OwnR wr w.heap.size g k c zs) := hown
      have HB : Hid (Below w.heap.size w wr) := hbel
      have hgw := hown.lt
      have hsz : w.heap.size ≤ wr.heap.size := hbel.size
      have HZ : Hid (Limbs zs ∧ zs.length = k ∧ val zs = hpv ds (2 * k)) := ⟨hlz, hzl, hval⟩
      clear hlz hzl hval
      by_cases hlt2 : 2 * k < n
      · have hcx : wr.cell? ⟨b, off + 2 * k, none⟩ = some (.int .u64 (lim ds ((2 * k : Nat) : Int))) := (hbel.cell (p := ⟨b, off + 2 * k, none⟩) hlt).trans (HC.out (2 * k) hlt2)
        have bx := half_bd HM.out (2 * k)
        have bY := half_bd HM.out (2 * k + 1)
        have key : ∀ v, v = lim ds ((2 * k : Nat) : Int) + lim ds ((2 * k + 1 : Nat) : Int) * HH → ∀ (gg cp : Nat) (w1 : World), OwnR w1 w.heap.size gg (k + 1) cp (zs ++ [v]) → (wr.alloc (Obj.cells #[.int .u64 v] 50)).grownBy w1 (some g) →
            OwnR w1 w.heap.size gg (k + 1) cp (zs ++ [v]) ∧ Limbs (zs ++ [v]) ∧ (zs ++ [v]).length = k + 1 ∧ val (zs ++ [v]) = hpv ds (2 * (k + 1)) ∧ Below w.heap.size w w1 := by
          intro v hv gg cp w1 ho hg
          have hb := pair_bd bx.1 bx.2 bY.1 bY.2
          rw [← hv] at hb
          refine ⟨ho, limbs_snoc HZ.out.1 hb.1 hb.2, by simp [HZ.out.2.1], ?_, (HB.out.alloc hsz _).grown hg (by simp; omega) (fun j hj => by cases hj; exact hgw.1)⟩
          rw [val_snoc, HZ.out.2.2, HZ.out.2.1, hpv_pair, hv]
        have KEY : Hid _ := key
        clear key
        by_cases hlt3 : 2 * k + 1 < n
        · have hcy : wr.cell? ⟨b, off + (2 * k + 1), none⟩ = some (.int .u64 (lim ds ((2 * k + 1 : Nat) : Int))) := (hbel.cell (p := ⟨b, off + (2 * k + 1), none⟩) hlt).trans (HC.out (2 * k + 1) hlt3)
          obtain ⟨x, hx⟩ : ∃ x, x = lim ds ((2 * k : Nat) : Int) := ⟨_, rfl⟩
          obtain ⟨y, hy⟩ : ∃ y, y = lim ds ((2 * k + 1 : Nat) : Int) := ⟨_, rfl⟩
          rw [← hx] at hcx bx
          rw [← hy] at hcy bY
          have HV : Hid (x + y * 4294967296 = lim ds ((2 * k : Nat) : Int) + lim ds ((2 * k + 1 : Nat) : Int) * HH) := by rw [hx, hy]; rfl
          unfold HH at bx bY
          have x0 := bx.1
          have x1 := bx.2
          have y0 := bY.1
          have y1 := bY.2
          clear hx hy bx bY hown hbel
          go_wp2_with (at_builtin; refine wpList_append_lies _ rfl (.tmp 30) (.tmp 32) 22 rfl w.heap.size 50 i0 (.int .u64 0) 1 8 Try.underlying22 hi hz0 hz1 hz2 rfl (by decide) _ k (zs.map (Value.int .u64)) rfl (HO.out.alloc _) ⟨wr.heap.size, 0, none⟩ 1 1 [.int .u64 (x + y * 4294967296)] rfl rfl (World.news_of_block (cs := #[.int .u64 (x + y * 4294967296)]) (t := 50) (fr := (0, 0)) (heap_alloc_new wr _)) (by simp [Value.oneCell']) (by omega) (by unfold maxLen; omega) (by omega) (by simp; omega) (wr.heap.size + 1) (by simp) ?_)
          intro gg cp w1 hown1 hgrow _ _
          have hr := KEY.out (x + y * 4294967296) HV.out gg cp w1 (by unfold OwnR; rw [List.map_append]; exact hown1) hgrow
          have HR : Hid _ := hr
          clear hr hown1 hgrow
          go_wp2_with fail
          go_roundw
          case rel => exact ⟨k + 1, gg, cp, _, by omega, by go_num, rfl, HR.out⟩
          case measure => simp [intOf]; omega
        · obtain ⟨x, hx⟩ : ∃ x, x = lim ds ((2 * k : Nat) : Int) := ⟨_, rfl⟩
          rw [← hx] at hcx bx
          have HV : Hid (x = lim ds ((2 * k : Nat) : Int) + lim ds ((2 * k + 1 : Nat) : Int) * HH) := by
            rw [hx, lim_past ds (2 * k + 1) (by have := HL.out; omega)]
            show _ = _ + 0 * HH
            omega
          unfold HH at bx
          have x0 := bx.1
          have x1 := bx.2
          clear hx bx bY hown hbel
          go_wp2_with (at_builtin; refine wpList_append_lies _ rfl (.tmp 30) (.tmp 32) 22 rfl w.heap.size 50 i0 (.int .u64 0) 1 8 Try.underlying22 hi hz0 hz1 hz2 rfl (by decide) _ k (zs.map (Value.int .u64)) rfl (HO.out.alloc _) ⟨wr.heap.size, 0, none⟩ 1 1 [.int .u64 (x)] rfl rfl (World.news_of_block (cs := #[.int .u64 (x)]) (t := 50) (fr := (0, 0)) (heap_alloc_new wr _)) (by simp [Value.oneCell']) (by omega) (by unfold maxLen; omega) (by omega) (by simp; omega) (wr.heap.size + 1) (by simp) ?_)
          intro gg cp w1 hown1 hgrow _ _
          have hr := KEY.out (x) HV.out gg cp w1 (by unfold OwnR; rw [List.map_append]; exact hown1) hgrow
          have HR : Hid _ := hr
          clear hr hown1 hgrow
          go_wp2_with fail
          go_roundw
          case rel => exact ⟨k + 1, gg, cp, _, by omega, by go_num, rfl, HR.out⟩
          case measure => simp [intOf]; omega
      · have HR : Hid (RowAt wr (some ⟨g, 0, none⟩) k c zs) := hown.row HZ.out.1
        clear hown hbel
        go_wp2_with fail
        refine (rtrim_fresh _ _ _ zs _ HR.out (by omega)).mono ?_
        rintro e w1 ⟨ro, m, cp, r, rfl, h1, h2, h3, hf, h4⟩
        have HF : Hid (Fresh w.heap.size ro) := hf.mono HB.out.size
        clear hf
        go_wp2
        go_ret
        refine ⟨ro, m, cp, r, rfl, h1, ?_, by omega, HF.out, chain HB.out h4⟩
        rw [HZ.out.2.2, hpv_val ds _ (by have := HL.out; omega)] at h2
        exact h2

theorem whole_any (ao : Option Addr) (n cap : Nat) (ds : List Int) (w : World) (h : RowAt w ao n cap ds) (hh : Halves ds) (hn : n ≤ 200000) :
    Calls Try.prog 52 #[.slice ao n cap] w fun e w' => ∃ ro m cp r, e = .returned (.slice ro m cp) ∧ RowAt w' ro m cp r ∧ Num r (hval ds) ∧ m ≤ n ∧ Below w.heap.size w w' :=
  (whole_fresh ao n cap ds w h hh hn).mono fun _ _ ⟨ro, m, cp, r, h1, h2, h3, h4, _, h6⟩ => ⟨ro, m, cp, r, h1, h2, h3, h4, h6⟩
end Go.Proofs.Ytnkjfandknndkaa
