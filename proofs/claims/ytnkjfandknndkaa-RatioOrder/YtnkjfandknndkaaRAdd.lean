/-
  The reference's Add.
-/
import Derived.Test.YtnkjfandknndkaaWhole
namespace Go.Proofs.Ytnkjfandknndkaa
open Go.RowKit

theorem radd_step {v c x y p q P : Int} (h : v + c * P = p + q) : v + ((x + y + c) % HH) * P + ((x + y + c) / HH) * (P * HH) = (p + x * P) + (q + y * P) := by
  have h1 := Int.emod_add_mul_ediv (x + y + c) HH
  have h2 : ((x + y + c) % HH + HH * ((x + y + c) / HH)) * P = (x + y + c) * P := by rw [h1]
  grind

/-- What the loop of the reference's Add holds. -/
structure RAddInv (w2 : World) (dx dy : List Int) (M k g c : Nat) (cv : Int) (zs : List Int) (wr : World) : Prop where
  own : OwnR wr w2.heap.size g k c zs
  bel : Below w2.heap.size w2 wr
  halves : Halves zs
  len : zs.length = k
  c0 : 0 ≤ cv
  c1 : cv ≤ 1
  val : hval zs + cv * HH ^ k = hpv dx k + hpv dy k
  most : k ≤ M + 1
  last : k = M + 1 → cv = 0

theorem RAddInv.next {w2 : World} {dx dy : List Int} {M k g c : Nat} {cv : Int} {zs : List Int} {wr : World} (h : RAddInv w2 dx dy M k g c cv zs wr) (hx : Halves dx) (hy : Halves dy) (lx : dx.length ≤ M) (ly : dy.length ≤ M) (hgo : k < M ∨ 0 < cv)
    {s : Int} (hs : s = lim dx k + lim dy k + cv) {gg cp : Nat} {w1 : World} (ho : OwnR w1 w2.heap.size gg (k + 1) cp (zs ++ [s % 4294967296])) (hg : (wr.alloc (Obj.cells #[.int .u64 (s % 4294967296)] 50)).grownBy w1 (some g)) :
    RAddInv w2 dx dy M (k + 1) gg cp (s / 4294967296) (zs ++ [s % 4294967296]) w1 := by
  have bx := half_bd hx k
  have bY := half_bd hy k
  have hgw := h.own.lt
  have c0 := h.c0
  have c1 := h.c1
  have hsz := h.bel.size
  have hM : k ≤ M := by
    rcases Nat.lt_or_ge M k with h' | h'
    · have := h.most
      have := h.last (by omega)
      omega
    · exact h'
  refine ⟨ho, (h.bel.alloc hsz _).grown hg (by simp; omega) (fun j hj => by cases hj; exact hgw.1), halves_snoc h.halves (by omega) (by unfold HH; omega), by simp [h.len], ?_, ?_, ?_, by omega, fun e => ?_⟩
  · unfold HH at bx bY; omega
  · unfold HH at bx bY; omega
  · rw [hval_snoc, h.len, hw_succ, hpv, hpv, hs]
    exact radd_step h.val
  · have e2 : k = M := by omega
    rw [lim_past dx k (by omega), lim_past dy k (by omega)] at hs
    omega

set_option maxRecDepth 100000 in
set_option maxHeartbeats 2000000 in
theorem radd_fresh (ao bo : Option Addr) (na ca nb cb : Nat) (xs ys : List Int) (w : World) (ha : RowAt w ao na ca xs) (hb : RowAt w bo nb cb ys) (hna : na ≤ 90000) (hnb : nb ≤ 90000) :
    Calls Try.prog 59 #[.slice ao na ca, .slice bo nb cb] w fun e w' => ∃ ro m cap r, e = .returned (.slice ro m cap) ∧ RowAt w' ro m cap r ∧ Num r (val xs + val ys) ∧ Fresh w.heap.size ro ∧ Below w.heap.size w w' := by
  obtain ⟨i0, hi, hz0, hz1, hz2⟩ := info_parts Try.info50
  have HA : Hid (RowAt w ao na ca xs) := ha
  have HB : Hid (RowAt w bo nb cb ys) := hb
  have HX : Hid (Halves (hd xs) ∧ (hd xs).length = 2 * na ∧ hval (hd xs) = val xs) := ⟨hd_halves ha.limbs, by rw [hd_length, ha.len], hd_val xs⟩
  have HY : Hid (Halves (hd ys) ∧ (hd ys).length = 2 * nb ∧ hval (hd ys) = val ys) := ⟨hd_halves hb.limbs, by rw [hd_length, hb.len], hd_val ys⟩
  clear ha hb
  go_enter Try.func59, Try.ntmps59
  go_wp2_with fail
  refine (digits_any _ _ _ xs _ HA.out (by omega)).mono ?_
  rintro e w1 ⟨xo, xc, rfl, hx1, b1⟩
  have X1 : Hid (RowAt w1 xo (2 * na) xc (hd xs)) := hx1
  have B1 : Hid (Below w.heap.size w w1) := b1
  clear hx1 b1
  go_wp2_with fail
  refine (digits_any _ _ _ ys _ (HB.out.below B1.out) (by omega)).mono ?_
  rintro e w2 ⟨yo, yc, rfl, hy2, b2⟩
  have X2 : Hid (RowAt w2 xo (2 * na) xc (hd xs)) := X1.out.below b2
  have Y2 : Hid (RowAt w2 yo (2 * nb) yc (hd ys)) := hy2
  have B2 : Hid (Below w.heap.size w w2) := chain B1.out b2
  clear hy2 b2 X1 B1 HA HB
  generalize hd xs = dx at *
  generalize hd ys = dy at *
  go_wp2_with fail
  go_loopw [7, 8, 9, 10] (fun o cr i _ wr => ∃ (k g c : Nat) (cv : Int) (zs : List Int), i = .int .i64 k ∧ o = .slice (some ⟨g, 0, none⟩) k c ∧ cr = .int .u64 cv ∧ RAddInv w2 dx dy (max (2 * na) (2 * nb)) k g c cv zs wr) (fun _ _ i _ _ => max (2 * na) (2 * nb) + 2 - (intOf i).toNat)
  case atStart => exact ⟨0, w2.heap.size, 0, 0, [], rfl, rfl, rfl, ⟨OwnR.nil w2, (Below.refl _ _).alloc (Nat.le_refl _) _, by intro x hx; simp at hx, rfl, Int.le_refl _, by omega, by simp [hval, hpv], by omega, fun _ => rfl⟩⟩
  case round =>
    obtain ⟨k, g, c, cv, zs, rfl, rfl, rfl, hinv⟩ := hrel
    have HI : Hid (RAddInv w2 dx dy (max (2 * na) (2 * nb)) k g c cv zs wr) := hinv
    have hkM := hinv.most
    have c0 := hinv.c0
    have c1 := hinv.c1
    have hsz : w2.heap.size ≤ wr.heap.size := hinv.bel.size
    have bx := half_bd HX.out.1 k
    have bY := half_bd HY.out.1 k
    obtain ⟨x, hx⟩ : ∃ x, x = lim dx k := ⟨_, rfl⟩
    obtain ⟨y, hy⟩ : ∃ y, y = lim dy k := ⟨_, rfl⟩
    rw [← hx] at bx
    rw [← hy] at bY
    have EX : Hid (x = lim dx k) := hx
    have EY : Hid (y = lim dy k) := hy
    unfold HH at bx bY
    have x0 := bx.1
    have x1 := bx.2
    have y0 := bY.1
    have y1 := bY.2
    clear hinv hx hy bx bY
    by_cases t1 : (k : Int) < ((2 * na : Nat) : Int)
    · go_wp2_with fail
      refine (rat_any _ _ _ dx k _ (X2.out.below HI.out.bel)).mono ?_
      rintro e w3 ⟨rfl, hw⟩
      rw [hw, ← EX.out]
      clear hw
      go_wp2_with fail
      refine (rat_any _ _ _ dy k _ (Y2.out.below HI.out.bel)).mono ?_
      rintro e w3 ⟨rfl, hw⟩
      rw [hw, ← EY.out]
      clear hw
      go_wp2_with (at_builtin; refine wpList_append_lies _ rfl (.tmp 41) (.tmp 44) 22 rfl w2.heap.size 50 i0 (.int .u64 0) 1 8 Try.underlying22 hi hz0 hz1 hz2 rfl (by decide) _ k (zs.map (Value.int .u64)) rfl (HI.out.own.alloc _) ⟨wr.heap.size, 0, none⟩ 1 1 [.int .u64 ((x + y + cv) % 4294967296)] rfl rfl (World.news_of_block (cs := #[.int .u64 ((x + y + cv) % 4294967296)]) (t := 50) (fr := (0, 0)) (heap_alloc_new wr _)) (by simp [Value.oneCell']) (by omega) (by unfold maxLen; omega) (by omega) (by simp; omega) (wr.heap.size + 1) (by simp) ?_)
      intro gg cp w3 hown1 hgrow _ _
      have hr := HI.out.next HX.out.1 HY.out.1 (by have := HX.out.2.1; omega) (by have := HY.out.2.1; omega) (by omega) (s := x + y + cv) (by rw [EX.out, EY.out]) (by unfold OwnR; rw [List.map_append]; exact hown1) hgrow
      have HR : Hid _ := hr
      clear hr hown1 hgrow
      go_wp2_with fail
      go_roundw
      case rel => exact ⟨k + 1, gg, cp, _, _, by go_num, rfl, rfl, HR.out⟩
      case measure => simp [intOf]; omega
    · by_cases t2 : (k : Int) < ((2 * nb : Nat) : Int)
      · go_wp2_with fail
        refine (rat_any _ _ _ dx k _ (X2.out.below HI.out.bel)).mono ?_
        rintro e w3 ⟨rfl, hw⟩
        rw [hw, ← EX.out]
        clear hw
        go_wp2_with fail
        refine (rat_any _ _ _ dy k _ (Y2.out.below HI.out.bel)).mono ?_
        rintro e w3 ⟨rfl, hw⟩
        rw [hw, ← EY.out]
        clear hw
        go_wp2_with (at_builtin; refine wpList_append_lies _ rfl (.tmp 41) (.tmp 44) 22 rfl w2.heap.size 50 i0 (.int .u64 0) 1 8 Try.underlying22 hi hz0 hz1 hz2 rfl (by decide) _ k (zs.map (Value.int .u64)) rfl (HI.out.own.alloc _) ⟨wr.heap.size, 0, none⟩ 1 1 [.int .u64 ((x + y + cv) % 4294967296)] rfl rfl (World.news_of_block (cs := #[.int .u64 ((x + y + cv) % 4294967296)]) (t := 50) (fr := (0, 0)) (heap_alloc_new wr _)) (by simp [Value.oneCell']) (by omega) (by unfold maxLen; omega) (by omega) (by simp; omega) (wr.heap.size + 1) (by simp) ?_)
        intro gg cp w3 hown1 hgrow _ _
        have hr := HI.out.next HX.out.1 HY.out.1 (by have := HX.out.2.1; omega) (by have := HY.out.2.1; omega) (by omega) (s := x + y + cv) (by rw [EX.out, EY.out]) (by unfold OwnR; rw [List.map_append]; exact hown1) hgrow
        have HR : Hid _ := hr
        clear hr hown1 hgrow
        go_wp2_with fail
        go_roundw
        case rel => exact ⟨k + 1, gg, cp, _, _, by go_num, rfl, rfl, HR.out⟩
        case measure => simp [intOf]; omega
      · by_cases t3 : 0 < cv
        · go_wp2_with fail
          refine (rat_any _ _ _ dx k _ (X2.out.below HI.out.bel)).mono ?_
          rintro e w3 ⟨rfl, hw⟩
          rw [hw, ← EX.out]
          clear hw
          go_wp2_with fail
          refine (rat_any _ _ _ dy k _ (Y2.out.below HI.out.bel)).mono ?_
          rintro e w3 ⟨rfl, hw⟩
          rw [hw, ← EY.out]
          clear hw
          go_wp2_with (at_builtin; refine wpList_append_lies _ rfl (.tmp 41) (.tmp 44) 22 rfl w2.heap.size 50 i0 (.int .u64 0) 1 8 Try.underlying22 hi hz0 hz1 hz2 rfl (by decide) _ k (zs.map (Value.int .u64)) rfl (HI.out.own.alloc _) ⟨wr.heap.size, 0, none⟩ 1 1 [.int .u64 ((x + y + cv) % 4294967296)] rfl rfl (World.news_of_block (cs := #[.int .u64 ((x + y + cv) % 4294967296)]) (t := 50) (fr := (0, 0)) (heap_alloc_new wr _)) (by simp [Value.oneCell']) (by omega) (by unfold maxLen; omega) (by omega) (by simp; omega) (wr.heap.size + 1) (by simp) ?_)
          intro gg cp w3 hown1 hgrow _ _
          have hr := HI.out.next HX.out.1 HY.out.1 (by have := HX.out.2.1; omega) (by have := HY.out.2.1; omega) (by omega) (s := x + y + cv) (by rw [EX.out, EY.out]) (by unfold OwnR; rw [List.map_append]; exact hown1) hgrow
          have HR : Hid _ := hr
          clear hr hown1 hgrow
          go_wp2_with fail
          go_roundw
          case rel => exact ⟨k + 1, gg, cp, _, _, by go_num, rfl, rfl, HR.out⟩
          case measure => simp [intOf]; omega
        · have HR : Hid (RowAt wr (some ⟨g, 0, none⟩) k c zs) := HI.out.own.row HI.out.halves.limbs
          go_wp2_with fail
          refine (whole_fresh _ _ _ zs _ HR.out HI.out.halves (by omega)).mono ?_
          rintro e w3 ⟨ro, m, cp, r, rfl, h1, h2, h3, hf, h4⟩
          have HFR : Hid (Fresh w.heap.size ro) := hf.mono (Nat.le_trans B2.out.size HI.out.bel.size)
          clear hf
          go_wp2
          go_ret
          refine ⟨ro, m, cp, r, rfl, h1, ?_, HFR.out, chain B2.out (chain HI.out.bel h4)⟩
          have hv := HI.out.val
          rw [show cv = 0 by omega, hpv_val dx k (by have := HX.out.2.1; omega), hpv_val dy k (by have := HY.out.2.1; omega), HX.out.2.2, HY.out.2.2] at hv
          rw [show hval zs = val xs + val ys by omega] at h2
          exact h2

theorem radd_any (ao bo : Option Addr) (na ca nb cb : Nat) (xs ys : List Int) (w : World) (ha : RowAt w ao na ca xs) (hb : RowAt w bo nb cb ys) (hna : na ≤ 90000) (hnb : nb ≤ 90000) :
    Calls Try.prog 59 #[.slice ao na ca, .slice bo nb cb] w fun e w' => ∃ ro m cap r, e = .returned (.slice ro m cap) ∧ RowAt w' ro m cap r ∧ Num r (val xs + val ys) ∧ Below w.heap.size w w' :=
  (radd_fresh ao bo na ca nb cb xs ys w ha hb hna hnb).mono fun _ _ ⟨ro, m, cp, r, h1, h2, h3, _, h6⟩ => ⟨ro, m, cp, r, h1, h2, h3, h6⟩
end Go.Proofs.Ytnkjfandknndkaa
