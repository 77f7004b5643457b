/-
  Proved here: for every input RatioSigns returns true, and leaves its arguments as they were. No condition.
-/
import Derived.Test.YtnkjfandknndkaaJ1
namespace Go.Proofs.Ytnkjfandknndkaa.ratioSigns
open Go.ChangeShapes Go.WideShapes Go.ChangeAt Go.RowKit
open Go.ChangeMaps (open_string shut_string)
set_option linter.unusedVariables false      -- a walk need not use every 'w<i>' (that an integer argument fits its kind)

theorem zero_yes (neg : Bool) (no : Option Addr) (nn nc : Nat) (eo : Option Addr) (en ec : Nat) (w : World) (hn : (nn : Int) ≤ 9223372036854775807) (h : nn = 0) :
    Calls Try.prog 25 #[.agg #[.bool neg, .slice no nn nc, .slice eo en ec]] w fun e w' => e = .returned (.bool true) ∧ Below w.heap.size w w' := by
  have := zero_any neg no nn nc eo en ec w hn
  rwa [decide_eq_true h] at this
theorem zero_no (neg : Bool) (no : Option Addr) (nn nc : Nat) (eo : Option Addr) (en ec : Nat) (w : World) (hn : (nn : Int) ≤ 9223372036854775807) (h : nn ≠ 0) :
    Calls Try.prog 25 #[.agg #[.bool neg, .slice no nn nc, .slice eo en ec]] w fun e w' => e = .returned (.bool false) ∧ Below w.heap.size w w' := by
  have := zero_any neg no nn nc eo en ec w hn
  rwa [decide_eq_false h] at this

set_option maxRecDepth 100000 in
set_option maxHeartbeats 8000000 in
theorem walk (a0 : Int) (w0 : (Lit.int .i64 a0).wf = true) (w : World) :
    Calls Try.prog 8 #[.int .i64 a0] w fun e w' => e = .returned (.bool true) ∧ Below w.heap.size w w' := by
  obtain ⟨p0, p1⟩ := bounds_i64 w0
  clear w0
  have HR : Hid (-9223372036854775808 ≤ a0 ∧ a0 ≤ 9223372036854775807) := ⟨p0, p1⟩
  go_enter Try.func8, Try.ntmps8
  go_wp2_with fail
  refine (of_r a0 _ p0 p1).mono ?_
  rintro e w1 ⟨xg, xo, xn, xc, xeo, xen, xec, x, rfl, q1, q2, q3, q4⟩
  have bx := RBox.new w1 xg xo xn xc xeo xen xec
  have a1 : Below w1.heap.size w1 (w1.alloc (.cells #[.bool xg, .slice xo xn xc, .slice xeo xen xec] 28)) := (Below.refl _ _).alloc (Nat.le_refl _) _
  have c0 := bx.c0
  have c1 := bx.c1
  have c2 := bx.c2
  have X : Hid (RatAt (w1.alloc (.cells #[.bool xg, .slice xo xn xc, .slice xeo xen xec] 28)) xo xn xc xeo xen xec x ∧ x.neg = xg ∧ Is x a0 1 ∧ RBox (w1.alloc (.cells #[.bool xg, .slice xo xn xc, .slice xeo xen xec] 28)) w1.heap.size xg xo xn xc xeo xen xec ∧ Below w.heap.size w (w1.alloc (.cells #[.bool xg, .slice xo xn xc, .slice xeo xen xec] 28))) := ⟨q2.below a1, q1, q3, bx, chain q4 a1⟩
  clear q1 q2 q3 q4 bx a1
  go_wp2_with fail
  refine (neg_r _ _ _ _ _ _ _ x _ X.out.1 X.out.2.1 X.out.2.2.1.may).mono ?_
  rintro e w2 ⟨yg, yo, yn, yc, yeo, yen, yec, rfl, q1, q2, q4⟩
  have bx := RBox.new w2 yg yo yn yc yeo yen yec
  have a1 : Below w2.heap.size w2 (w2.alloc (.cells #[.bool yg, .slice yo yn yc, .slice yeo yen yec] 28)) := (Below.refl _ _).alloc (Nat.le_refl _) _
  obtain ⟨y, hy⟩ : ∃ y, y = x.flip := ⟨_, rfl⟩
  rw [← hy] at q1 q2
  have Y : Hid (RatAt (w2.alloc (.cells #[.bool yg, .slice yo yn yc, .slice yeo yen yec] 28)) yo yn yc yeo yen yec y ∧ y.neg = yg ∧ y = x.flip ∧ RBox (w2.alloc (.cells #[.bool yg, .slice yo yn yc, .slice yeo yen yec] 28)) w2.heap.size yg yo yn yc yeo yen yec ∧ RatAt (w2.alloc (.cells #[.bool yg, .slice yo yn yc, .slice yeo yen yec] 28)) xo xn xc xeo xen xec x ∧ RBox (w2.alloc (.cells #[.bool yg, .slice yo yn yc, .slice yeo yen yec] 28)) w1.heap.size xg xo xn xc xeo xen xec ∧ Below w.heap.size w (w2.alloc (.cells #[.bool yg, .slice yo yn yc, .slice yeo yen yec] 28))) := ⟨q2.below a1, q1, hy, bx, (X.out.1.below q4).below a1, (X.out.2.2.2.1.below q4).below a1, chain (chain X.out.2.2.2.2 q4) a1⟩
  clear q1 q2 q4 bx a1 c0 c1 c2 hy
  go_wp2_with fail
  refine (of_r 0 _ (by omega) (by omega)).mono ?_
  rintro e w3 ⟨zg, zo, zn, zc, zeo, zen, zec, z, rfl, q1, q2, q3, q4⟩
  have bx := RBox.new w3 zg zo zn zc zeo zen zec
  have a1 : Below w3.heap.size w3 (w3.alloc (.cells #[.bool zg, .slice zo zn zc, .slice zeo zen zec] 28)) := (Below.refl _ _).alloc (Nat.le_refl _) _
  have ba := (Y.out.2.2.2.2.2.1.below q4).below a1
  have bb := (Y.out.2.2.2.1.below q4).below a1
  have c0 := ba.c0
  have c1 := ba.c1
  have c2 := ba.c2
  have d0 := bb.c0
  have d1 := bb.c1
  have d2 := bb.c2
  have e0 := bx.c0
  have e1 := bx.c1
  have e2 := bx.c2
  have hA := ba.lt
  have hB := bb.lt
  have hC := bx.lt
  have HX : Hid (RatAt (w3.alloc (.cells #[.bool zg, .slice zo zn zc, .slice zeo zen zec] 28)) xo xn xc xeo xen xec x ∧ RatAt (w3.alloc (.cells #[.bool zg, .slice zo zn zc, .slice zeo zen zec] 28)) yo yn yc yeo yen yec y ∧ RatAt (w3.alloc (.cells #[.bool zg, .slice zo zn zc, .slice zeo zen zec] 28)) zo zn zc zeo zen zec z ∧ Below w.heap.size w (w3.alloc (.cells #[.bool zg, .slice zo zn zc, .slice zeo zen zec] 28))) := ⟨(Y.out.2.2.2.2.1.below q4).below a1, (Y.out.1.below q4).below a1, q2.below a1, chain (chain Y.out.2.2.2.2.2.2 q4) a1⟩
  have HI : Hid (Is x a0 1) := X.out.2.2.1
  have HJ : Hid (Is y (-a0) 1 ∧ Is z 0 1) := ⟨by rw [Y.out.2.2.1]; exact HI.out.flip, q3⟩
  have HG : Hid (x.neg = xg ∧ y.neg = yg ∧ z.neg = zg) := ⟨X.out.2.1, Y.out.2.1, q1⟩
  have HM : Hid (MayR x ∧ MayR y ∧ MayR z) := ⟨HI.out.may, HJ.out.1.may, q3.may⟩
  have HY : Hid (y.flip = x) := HJ.out.1.flip.one HI.out (by omega)
  have HN : Hid ((xn : Int) ≤ 9223372036854775807) := nn_most HX.out.1.num
  have HL : Hid (xn = 0 ↔ a0 = 0) := by
    have h := HI.out.may.zero_len HI.out.lim
    rw [HX.out.1.num.len] at h
    rw [show (xn = 0 ↔ a0 = 0) = (xn = 0 ↔ x.top = 0) by
      have := HI.out.eq
      have hb := HI.out.may.bot_pos HI.out.lim
      rw [Int.mul_one] at this
      rw [this]
      simp [Int.mul_eq_zero]
      omega]
    exact h
  clear q1 q2 q3 q4 bx a1 ba bb X Y p0 p1
  rcases Int.lt_trichotomy a0 0 with hs | hs | hs
  · have h1 : ¬ (0 < a0) := by omega
    have h3 : (a0 == 0) = false := by rw [beq_eq_false_iff_ne]; omega
    have HC : Hid ((-1) = cmpR x z ∧ (1) = cmpR y z) := ⟨by rw [cmpR_is HI.out HJ.out.2]; unfold cmpI; simp; try omega, by rw [cmpR_is HJ.out.1 HJ.out.2]; unfold cmpI; simp; try omega⟩
    have hw : ((1 : Int) == IntKind.i64.wrap (1)) = true := by decide
    have hw' : IntKind.i64.wrap (1) = 1 := by decide
    have HZE : Hid (xn ≠ 0) := fun h => absurd (HL.out.1 h) (by omega)
    have bz : Below (w3.alloc (.cells #[.bool zg, .slice zo zn zc, .slice zeo zen zec] 28)).heap.size (w3.alloc (.cells #[.bool zg, .slice zo zn zc, .slice zeo zen zec] 28)) (w3.alloc (.cells #[.bool zg, .slice zo zn zc, .slice zeo zen zec] 28)).drew := (Below.refl _ _).drew
    go_wp2_with fail
    go_region_held3 (fun w' => (w'.cell? ⟨w1.heap.size, 0, none⟩ = some (.bool xg) ∧ w'.cell? ⟨w1.heap.size, 1, none⟩ = some (.slice xo xn xc) ∧ w'.cell? ⟨w1.heap.size, 2, none⟩ = some (.slice xeo xen xec)) ∧ (w'.cell? ⟨w2.heap.size, 0, none⟩ = some (.bool yg) ∧ w'.cell? ⟨w2.heap.size, 1, none⟩ = some (.slice yo yn yc) ∧ w'.cell? ⟨w2.heap.size, 2, none⟩ = some (.slice yeo yen yec)) ∧ (w'.cell? ⟨w3.heap.size, 0, none⟩ = some (.bool zg) ∧ w'.cell? ⟨w3.heap.size, 1, none⟩ = some (.slice zo zn zc) ∧ w'.cell? ⟨w3.heap.size, 2, none⟩ = some (.slice zeo zen zec))) (first | (refine ⟨⟨?_, ?_, ?_⟩, ⟨?_, ?_, ?_⟩, ?_, ?_, ?_⟩; (rw [bz.cell (p := ⟨w1.heap.size, 0, none⟩) hA]; assumption); (rw [bz.cell (p := ⟨w1.heap.size, 1, none⟩) hA]; assumption); (rw [bz.cell (p := ⟨w1.heap.size, 2, none⟩) hA]; assumption); (rw [bz.cell (p := ⟨w2.heap.size, 0, none⟩) hB]; assumption); (rw [bz.cell (p := ⟨w2.heap.size, 1, none⟩) hB]; assumption); (rw [bz.cell (p := ⟨w2.heap.size, 2, none⟩) hB]; assumption); (rw [bz.cell (p := ⟨w3.heap.size, 0, none⟩) hC]; assumption); (rw [bz.cell (p := ⟨w3.heap.size, 1, none⟩) hC]; assumption); (rw [bz.cell (p := ⟨w3.heap.size, 2, none⟩) hC]; assumption)) | go_keep)
      (first
        | (go_at_call_of 26 (Value.agg #[.bool xg, .slice xo xn xc, .slice xeo xen xec]); refine (cmp_r xg xo xn xc xeo xen xec zg zo zn zc zeo zen zec x z _ (HX.out.1.below bz) (HX.out.2.2.1.below bz) HG.out.1 HG.out.2.2 HM.out.1 HM.out.2.2 (-1) HC.out.1).mono ?_; rintro e v1 ⟨rfl, q⟩; have bz := chain bz q; clear q)
        | (go_at_call_of 26 (Value.agg #[.bool yg, .slice yo yn yc, .slice yeo yen yec]); refine (cmp_r yg yo yn yc yeo yen yec zg zo zn zc zeo zen zec y z _ (HX.out.2.1.below bz) (HX.out.2.2.1.below bz) HG.out.2.1 HG.out.2.2 HM.out.2.1 HM.out.2.2 (1) HC.out.2).mono ?_; rintro e v2 ⟨rfl, q⟩; have bz := chain bz q; clear q)
        | (go_at_call 23; refine (neg_r yg yo yn yc yeo yen yec y _ (HX.out.2.1.below bz) HG.out.2.1 HM.out.2.1).mono ?_; rintro e v3 ⟨dg, do', dn, dc, deo, den, dec, rfl, g1, g2, q⟩; have bz := chain bz q; have G3 : Hid (y.flip.neg = dg ∧ RatAt v3 do' dn dc deo den dec y.flip) := ⟨g1, g2⟩; clear q g1 g2)
        | (go_at_call 30; refine (same_r _ _ _ _ _ _ _ _ _ _ _ _ _ _ y.flip x _ G3.out.2 (HX.out.1.below bz) G3.out.1 HG.out.1 HY.out).mono ?_; rintro e v4 ⟨rfl, q⟩; have bz := chain bz q; clear q)
        | (go_at_call_of 29 (Value.agg #[.bool xg, .slice xo xn xc, .slice xeo xen xec]); refine (rmay_r xg xo xn xc xeo xen xec x _ (HX.out.1.below bz) HG.out.1 true (yes_iff HM.out.1)).mono ?_; rintro e v5 ⟨rfl, q⟩; have bz := chain bz q; clear q)
        | (go_at_call_of 29 (Value.agg #[.bool yg, .slice yo yn yc, .slice yeo yen yec]); refine (rmay_r yg yo yn yc yeo yen yec y _ (HX.out.2.1.below bz) HG.out.2.1 true (yes_iff HM.out.2.1)).mono ?_; rintro e v6 ⟨rfl, q⟩; have bz := chain bz q; clear q)
        | (go_at_call 25; refine (zero_no xg xo xn xc xeo xen xec _ HN.out HZE.out).mono ?_; rintro e v7 ⟨rfl, q⟩; have bz := chain bz q; clear q)
        | (go_at_call 17; refine (rof_r _ _ ?_ ?_).mono ?_; (first | exact HR.out.1 | omega); (first | exact HR.out.2 | omega); rintro e v8 ⟨eg, eo, en, ec, eeo, een, eec, u, rfl, g1, g2, g3, q⟩; have bz := chain bz q; have G8 : Hid (u.neg = eg ∧ RatAt v8 eo en ec eeo een eec u ∧ Is u _ 1) := ⟨g1, g2, g3⟩; clear q g1 g2 g3)
        | (go_at_call 15; refine (rsame_r _ _ _ _ _ _ _ _ _ _ _ _ _ _ x u _ (HX.out.1.below bz) G8.out.2.1 HG.out.1 G8.out.1 true (yes_iff (HI.out.one G8.out.2.2 rfl))).mono ?_; rintro e v9 ⟨rfl, q⟩; have bz := chain bz q; clear q)
        | (go_at_call 9; refine (shown_r _).mono ?_; rintro e v10 ⟨rfl, q⟩; have bz := chain bz q; clear q))
    have HF : Hid (Below w.heap.size w v10) := chain HX.out.2.2.2 bz
    clear bz
    go_wp2
    go_ret
    exact ⟨rfl, HF.out⟩
  · subst hs
    have HC : Hid ((0) = cmpR x z ∧ (0) = cmpR y z) := ⟨by rw [cmpR_is HI.out HJ.out.2]; unfold cmpI; simp; try omega, by rw [cmpR_is HJ.out.1 HJ.out.2]; unfold cmpI; simp; try omega⟩
    have hw : ((0 : Int) == IntKind.i64.wrap (0)) = true := by decide
    have hw' : IntKind.i64.wrap (0) = 0 := by decide
    have HZE : Hid (xn = 0) := HL.out.2 rfl
    have bz : Below (w3.alloc (.cells #[.bool zg, .slice zo zn zc, .slice zeo zen zec] 28)).heap.size (w3.alloc (.cells #[.bool zg, .slice zo zn zc, .slice zeo zen zec] 28)) (w3.alloc (.cells #[.bool zg, .slice zo zn zc, .slice zeo zen zec] 28)).drew := (Below.refl _ _).drew
    go_wp2_with fail
    go_region_held3 (fun w' => (w'.cell? ⟨w1.heap.size, 0, none⟩ = some (.bool xg) ∧ w'.cell? ⟨w1.heap.size, 1, none⟩ = some (.slice xo xn xc) ∧ w'.cell? ⟨w1.heap.size, 2, none⟩ = some (.slice xeo xen xec)) ∧ (w'.cell? ⟨w2.heap.size, 0, none⟩ = some (.bool yg) ∧ w'.cell? ⟨w2.heap.size, 1, none⟩ = some (.slice yo yn yc) ∧ w'.cell? ⟨w2.heap.size, 2, none⟩ = some (.slice yeo yen yec)) ∧ (w'.cell? ⟨w3.heap.size, 0, none⟩ = some (.bool zg) ∧ w'.cell? ⟨w3.heap.size, 1, none⟩ = some (.slice zo zn zc) ∧ w'.cell? ⟨w3.heap.size, 2, none⟩ = some (.slice zeo zen zec))) (first | (refine ⟨⟨?_, ?_, ?_⟩, ⟨?_, ?_, ?_⟩, ?_, ?_, ?_⟩; (rw [bz.cell (p := ⟨w1.heap.size, 0, none⟩) hA]; assumption); (rw [bz.cell (p := ⟨w1.heap.size, 1, none⟩) hA]; assumption); (rw [bz.cell (p := ⟨w1.heap.size, 2, none⟩) hA]; assumption); (rw [bz.cell (p := ⟨w2.heap.size, 0, none⟩) hB]; assumption); (rw [bz.cell (p := ⟨w2.heap.size, 1, none⟩) hB]; assumption); (rw [bz.cell (p := ⟨w2.heap.size, 2, none⟩) hB]; assumption); (rw [bz.cell (p := ⟨w3.heap.size, 0, none⟩) hC]; assumption); (rw [bz.cell (p := ⟨w3.heap.size, 1, none⟩) hC]; assumption); (rw [bz.cell (p := ⟨w3.heap.size, 2, none⟩) hC]; assumption)) | go_keep)
      (first
        | (go_at_call_of 26 (Value.agg #[.bool xg, .slice xo xn xc, .slice xeo xen xec]); refine (cmp_r xg xo xn xc xeo xen xec zg zo zn zc zeo zen zec x z _ (HX.out.1.below bz) (HX.out.2.2.1.below bz) HG.out.1 HG.out.2.2 HM.out.1 HM.out.2.2 (0) HC.out.1).mono ?_; rintro e v1 ⟨rfl, q⟩; have bz := chain bz q; clear q)
        | (go_at_call_of 26 (Value.agg #[.bool yg, .slice yo yn yc, .slice yeo yen yec]); refine (cmp_r yg yo yn yc yeo yen yec zg zo zn zc zeo zen zec y z _ (HX.out.2.1.below bz) (HX.out.2.2.1.below bz) HG.out.2.1 HG.out.2.2 HM.out.2.1 HM.out.2.2 (0) HC.out.2).mono ?_; rintro e v2 ⟨rfl, q⟩; have bz := chain bz q; clear q)
        | (go_at_call 23; refine (neg_r yg yo yn yc yeo yen yec y _ (HX.out.2.1.below bz) HG.out.2.1 HM.out.2.1).mono ?_; rintro e v3 ⟨dg, do', dn, dc, deo, den, dec, rfl, g1, g2, q⟩; have bz := chain bz q; have G3 : Hid (y.flip.neg = dg ∧ RatAt v3 do' dn dc deo den dec y.flip) := ⟨g1, g2⟩; clear q g1 g2)
        | (go_at_call 30; refine (same_r _ _ _ _ _ _ _ _ _ _ _ _ _ _ y.flip x _ G3.out.2 (HX.out.1.below bz) G3.out.1 HG.out.1 HY.out).mono ?_; rintro e v4 ⟨rfl, q⟩; have bz := chain bz q; clear q)
        | (go_at_call_of 29 (Value.agg #[.bool xg, .slice xo xn xc, .slice xeo xen xec]); refine (rmay_r xg xo xn xc xeo xen xec x _ (HX.out.1.below bz) HG.out.1 true (yes_iff HM.out.1)).mono ?_; rintro e v5 ⟨rfl, q⟩; have bz := chain bz q; clear q)
        | (go_at_call_of 29 (Value.agg #[.bool yg, .slice yo yn yc, .slice yeo yen yec]); refine (rmay_r yg yo yn yc yeo yen yec y _ (HX.out.2.1.below bz) HG.out.2.1 true (yes_iff HM.out.2.1)).mono ?_; rintro e v6 ⟨rfl, q⟩; have bz := chain bz q; clear q)
        | (go_at_call 25; refine (zero_yes xg xo xn xc xeo xen xec _ HN.out HZE.out).mono ?_; rintro e v7 ⟨rfl, q⟩; have bz := chain bz q; clear q)
        | (go_at_call 17; refine (rof_r _ _ ?_ ?_).mono ?_; (first | exact HR.out.1 | omega); (first | exact HR.out.2 | omega); rintro e v8 ⟨eg, eo, en, ec, eeo, een, eec, u, rfl, g1, g2, g3, q⟩; have bz := chain bz q; have G8 : Hid (u.neg = eg ∧ RatAt v8 eo en ec eeo een eec u ∧ Is u _ 1) := ⟨g1, g2, g3⟩; clear q g1 g2 g3)
        | (go_at_call 15; refine (rsame_r _ _ _ _ _ _ _ _ _ _ _ _ _ _ x u _ (HX.out.1.below bz) G8.out.2.1 HG.out.1 G8.out.1 true (yes_iff (HI.out.one G8.out.2.2 rfl))).mono ?_; rintro e v9 ⟨rfl, q⟩; have bz := chain bz q; clear q)
        | (go_at_call 9; refine (shown_r _).mono ?_; rintro e v10 ⟨rfl, q⟩; have bz := chain bz q; clear q))
    have HF : Hid (Below w.heap.size w v10) := chain HX.out.2.2.2 bz
    clear bz
    go_wp2
    go_ret
    exact ⟨rfl, HF.out⟩
  · have h1 : ¬ (a0 < 0) := by omega
    have h3 : (a0 == 0) = false := by rw [beq_eq_false_iff_ne]; omega
    have HC : Hid ((1) = cmpR x z ∧ (-1) = cmpR y z) := ⟨by rw [cmpR_is HI.out HJ.out.2]; unfold cmpI; simp; try omega, by rw [cmpR_is HJ.out.1 HJ.out.2]; unfold cmpI; simp; try omega⟩
    have hw : ((-1 : Int) == IntKind.i64.wrap (-1)) = true := by decide
    have hw' : IntKind.i64.wrap (-1) = -1 := by decide
    have HZE : Hid (xn ≠ 0) := fun h => absurd (HL.out.1 h) (by omega)
    have bz : Below (w3.alloc (.cells #[.bool zg, .slice zo zn zc, .slice zeo zen zec] 28)).heap.size (w3.alloc (.cells #[.bool zg, .slice zo zn zc, .slice zeo zen zec] 28)) (w3.alloc (.cells #[.bool zg, .slice zo zn zc, .slice zeo zen zec] 28)).drew := (Below.refl _ _).drew
    go_wp2_with fail
    go_region_held3 (fun w' => (w'.cell? ⟨w1.heap.size, 0, none⟩ = some (.bool xg) ∧ w'.cell? ⟨w1.heap.size, 1, none⟩ = some (.slice xo xn xc) ∧ w'.cell? ⟨w1.heap.size, 2, none⟩ = some (.slice xeo xen xec)) ∧ (w'.cell? ⟨w2.heap.size, 0, none⟩ = some (.bool yg) ∧ w'.cell? ⟨w2.heap.size, 1, none⟩ = some (.slice yo yn yc) ∧ w'.cell? ⟨w2.heap.size, 2, none⟩ = some (.slice yeo yen yec)) ∧ (w'.cell? ⟨w3.heap.size, 0, none⟩ = some (.bool zg) ∧ w'.cell? ⟨w3.heap.size, 1, none⟩ = some (.slice zo zn zc) ∧ w'.cell? ⟨w3.heap.size, 2, none⟩ = some (.slice zeo zen zec))) (first | (refine ⟨⟨?_, ?_, ?_⟩, ⟨?_, ?_, ?_⟩, ?_, ?_, ?_⟩; (rw [bz.cell (p := ⟨w1.heap.size, 0, none⟩) hA]; assumption); (rw [bz.cell (p := ⟨w1.heap.size, 1, none⟩) hA]; assumption); (rw [bz.cell (p := ⟨w1.heap.size, 2, none⟩) hA]; assumption); (rw [bz.cell (p := ⟨w2.heap.size, 0, none⟩) hB]; assumption); (rw [bz.cell (p := ⟨w2.heap.size, 1, none⟩) hB]; assumption); (rw [bz.cell (p := ⟨w2.heap.size, 2, none⟩) hB]; assumption); (rw [bz.cell (p := ⟨w3.heap.size, 0, none⟩) hC]; assumption); (rw [bz.cell (p := ⟨w3.heap.size, 1, none⟩) hC]; assumption); (rw [bz.cell (p := ⟨w3.heap.size, 2, none⟩) hC]; assumption)) | go_keep)
      (first
        | (go_at_call_of 26 (Value.agg #[.bool xg, .slice xo xn xc, .slice xeo xen xec]); refine (cmp_r xg xo xn xc xeo xen xec zg zo zn zc zeo zen zec x z _ (HX.out.1.below bz) (HX.out.2.2.1.below bz) HG.out.1 HG.out.2.2 HM.out.1 HM.out.2.2 (1) HC.out.1).mono ?_; rintro e v1 ⟨rfl, q⟩; have bz := chain bz q; clear q)
        | (go_at_call_of 26 (Value.agg #[.bool yg, .slice yo yn yc, .slice yeo yen yec]); refine (cmp_r yg yo yn yc yeo yen yec zg zo zn zc zeo zen zec y z _ (HX.out.2.1.below bz) (HX.out.2.2.1.below bz) HG.out.2.1 HG.out.2.2 HM.out.2.1 HM.out.2.2 (-1) HC.out.2).mono ?_; rintro e v2 ⟨rfl, q⟩; have bz := chain bz q; clear q)
        | (go_at_call 23; refine (neg_r yg yo yn yc yeo yen yec y _ (HX.out.2.1.below bz) HG.out.2.1 HM.out.2.1).mono ?_; rintro e v3 ⟨dg, do', dn, dc, deo, den, dec, rfl, g1, g2, q⟩; have bz := chain bz q; have G3 : Hid (y.flip.neg = dg ∧ RatAt v3 do' dn dc deo den dec y.flip) := ⟨g1, g2⟩; clear q g1 g2)
        | (go_at_call 30; refine (same_r _ _ _ _ _ _ _ _ _ _ _ _ _ _ y.flip x _ G3.out.2 (HX.out.1.below bz) G3.out.1 HG.out.1 HY.out).mono ?_; rintro e v4 ⟨rfl, q⟩; have bz := chain bz q; clear q)
        | (go_at_call_of 29 (Value.agg #[.bool xg, .slice xo xn xc, .slice xeo xen xec]); refine (rmay_r xg xo xn xc xeo xen xec x _ (HX.out.1.below bz) HG.out.1 true (yes_iff HM.out.1)).mono ?_; rintro e v5 ⟨rfl, q⟩; have bz := chain bz q; clear q)
        | (go_at_call_of 29 (Value.agg #[.bool yg, .slice yo yn yc, .slice yeo yen yec]); refine (rmay_r yg yo yn yc yeo yen yec y _ (HX.out.2.1.below bz) HG.out.2.1 true (yes_iff HM.out.2.1)).mono ?_; rintro e v6 ⟨rfl, q⟩; have bz := chain bz q; clear q)
        | (go_at_call 25; refine (zero_no xg xo xn xc xeo xen xec _ HN.out HZE.out).mono ?_; rintro e v7 ⟨rfl, q⟩; have bz := chain bz q; clear q)
        | (go_at_call 17; refine (rof_r _ _ ?_ ?_).mono ?_; (first | exact HR.out.1 | omega); (first | exact HR.out.2 | omega); rintro e v8 ⟨eg, eo, en, ec, eeo, een, eec, u, rfl, g1, g2, g3, q⟩; have bz := chain bz q; have G8 : Hid (u.neg = eg ∧ RatAt v8 eo en ec eeo een eec u ∧ Is u _ 1) := ⟨g1, g2, g3⟩; clear q g1 g2 g3)
        | (go_at_call 15; refine (rsame_r _ _ _ _ _ _ _ _ _ _ _ _ _ _ x u _ (HX.out.1.below bz) G8.out.2.1 HG.out.1 G8.out.1 true (yes_iff (HI.out.one G8.out.2.2 rfl))).mono ?_; rintro e v9 ⟨rfl, q⟩; have bz := chain bz q; clear q)
        | (go_at_call 9; refine (shown_r _).mono ?_; rintro e v10 ⟨rfl, q⟩; have bz := chain bz q; clear q))
    have HF : Hid (Below w.heap.size w v10) := chain HX.out.2.2.2 bz
    clear bz
    go_wp2
    go_ret
    exact ⟨rfl, HF.out⟩
  -- go_enter Try.func8, Try.ntmps8
  -- go_wp2
  -- go_ret

set_option maxRecDepth 100000 in
theorem lifted (os : Os) (started : os.Started) (H : Type) (enc : TypeId × Value → H) :
    ReturnsInHanded {} Try.checked os 8 .any (Rows.ratioSignsSpec.pre6 enc Try.prog Try.f8 Rows.ratioSignsRow.domain false) (Rows.ratioSignsSpec.post enc Try.prog Try.f8 false true false false) := by
  refine returnsInHanded_of_change (C := Try.checked) own started (by kernel_rfl) Try.func8
    (ChangeSpec.witness6 (enc := enc) (C := Try.checked) false ⟨#[], #[.int .i64 0], []⟩ 8 (by kernel_rfl) (by kernel_rfl) (by kernel_rfl) (by kernel_rfl)) ?_
  intro W base args ds gs before hval0 hW hcnd _
  have hval : ∀ (j : Nat) t v, Try.f8.params[j]? = some t → args[j]? = some v → Value.okWide Try.prog W .any base t v := hval0
  have hW' := hW
  obtain ⟨p, q, hA0, hV, rfl, hfz, hnd⟩ := hW
  have hA : DataW.TrodAll enc Try.prog W 0 (fun _ => true) true Try.f8.params.toList args.toList ds p := hA0
  rw [Try.params8] at hA hval
  obtain ⟨v0, vs0, d0, ds0, p0, q0, hargs, rfl, rfl, h0, r0⟩ := trodAll_cons hA
  obtain ⟨rfl, rfl, rfl⟩ := trodAll_nil r0
  obtain rfl : args = #[v0] := by cases args; simp_all
  obtain ⟨rfl, rfl⟩ := trodVars_none hV
  obtain ⟨a0, rfl, rfl, rfl, w0⟩ := open_int Try.underlying2 (hval 0 2 v0 rfl rfl) h0
  clear hA0 hval0
  refine (walk a0 w0 W).mono fun e W' ⟨he, hg⟩ => ?_
  subst he
  exact ⟨_, rfl, _, _, _, [], _, [], hW', trodAll_mk1 (shut_bool Try.underlying4 _), (trodAll_cons_mk (shut_int Try.underlying2 w0) trodAll_mk0), rfl, hg.frame _, fun h => by cases h⟩

theorem over : Rows.ratioSignsRow.holds Try.pinned (OpenSpec.ofChange Rows.ratioSignsSpec) :=
  OpenClaim.holds_of_wide 8 Try.f8 rfl rfl rfl rfl rfl rfl rfl ⟨rfl, rfl, rfl, rfl, rfl⟩ rfl rfl rfl rfl rfl (by kernel_rfl) Try.func8 (by kernel_rfl)
    (of_decide_eq_true (by kernel_rfl)) (by unfold Func.isWrapper; first | (rw [if_pos (by decide +kernel)]; kernel_rfl) | (rw [if_neg (by decide +kernel)]; exact ⟨rfl, rfl⟩))
    (fun os started H enc _ => lifted os started H enc)

theorem proved : Rows.RatioSignsSaid :=
  over
#print axioms proved
end Go.Proofs.Ytnkjfandknndkaa.ratioSigns
