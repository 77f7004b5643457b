/-
  Proved here: for every input QuotBoth returns true, and leaves its arguments as they were. No condition.
-/
import Derived.Test.YteobmomoaekadaaRQuot
import Derived.Test.YteobmomoaekadaaCame
namespace Go.Proofs.Yteobmomoaekadaa.quotBoth
open Go.ChangeShapes Go.WideShapes Go.ChangeAt Go.RowKit
open Go.ChangeMaps (open_string shut_string)
set_option linter.unusedVariables false

theorem both_parts {a b : Int} (ha : 0 < a) (hb : 0 < b) : ∃ P Q : Int, 0 < P ∧ 0 < Q ∧ a / gcdI a b = P ∧ a % gcdI a b = 0 ∧ b / gcdI a b = Q ∧ b % gcdI a b = 0 ∧ gcdI P Q = 1 ∧ gcdI a b * (P * b) = a * b ∧ lcmI a b = P * b ∧ P ≤ a ∧ Q ≤ b := by
  have hg := gcdI_pos (b := b) ha
  obtain ⟨P, Q, h1, h2, h3, h4, h5⟩ := gcdI_dvd ha (Int.le_of_lt hb)
  unfold lcmI
  generalize gcdI a b = G at *
  have hP : a / G = P := by rw [h3, Int.mul_ediv_cancel_left _ (by omega)]
  have hQ : b / G = Q := by rw [h4, Int.mul_ediv_cancel_left _ (by omega)]
  have hQ0 : 0 < Q := by
    rcases Int.lt_or_eq_of_le h2 with h | h
    · exact h
    · rw [← h] at h4; simp at h4; omega
  refine ⟨P, Q, h1, hQ0, hP, by rw [h3]; exact Int.mul_emod_right .., hQ, by rw [h4]; exact Int.mul_emod_right .., h5, by rw [← Int.mul_assoc, ← h3], by rw [hP], ?_, ?_⟩
  · rw [← hP]; exact Int.ediv_le_self _ (Int.le_of_lt ha)
  · rw [← hQ]; exact Int.ediv_le_self _ (Int.le_of_lt hb)

set_option maxRecDepth 100000 in
set_option maxHeartbeats 4000000 in
theorem walk (a0 : Option Addr) (len0 cap0 : Nat) (z0 : List Int) (a1 : Option Addr) (len1 cap1 : Nat) (z1 : List Int) (w : World) (w0 : IsRow .u64 w a0 len0 cap0 z0) (w1 : IsRow .u64 w a1 len1 cap1 z1) :
    Calls Try.prog 6 #[.slice a0 len0 cap0, .slice a1 len1 cap1] w fun e w' => e = .returned (.bool true) ∧ Below w.heap.size w w' := by
  have r0 := w0.row
  have r1 := w1.row
  generalize z0.take len0 = xs at r0
  generalize z1.take len1 = ys at r1
  have m0 : len0 ≤ maxLen := Nat.le_trans r0.fits r0.most
  have m1 : len1 ≤ maxLen := Nat.le_trans r1.fits r1.most
  clear w0 w1
  have R0 : Hid (RowAt w a0 len0 cap0 xs) := r0
  have R1 : Hid (RowAt w a1 len1 cap1 ys) := r1
  clear r0 r1
  clear m0 m1
  go_enter Try.func6, Try.ntmps6
  go_wp2_with fail
  refine (lheld_any _ _ _ xs _ R0.out).mono ?_
  rintro e w1 ⟨xo, xm, xc, x, rfl, hx, mx, lx, b1⟩
  have Mx : Hid (May x ∧ Limbs x) := mx
  clear mx
  have A1 : Hid (Below w.heap.size w w1) := b1
  have Xx1 : Hid (RowAt w1 xo xm xc x) := hx
  clear b1 hx
  go_wp2_with fail
  refine (lheld_any _ _ _ ys _ (R1.out.below A1.out)).mono ?_
  rintro e w2 ⟨yo, ym, yc, y, rfl, hy, my, ly, b2⟩
  have My : Hid (May y ∧ Limbs y) := my
  clear my
  have A2 : Hid (Below w.heap.size w w2) := chain A1.out b2
  have Xx2 : Hid (RowAt w2 xo xm xc x) := Xx1.out.below b2
  have Xy2 : Hid (RowAt w2 yo ym yc y) := hy
  clear b2 A1 Xx1 hy
  go_wp2_with fail
  refine (qgcd_any _ _ _ _ _ _ x y _ Xx2.out Xy2.out).mono ?_
  rintro e w3 ⟨ao, am, ac, a, ak, rfl, ha, oa, b3⟩
  have Oa : Hid _ := oa
  clear oa
  have A3 : Hid (Below w.heap.size w w3) := chain A2.out b3
  have Xx3 : Hid (RowAt w3 xo xm xc x) := Xx2.out.below b3
  have Xy3 : Hid (RowAt w3 yo ym yc y) := Xy2.out.below b3
  have Xa3 : Hid (RowAt w3 ao am ac a) := ha
  clear b3 A2 Xx2 Xy2 ha
  have HG : Hid (gcdI (val x) (val y) < Big) := gcdI_lt (val_bd Mx.out.2).1 (val_bd My.out.2).1 (Mx.out.1.lt Mx.out.2) (My.out.1.lt My.out.2)
  obtain ⟨hk, hn⟩ := Oa.out.ok_num ⟨Mx.out.1, My.out.1⟩ (fun f => f) HG.out
  have NA : Hid (Num a (gcdI (val x) (val y))) := hn
  subst hk
  clear hn Oa
  go_wp2_with fail
  refine (qshown_any _).mono ?_
  rintro e w4 ⟨rfl, b4⟩
  have A4 : Hid (Below w.heap.size w w4) := chain A3.out b4
  have Xx4 : Hid (RowAt w4 xo xm xc x) := Xx3.out.below b4
  have Xy4 : Hid (RowAt w4 yo ym yc y) := Xy3.out.below b4
  have Xa4 : Hid (RowAt w4 ao am ac a) := Xa3.out.below b4
  clear b4 A3 Xx3 Xy3 Xa3
  have hzx := val_zero Mx.out.2 Mx.out.1 Xx4.out.len
  have hzy := val_zero My.out.2 My.out.1 Xy4.out.len
  by_cases hx0 : xm = 0
  · have HX0 : Hid (val x = 0) := hzx.1 hx0
    have hxb : ((xm : Int) == 0) = true := by rw [hx0]; rfl
    clear hx0
    clear hzx hzy
    go_wp2_with fail
    refine (radd_any _ _ _ _ _ _ x y _ Xx4.out Xy4.out (by omega) (by omega)).mono ?_
    rintro e w5 ⟨uo, um, uc, u, rfl, hu, nu, b5⟩
    have Nu : Hid (Num u _) := nu
    clear nu
    have A5 : Hid (Below w.heap.size w w5) := chain A4.out b5
    have Xx5 : Hid (RowAt w5 xo xm xc x) := Xx4.out.below b5
    have Xy5 : Hid (RowAt w5 yo ym yc y) := Xy4.out.below b5
    have Xa5 : Hid (RowAt w5 ao am ac a) := Xa4.out.below b5
    have Xu5 : Hid (RowAt w5 uo um uc u) := hu
    clear b5 A4 Xx4 Xy4 Xa4 hu
    have HE : Hid (a = u) := by
      have h := Nu.out
      rw [show val x + val y = gcdI (val x) (val y) by rw [HX0.out, gcdI_zero_left (val_bd My.out.2).1, Int.zero_add]] at h
      exact NA.out.one h
    go_wp2_with fail
    refine (rnsame_yes _ _ _ _ _ _ a u _ Xa5.out Xu5.out HE.out).mono ?_
    rintro e w6 ⟨rfl, b6⟩
    have A6 : Hid (Below w.heap.size w w6) := chain A5.out b6
    have Xx6 : Hid (RowAt w6 xo xm xc x) := Xx5.out.below b6
    have Xy6 : Hid (RowAt w6 yo ym yc y) := Xy5.out.below b6
    have Xa6 : Hid (RowAt w6 ao am ac a) := Xa5.out.below b6
    have Xu6 : Hid (RowAt w6 uo um uc u) := Xu5.out.below b6
    clear b6 A5 Xx5 Xy5 Xa5 Xu5
    go_wp2
    go_ret
    exact ⟨rfl, A6.out⟩
  · have hxb : ((xm : Int) == 0) = false := by rw [beq_eq_false_iff_ne]; omega
    by_cases hy0 : ym = 0
    · have HY0 : Hid (val y = 0) := hzy.1 hy0
      have hyb : ((ym : Int) == 0) = true := by rw [hy0]; rfl
      clear hy0
      clear hzx hzy
      go_wp2_with fail
      refine (radd_any _ _ _ _ _ _ x y _ Xx4.out Xy4.out (by omega) (by omega)).mono ?_
      rintro e w5 ⟨uo, um, uc, u, rfl, hu, nu, b5⟩
      have Nu : Hid (Num u _) := nu
      clear nu
      have A5 : Hid (Below w.heap.size w w5) := chain A4.out b5
      have Xx5 : Hid (RowAt w5 xo xm xc x) := Xx4.out.below b5
      have Xy5 : Hid (RowAt w5 yo ym yc y) := Xy4.out.below b5
      have Xa5 : Hid (RowAt w5 ao am ac a) := Xa4.out.below b5
      have Xu5 : Hid (RowAt w5 uo um uc u) := hu
      clear b5 A4 Xx4 Xy4 Xa4 hu
      have HE : Hid (a = u) := by
        have h := Nu.out
        rw [show val x + val y = gcdI (val x) (val y) by rw [HY0.out, gcdI_zero (val_bd Mx.out.2).1, Int.add_zero]] at h
        exact NA.out.one h
      go_wp2_with fail
      refine (rnsame_yes _ _ _ _ _ _ a u _ Xa5.out Xu5.out HE.out).mono ?_
      rintro e w6 ⟨rfl, b6⟩
      have A6 : Hid (Below w.heap.size w w6) := chain A5.out b6
      have Xx6 : Hid (RowAt w6 xo xm xc x) := Xx5.out.below b6
      have Xy6 : Hid (RowAt w6 yo ym yc y) := Xy5.out.below b6
      have Xa6 : Hid (RowAt w6 ao am ac a) := Xa5.out.below b6
      have Xu6 : Hid (RowAt w6 uo um uc u) := Xu5.out.below b6
      clear b6 A5 Xx5 Xy5 Xa5 Xu5
      go_wp2
      go_ret
      exact ⟨rfl, A6.out⟩
    · have hyb : ((ym : Int) == 0) = false := by rw [beq_eq_false_iff_ne]; omega
      have hxp : 0 < val x := by
        have h1 := (val_bd Mx.out.2).1
        have : val x ≠ 0 := fun e => hx0 (hzx.2 e)
        omega
      have hyp : 0 < val y := by
        have h1 := (val_bd My.out.2).1
        have : val y ≠ 0 := fun e => hy0 (hzy.2 e)
        omega
      obtain ⟨P, Q, hb⟩ := both_parts hxp hyp
      have HB : Hid _ := hb
      have HAZ : Hid (val a ≠ 0) := by
        show val a ≠ 0
        rw [NA.out.val]
        have := gcdI_pos (b := val y) hxp
        omega
      have HMA : Hid (May a) := NA.out.may.2 HG.out
      have hxB := Mx.out.1.lt Mx.out.2
      have hyB := My.out.1.lt My.out.2
      have HLT : Hid (P < Big ∧ Q < Big) := by
        obtain ⟨-, -, -, -, -, -, -, -, -, h1, h2⟩ := hb
        exact ⟨by omega, by omega⟩
      clear hb hxp hyp hzx hzy hxB hyB
      go_wp2_with fail
      refine (qdiv_any _ _ _ _ _ _ x a _ Xx4.out Xa4.out).mono ?_
      rintro e w5 ⟨po, pm, pc, p, ro, rm, rc, r, pk, rfl, hp, hr, op, b5⟩
      have Op : Hid (DivOut x a p r pk) := op
      clear op
      have A5 : Hid (Below w.heap.size w w5) := chain A4.out b5
      have Xx5 : Hid (RowAt w5 xo xm xc x) := Xx4.out.below b5
      have Xy5 : Hid (RowAt w5 yo ym yc y) := Xy4.out.below b5
      have Xa5 : Hid (RowAt w5 ao am ac a) := Xa4.out.below b5
      have Xp5 : Hid (RowAt w5 po pm pc p) := hp
      have Xr5 : Hid (RowAt w5 ro rm rc r) := hr
      clear b5 A4 Xx4 Xy4 Xa4 hp hr
      obtain ⟨hk, hq, hr⟩ := Op.out.is_fine ⟨Mx.out.1, HMA.out⟩ HAZ.out
      rw [NA.out.val] at hq hr
      obtain ⟨hP0, hQ0, e1, e2, e3, e4, -⟩ := HB.out
      rw [e1] at hq
      rw [e2] at hr
      have Np : Hid (Num p P) := hq
      have hr0 : r = [] := zero_of_val hr.limbs hr.trim hr.val
      have erm : rm = 0 := by have h := Xr5.out.len; rw [hr0] at h; exact h.symm
      subst hk
      subst erm
      clear hq hr hr0 e1 e2 e3 e4 hP0 hQ0 Op
      clear Xr5
      go_wp2_with fail
      refine (qdiv_any _ _ _ _ _ _ y a _ Xy5.out Xa5.out).mono ?_
      rintro e w6 ⟨qo, qm, qc, q, so, sm, sc, s, qk, rfl, hq, hs, oq, b6⟩
      have Oq : Hid (DivOut y a q s qk) := oq
      clear oq
      have A6 : Hid (Below w.heap.size w w6) := chain A5.out b6
      have Xx6 : Hid (RowAt w6 xo xm xc x) := Xx5.out.below b6
      have Xy6 : Hid (RowAt w6 yo ym yc y) := Xy5.out.below b6
      have Xa6 : Hid (RowAt w6 ao am ac a) := Xa5.out.below b6
      have Xp6 : Hid (RowAt w6 po pm pc p) := Xp5.out.below b6
      have Xq6 : Hid (RowAt w6 qo qm qc q) := hq
      have Xs6 : Hid (RowAt w6 so sm sc s) := hs
      clear b6 A5 Xx5 Xy5 Xa5 Xp5 hq hs
      obtain ⟨hk, hq, hr⟩ := Oq.out.is_fine ⟨My.out.1, HMA.out⟩ HAZ.out
      rw [NA.out.val] at hq hr
      obtain ⟨hP0, hQ0, e1, e2, e3, e4, -⟩ := HB.out
      rw [e3] at hq
      rw [e4] at hr
      have Nq : Hid (Num q Q) := hq
      have hr0 : s = [] := zero_of_val hr.limbs hr.trim hr.val
      have erm : sm = 0 := by have h := Xs6.out.len; rw [hr0] at h; exact h.symm
      subst hk
      subst erm
      clear hq hr hr0 e1 e2 e3 e4 hP0 hQ0 Oq
      clear Xs6
      go_wp2_with fail
      refine (qgcd_any _ _ _ _ _ _ p q _ Xp6.out Xq6.out).mono ?_
      rintro e w7 ⟨io, im, ic, i, ik, rfl, hi, oi, b7⟩
      have Oi : Hid _ := oi
      clear oi
      have A7 : Hid (Below w.heap.size w w7) := chain A6.out b7
      have Xx7 : Hid (RowAt w7 xo xm xc x) := Xx6.out.below b7
      have Xy7 : Hid (RowAt w7 yo ym yc y) := Xy6.out.below b7
      have Xa7 : Hid (RowAt w7 ao am ac a) := Xa6.out.below b7
      have Xp7 : Hid (RowAt w7 po pm pc p) := Xp6.out.below b7
      have Xq7 : Hid (RowAt w7 qo qm qc q) := Xq6.out.below b7
      have Xi7 : Hid (RowAt w7 io im ic i) := hi
      clear b7 A6 Xx6 Xy6 Xa6 Xp6 Xq6 hi
      have hone : gcdI (val p) (val q) = 1 := by
        rw [Np.out.val, Nq.out.val]
        obtain ⟨-, -, -, -, -, -, h, -⟩ := HB.out
        exact h
      obtain ⟨hk, hn⟩ := Oi.out.ok_num ⟨Np.out.may.2 HLT.out.1, Nq.out.may.2 HLT.out.2⟩ (fun f => f) (by rw [hone]; exact Big_one)
      rw [hone] at hn
      have HI : Hid (i = [1]) := hn.one (num1 (by omega) (by unfold BB; omega))
      subst hk
      clear hone hn Oi
      go_wp2_with fail
      refine (qlcm_any _ _ _ _ _ _ x y _ Xx7.out Xy7.out).mono ?_
      rintro e w8 ⟨jo, jm, jc, j, jk, rfl, hj, oj, b8⟩
      have Oj : Hid _ := oj
      clear oj
      have A8 : Hid (Below w.heap.size w w8) := chain A7.out b8
      have Xx8 : Hid (RowAt w8 xo xm xc x) := Xx7.out.below b8
      have Xy8 : Hid (RowAt w8 yo ym yc y) := Xy7.out.below b8
      have Xa8 : Hid (RowAt w8 ao am ac a) := Xa7.out.below b8
      have Xp8 : Hid (RowAt w8 po pm pc p) := Xp7.out.below b8
      have Xq8 : Hid (RowAt w8 qo qm qc q) := Xq7.out.below b8
      have Xi8 : Hid (RowAt w8 io im ic i) := Xi7.out.below b8
      have Xj8 : Hid (RowAt w8 jo jm jc j) := hj
      clear b8 A7 Xx7 Xy7 Xa7 Xp7 Xq7 Xi7 hj
      have OJ : Hid (Out (May x ∧ May y) False (P * val y) j jk) := by
        have h := Oj.out
        obtain ⟨-, -, -, -, -, -, -, -, e, -⟩ := HB.out
        rw [e] at h
        exact h
      clear Oj
      have hs8 : w.heap.size ≤ w8.heap.size := A8.out.size
      have I1 : Hid (Below w8.heap.size w8 (w8.alloc (Obj.cells #[.int .u64 1] 24))) := (Below.refl _ _).alloc (Nat.le_refl _) _
      have J1 : Hid (RowAt (w8.alloc (Obj.cells #[.int .u64 1] 24)) (some ⟨w8.heap.size, 0, none⟩) 1 1 [1]) := one_row w8 1 (by omega) (by unfold BB; omega)
      have K1 : Hid (RowAt (w8.alloc (Obj.cells #[.int .u64 1] 24)) io im ic i) := Xi8.out.below I1.out
      clear Xi8
      go_wp2_with fail
      refine (rnsame_yes _ _ _ _ _ _ i [1] _ K1.out J1.out HI.out).mono ?_
      rintro e w9 ⟨rfl, b0⟩
      have b9 := I1.out.trans (b0.mono I1.out.size)
      clear b0 I1 J1 K1 hs8
      have A9 : Hid (Below w.heap.size w w9) := chain A8.out b9
      have Xx9 : Hid (RowAt w9 xo xm xc x) := Xx8.out.below b9
      have Xy9 : Hid (RowAt w9 yo ym yc y) := Xy8.out.below b9
      have Xa9 : Hid (RowAt w9 ao am ac a) := Xa8.out.below b9
      have Xp9 : Hid (RowAt w9 po pm pc p) := Xp8.out.below b9
      have Xq9 : Hid (RowAt w9 qo qm qc q) := Xq8.out.below b9
      have Xj9 : Hid (RowAt w9 jo jm jc j) := Xj8.out.below b9
      clear b9 A8 Xx8 Xy8 Xa8 Xp8 Xq8 Xj8
      have lp : pm ≤ 8 := by have h := (Np.out.may.2 HLT.out.1).1; have := Xp9.out.len; omega
      have la : am ≤ 8 := by have h := HMA.out.1; have := Xa9.out.len; omega
      rcases Int.lt_or_le (P * val y) Big with hlt | hge
      · obtain ⟨hk, hn⟩ := OJ.out.ok_num ⟨Mx.out.1, My.out.1⟩ (fun f => f) hlt
        have NJ : Hid (Num j (P * val y)) := hn
        have lj : jm ≤ 8 := by have h := (hn.may.2 hlt).1; have := Xj9.out.len; omega
        subst hk
        clear hn hlt OJ
        clear Xp9
        clear Xq9
        go_wp2_with fail
        refine (rmul_any _ _ _ _ _ _ a j _ Xa9.out Xj9.out (by omega) (by omega)).mono ?_
        rintro e w10 ⟨uo, um, uc, u, rfl, hu, nu, b10⟩
        have Nu : Hid (Num u _) := nu
        clear nu
        have A10 : Hid (Below w.heap.size w w10) := chain A9.out b10
        have Xx10 : Hid (RowAt w10 xo xm xc x) := Xx9.out.below b10
        have Xy10 : Hid (RowAt w10 yo ym yc y) := Xy9.out.below b10
        have Xa10 : Hid (RowAt w10 ao am ac a) := Xa9.out.below b10
        have Xj10 : Hid (RowAt w10 jo jm jc j) := Xj9.out.below b10
        have Xu10 : Hid (RowAt w10 uo um uc u) := hu
        clear b10 A9 Xx9 Xy9 Xa9 Xj9 hu
        go_wp2_with fail
        refine (rmul_any _ _ _ _ _ _ x y _ Xx10.out Xy10.out (by omega) (by omega)).mono ?_
        rintro e w11 ⟨vo, vm, vc, v, rfl, hv, nv, b11⟩
        have Nv : Hid (Num v _) := nv
        clear nv
        have A11 : Hid (Below w.heap.size w w11) := chain A10.out b11
        have Xx11 : Hid (RowAt w11 xo xm xc x) := Xx10.out.below b11
        have Xy11 : Hid (RowAt w11 yo ym yc y) := Xy10.out.below b11
        have Xa11 : Hid (RowAt w11 ao am ac a) := Xa10.out.below b11
        have Xj11 : Hid (RowAt w11 jo jm jc j) := Xj10.out.below b11
        have Xu11 : Hid (RowAt w11 uo um uc u) := Xu10.out.below b11
        have Xv11 : Hid (RowAt w11 vo vm vc v) := hv
        clear b11 A10 Xx10 Xy10 Xa10 Xj10 Xu10 hv
        have HE : Hid (u = v) := by
          have h := Nu.out
          obtain ⟨-, -, -, -, -, -, -, e, -⟩ := HB.out
          rw [NA.out.val, NJ.out.val, e] at h
          exact h.one Nv.out
        go_wp2_with fail
        refine (rnsame_yes _ _ _ _ _ _ u v _ Xu11.out Xv11.out HE.out).mono ?_
        rintro e w12 ⟨rfl, b12⟩
        have A12 : Hid (Below w.heap.size w w12) := chain A11.out b12
        have Xx12 : Hid (RowAt w12 xo xm xc x) := Xx11.out.below b12
        have Xy12 : Hid (RowAt w12 yo ym yc y) := Xy11.out.below b12
        have Xa12 : Hid (RowAt w12 ao am ac a) := Xa11.out.below b12
        have Xj12 : Hid (RowAt w12 jo jm jc j) := Xj11.out.below b12
        have Xu12 : Hid (RowAt w12 uo um uc u) := Xu11.out.below b12
        have Xv12 : Hid (RowAt w12 vo vm vc v) := Xv11.out.below b12
        clear b12 A11 Xx11 Xy11 Xa11 Xj11 Xu11 Xv11
        go_wp2
        go_ret
        exact ⟨rfl, A12.out⟩
      · obtain ⟨hk, hn⟩ := OJ.out.is_big ⟨Mx.out.1, My.out.1⟩ (fun f => f) hge
        have HGE : Hid (Big ≤ P * val y) := hge
        subst hk
        clear hn hge OJ
        clear Xq9
        clear Xa9
        clear Xj9
        go_wp2_with fail
        refine (rmul_any _ _ _ _ _ _ p y _ Xp9.out Xy9.out (by omega) (by omega)).mono ?_
        rintro e w10 ⟨uo, um, uc, u, rfl, hu, nu, b10⟩
        have Nu : Hid (Num u _) := nu
        clear nu
        have A10 : Hid (Below w.heap.size w w10) := chain A9.out b10
        have Xx10 : Hid (RowAt w10 xo xm xc x) := Xx9.out.below b10
        have Xy10 : Hid (RowAt w10 yo ym yc y) := Xy9.out.below b10
        have Xp10 : Hid (RowAt w10 po pm pc p) := Xp9.out.below b10
        have Xu10 : Hid (RowAt w10 uo um uc u) := hu
        clear b10 A9 Xx9 Xy9 Xp9 hu
        have hu8 : (8 : Int) < (um : Int) := by
          have h := Nu.out.le8
          rw [Np.out.val, Xu10.out.len] at h
          have h2 := HGE.out
          have : ¬ um ≤ 8 := fun c => by have := h.1 c; omega
          omega
        have hmost : um ≤ maxLen := Nat.le_trans Xu10.out.fits Xu10.out.most
        unfold maxLen at hmost
        go_wp2
        go_ret
        exact ⟨rfl, A10.out⟩

set_option maxRecDepth 100000 in
theorem lifted (os : Os) (started : os.Started) (H : Type) (enc : TypeId × Value → H) :
    ReturnsInHanded {} Try.checked os 6 .any (Rows.quotBothSpec.pre6 enc Try.prog Try.f6 Rows.quotBothRow.domain false) (Rows.quotBothSpec.post enc Try.prog Try.f6 false true false false) := by
  refine returnsInHanded_of_change (C := Try.checked) own started (by kernel_rfl) Try.func6
    (ChangeSpec.witness6 (enc := enc) (C := Try.checked) false ⟨#[], #[.slice none 0 0, .slice none 0 0], []⟩ 8 (by kernel_rfl) (by kernel_rfl) (by kernel_rfl) (by kernel_rfl)) ?_
  intro W base args ds gs before hval0 hW hcnd _
  have hval : ∀ (j : Nat) t v, Try.f6.params[j]? = some t → args[j]? = some v → Value.okWide Try.prog W .any base t v := hval0
  have hW' := hW
  obtain ⟨p, q, hA0, hV, rfl, hfz, hnd⟩ := hW
  have hA : DataW.TrodAll enc Try.prog W 0 (fun _ => true) true Try.f6.params.toList args.toList ds p := hA0
  rw [Try.params6] at hA hval
  obtain ⟨v0, vs0, d0, ds0, p0, q0, hargs, rfl, rfl, h0, r0⟩ := trodAll_cons hA
  obtain ⟨v1, vs1, d1, ds1, p1, q1, rfl, rfl, rfl, h1, r1⟩ := trodAll_cons r0
  obtain ⟨rfl, rfl, rfl⟩ := trodAll_nil r1
  obtain rfl : args = #[v0, v1] := by cases args; simp_all
  obtain ⟨rfl, rfl⟩ := trodVars_none hV
  obtain ⟨a0, len0, cap0, rfl⟩ := okWide_slice Try.underlying22 (hval 0 22 v0 rfl rfl)
  have k0 := h0
  have lt0 : ∀ x ∈ p0, x.block < W.heap.size := by obtain ⟨m, hm⟩ := k0; exact DataW.trod_lt m _ _ _ hm
  obtain ⟨z0, w0⟩ : ∃ zs, IsRow .u64 W a0 len0 cap0 zs := by
    obtain ⟨fuel, hf⟩ := h0
    rcases open_ints Try.underlying22 Try.underlying24 (by kernel_rfl) hf with ⟨hcs, _⟩ | ⟨x, l, c, zs, hcs, _, hl, hm, hz, _, hcell, hwz⟩
    · simp [Value.cells] at hcs
      obtain ⟨rfl, rfl, rfl⟩ := hcs
      exact ⟨[], .inl ⟨rfl, rfl, rfl, rfl⟩⟩
    · simp [Value.cells] at hcs
      obtain ⟨rfl, rfl, rfl⟩ := hcs
      exact ⟨zs, .inr ⟨_, rfl, hl, hm, by simpa using hz, hcell, hwz⟩⟩
  obtain ⟨a1, len1, cap1, rfl⟩ := okWide_slice Try.underlying22 (hval 1 22 v1 rfl rfl)
  have k1 := h1
  have lt1 : ∀ x ∈ p1, x.block < W.heap.size := by obtain ⟨m, hm⟩ := k1; exact DataW.trod_lt m _ _ _ hm
  obtain ⟨z1, w1⟩ : ∃ zs, IsRow .u64 W a1 len1 cap1 zs := by
    obtain ⟨fuel, hf⟩ := h1
    rcases open_ints Try.underlying22 Try.underlying24 (by kernel_rfl) hf with ⟨hcs, _⟩ | ⟨x, l, c, zs, hcs, _, hl, hm, hz, _, hcell, hwz⟩
    · simp [Value.cells] at hcs
      obtain ⟨rfl, rfl, rfl⟩ := hcs
      exact ⟨[], .inl ⟨rfl, rfl, rfl, rfl⟩⟩
    · simp [Value.cells] at hcs
      obtain ⟨rfl, rfl, rfl⟩ := hcs
      exact ⟨zs, .inr ⟨_, rfl, hl, hm, by simpa using hz, hcell, hwz⟩⟩
  clear hA0 hval0
  refine (walk a0 len0 cap0 z0 a1 len1 cap1 z1 W w0 w1).mono fun e W' ⟨he, bel⟩ => ?_
  subst he
  exact ⟨_, rfl, _, _, _, [], _, [], hW', trodAll_mk1 (shut_bool Try.underlying4 _), (trodAll_cons_mk (Below.trod laidOut (by kernel_rfl) (of_decide_eq_true (by kernel_rfl)) k0 bel lt0) (trodAll_cons_mk (Below.trod laidOut (by kernel_rfl) (of_decide_eq_true (by kernel_rfl)) k1 bel lt1) trodAll_mk0)), rfl, bel.frame _, fun h => by cases h⟩

theorem over : Rows.quotBothRow.holds Try.pinned (OpenSpec.ofChange Rows.quotBothSpec) :=
  OpenClaim.holds_of_wide 6 Try.f6 rfl rfl rfl rfl rfl rfl rfl ⟨rfl, rfl, rfl, rfl, rfl⟩ rfl rfl rfl rfl rfl (by kernel_rfl) Try.func6 (by kernel_rfl)
    (of_decide_eq_true (by kernel_rfl)) (by unfold Func.isWrapper; first | (rw [if_pos (by decide +kernel)]; kernel_rfl) | (rw [if_neg (by decide +kernel)]; exact ⟨rfl, rfl⟩))
    (fun os started H enc _ => lifted os started H enc)

theorem proved : Rows.QuotBothSaid := over
#print axioms proved
end Go.Proofs.Yteobmomoaekadaa.quotBoth
