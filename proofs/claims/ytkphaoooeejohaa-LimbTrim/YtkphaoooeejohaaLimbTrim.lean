/-
  Proved here: for every input LimbTrim returns true, and leaves its arguments as they were. No condition.
-/
import Derived.Test.YtkphaoooeejohaaCame
import Derived.Test.YtkphaoooeejohaaShift
import Derived.Test.YtkphaoooeejohaaBits
import Derived.Test.YtkphaoooeejohaaTrim
import Derived.Test.YtkphaoooeejohaaZeros
import Derived.Test.YtkphaoooeejohaaCmp
namespace Go.Proofs.Ytkphaoooeejohaa.limbTrim
open Go.ChangeShapes Go.WideShapes Go.ChangeAt Go.RowKit
open Go.ChangeMaps (open_string shut_string)
set_option linter.unusedVariables false

set_option maxRecDepth 100000 in
set_option maxHeartbeats 2000000 in
theorem walk (a0 : Option Addr) (len0 cap0 : Nat) (z0 : List Int) (a1 : Option Addr) (len1 cap1 : Nat) (z1 : List Int) (a2 : Int) (w : World) (w0 : IsRow .u64 w a0 len0 cap0 z0) (w1 : IsRow .u64 w a1 len1 cap1 z1) (w2 : (Lit.int .u8 a2).wf = true) :
    Calls Try.prog 10 #[.slice a0 len0 cap0, .slice a1 len1 cap1, .int .u8 a2] w fun e w' => e = .returned (.bool true) ∧ Below w.heap.size w w' := by
  have r0 := w0.row
  have r1 := w1.row
  generalize z0.take len0 = xs at r0
  generalize z1.take len1 = ys at r1
  have m0 : len0 ≤ maxLen := Nat.le_trans r0.fits r0.most
  have m1 : len1 ≤ maxLen := Nat.le_trans r1.fits r1.most
  clear w0 w1
  have R0 : Hid (RowAt w a0 len0 cap0 xs) := r0
  have R1 : Hid (RowAt w a1 len1 cap1 ys) := r1
  clear r0 r1
  have hu := bounds_u8 w2
  clear w2
  have hu1 := hu.1
  have hu2 := hu.2
  clear hu
  by_cases h1 : 30 < len0 ∨ 30 < len1
  · clear R0 R1
    go_enter Try.func10, Try.ntmps10
    go_wp2_with fail
    refine (heavy_yes _ _ _ _ _ _ _ m0 m1 h1).mono ?_
    rintro e w' ⟨rfl, rfl⟩
    go_wp2_with fail
    refine (shown_any _).mono ?_
    rintro e w2 ⟨rfl, hb⟩
    go_wp2
    go_ret
    exact ⟨rfl, hb⟩
  · have k0 : len0 ≤ 30 := by omega
    have k1 : len1 ≤ 30 := by omega
    clear h1 m0 m1
    obtain ⟨k, hk⟩ := Int.eq_ofNat_of_zero_le (show 0 ≤ a2 % 10 by omega)
    have hk9 : k ≤ 10 := by omega
    have HK : Hid (a2 % 10 = (k : Int)) := hk
    clear hk
    go_enter Try.func10, Try.ntmps10
    go_wp2_with fail
    refine (heavy_no _ _ _ _ _ _ _ k0 k1).mono ?_
    rintro e w' ⟨rfl, rfl⟩
    go_wp2_with fail
    refine (shown_any _).mono ?_
    rintro e w1 ⟨rfl, b1⟩
    have A1 : Hid (Below w.heap.size w w1) := b1
    clear b1
    obtain ⟨gg, gc, v2, co, cc, w2, e1, e2, hc, b2⟩ := longer w1 a0 len0 cap0 k (a2 % 10) xs (R0.out.below A1.out) k0 hk9 HK.out
    obtain ⟨cm, hcm⟩ : ∃ cm, cm = len0 + k := ⟨_, rfl⟩
    rw [← hcm] at e2 hc
    have hcm2 : cm ≤ 40 := by omega
    obtain ⟨c, hcc⟩ : ∃ c, c = xs ++ List.replicate k 0 := ⟨_, rfl⟩
    rw [← hcc] at hc
    have VC : Hid (val c = val xs) := by rw [hcc]; exact val_zeros xs k
    have E1 : Hid _ := e1
    have E2 : Hid _ := e2
    clear e1 e2 hcm hcc
    go_wp2_with (first | (at_builtin; refine Lib.wpList_append_run _ rfl (.tmp 18) (.tmp 19) _ _ rfl _ _ rfl rfl _ _ E1.out ?_) | (at_builtin; refine Lib.wpList_append_run _ rfl (.tmp 20) (.tmp 23) _ _ rfl _ _ rfl rfl _ _ E2.out ?_))
    have A2 : Hid (Below w.heap.size w w2) := chain A1.out b2
    have Xc2 : Hid (RowAt w2 co cm cc c) := hc
    clear b2 A1 hc
    clear E1 E2
    refine (trim_shape _ _ _ c _ Xc2.out (by omega)).mono ?_
    rintro e w3 ⟨b3, ⟨to, tc, rfl, ht, nt⟩ | ⟨tb, tf, tq, tc, t, rfl, ht, nt, hne, mt⟩⟩
    · obtain ⟨v, hv⟩ : ∃ v, v = bitsI (val xs) := ⟨_, rfl⟩
      have HV : Hid (v = bitsI (val xs)) := hv
      clear hv
      have Nt : Hid (Num [] (val c)) := nt
      clear nt
      have A3 : Hid (Below w.heap.size w w3) := chain A2.out b3
      have Xc3 : Hid (RowAt w3 co cm cc c) := Xc2.out.below b3
      have Xt3 : Hid (RowAt w3 to 0 tc []) := ht
      clear ht b3 A2 Xc2
      go_wp2_with fail
      refine (trim_any _ _ _ xs _ (R0.out.below A3.out) (by omega)).mono ?_
      rintro e w4 ⟨uo, um, uc, u, rfl, hu, nu, mu, b4⟩
      have Nu : Hid _ := nu
      clear nu
      have A4 : Hid (Below w.heap.size w w4) := chain A3.out b4
      have Xc4 : Hid (RowAt w4 co cm cc c) := Xc3.out.below b4
      have Xt4 : Hid (RowAt w4 to 0 tc []) := Xt3.out.below b4
      have Xu4 : Hid (RowAt w4 uo um uc u) := hu
      clear b4 A3 Xc3 Xt3 hu
      go_wp2_with fail
      refine (same_yes _ _ _ _ _ _ [] u _ Xt4.out Xu4.out (Nt.out.one (by rw [VC.out]; exact Nu.out))).mono ?_
      rintro e w5 ⟨rfl, b5⟩
      have A5 : Hid (Below w.heap.size w w5) := chain A4.out b5
      have Xc5 : Hid (RowAt w5 co cm cc c) := Xc4.out.below b5
      have Xt5 : Hid (RowAt w5 to 0 tc []) := Xt4.out.below b5
      clear b5 A4 Xc4 Xt4
      clear Xu4
      clear Xt5
      go_wp2_with fail
      refine (add_any _ _ _ _ _ _ c ys _ Xc5.out (R1.out.below A5.out) (by omega) (by omega)).mono ?_
      rintro e w6 ⟨po, pm, pc, p, rfl, hp, np, mp, b6⟩
      have Np : Hid _ := np
      clear np
      have A6 : Hid (Below w.heap.size w w6) := chain A5.out b6
      have Xc6 : Hid (RowAt w6 co cm cc c) := Xc5.out.below b6
      have Xp6 : Hid (RowAt w6 po pm pc p) := hp
      clear b6 A5 Xc5 hp
      go_wp2_with fail
      refine (add_any _ _ _ _ _ _ xs ys _ (R0.out.below A6.out) (R1.out.below A6.out) (by omega) (by omega)).mono ?_
      rintro e w7 ⟨qo, qm, qc, q, rfl, hq, nq, mq, b7⟩
      have Nq : Hid _ := nq
      clear nq
      have A7 : Hid (Below w.heap.size w w7) := chain A6.out b7
      have Xc7 : Hid (RowAt w7 co cm cc c) := Xc6.out.below b7
      have Xp7 : Hid (RowAt w7 po pm pc p) := Xp6.out.below b7
      have Xq7 : Hid (RowAt w7 qo qm qc q) := hq
      clear b7 A6 Xc6 Xp6 hq
      go_wp2_with fail
      refine (same_yes _ _ _ _ _ _ p q _ Xp7.out Xq7.out (Np.out.one (by rw [VC.out]; exact Nq.out))).mono ?_
      rintro e w8 ⟨rfl, b8⟩
      have A8 : Hid (Below w.heap.size w w8) := chain A7.out b8
      have Xc8 : Hid (RowAt w8 co cm cc c) := Xc7.out.below b8
      have Xp8 : Hid (RowAt w8 po pm pc p) := Xp7.out.below b8
      have Xq8 : Hid (RowAt w8 qo qm qc q) := Xq7.out.below b8
      clear b8 A7 Xc7 Xp7 Xq7
      clear Xp8
      clear Xq8
      go_wp2_with fail
      refine (mul_any _ _ _ _ _ _ ys c _ (R1.out.below A8.out) Xc8.out (by omega) (by omega)).mono ?_
      rintro e w9 ⟨fo, fm, fc, f, rfl, hf, nf, mf, b9⟩
      have Nf : Hid _ := nf
      clear nf
      have A9 : Hid (Below w.heap.size w w9) := chain A8.out b9
      have Xc9 : Hid (RowAt w9 co cm cc c) := Xc8.out.below b9
      have Xf9 : Hid (RowAt w9 fo fm fc f) := hf
      clear b9 A8 Xc8 hf
      go_wp2_with fail
      refine (mul_any _ _ _ _ _ _ ys xs _ (R1.out.below A9.out) (R0.out.below A9.out) (by omega) (by omega)).mono ?_
      rintro e w10 ⟨go, gm, gc, g, rfl, hg, ng, mg, b10⟩
      have Ng : Hid _ := ng
      clear ng
      have A10 : Hid (Below w.heap.size w w10) := chain A9.out b10
      have Xc10 : Hid (RowAt w10 co cm cc c) := Xc9.out.below b10
      have Xf10 : Hid (RowAt w10 fo fm fc f) := Xf9.out.below b10
      have Xg10 : Hid (RowAt w10 go gm gc g) := hg
      clear b10 A9 Xc9 Xf9 hg
      go_wp2_with fail
      refine (same_yes _ _ _ _ _ _ f g _ Xf10.out Xg10.out (Nf.out.one (by rw [VC.out]; exact Ng.out))).mono ?_
      rintro e w11 ⟨rfl, b11⟩
      have A11 : Hid (Below w.heap.size w w11) := chain A10.out b11
      have Xc11 : Hid (RowAt w11 co cm cc c) := Xc10.out.below b11
      have Xf11 : Hid (RowAt w11 fo fm fc f) := Xf10.out.below b11
      have Xg11 : Hid (RowAt w11 go gm gc g) := Xg10.out.below b11
      clear b11 A10 Xc10 Xf10 Xg10
      clear Xf11
      clear Xg11
      go_wp2_with fail
      refine (cmp_eq _ _ _ _ _ _ xs c _ (R0.out.below A11.out) Xc11.out (by omega) (by omega) VC.out.symm).mono ?_
      rintro e w12 ⟨rfl, b12⟩
      have A12 : Hid (Below w.heap.size w w12) := chain A11.out b12
      have Xc12 : Hid (RowAt w12 co cm cc c) := Xc11.out.below b12
      clear b12 A11 Xc11
      go_wp2_with fail
      refine (bits_any _ _ _ xs _ (R0.out.below A12.out) (by omega) v HV.out).mono ?_
      rintro e w13 ⟨rfl, b13⟩
      have A13 : Hid (Below w.heap.size w w13) := chain A12.out b13
      have Xc13 : Hid (RowAt w13 co cm cc c) := Xc12.out.below b13
      clear b13 A12 Xc12
      go_wp2_with fail
      refine (bits_any _ _ _ c _ Xc13.out (by omega) v (by rw [VC.out]; exact HV.out)).mono ?_
      rintro e w14 ⟨rfl, b14⟩
      have A14 : Hid (Below w.heap.size w w14) := chain A13.out b14
      have Xc14 : Hid (RowAt w14 co cm cc c) := Xc13.out.below b14
      clear b14 A13 Xc13
      go_wp2_with fail
      refine (shift_any _ _ _ _ c _ Xc14.out (by omega) (by omega) (by omega)).mono ?_
      rintro e w15 ⟨lo, lm, lc, l, rfl, hl, nl, ml, b15⟩
      have Nl : Hid _ := nl
      clear nl
      have A15 : Hid (Below w.heap.size w w15) := chain A14.out b15
      have Xc15 : Hid (RowAt w15 co cm cc c) := Xc14.out.below b15
      have Xl15 : Hid (RowAt w15 lo lm lc l) := hl
      clear b15 A14 Xc14 hl
      go_wp2_with fail
      refine (shift_any _ _ _ _ xs _ (R0.out.below A15.out) (by omega) (by omega) (by omega)).mono ?_
      rintro e w16 ⟨ro, rm, rc, r, rfl, hr, nr, mr, b16⟩
      have Nr : Hid _ := nr
      clear nr
      have A16 : Hid (Below w.heap.size w w16) := chain A15.out b16
      have Xc16 : Hid (RowAt w16 co cm cc c) := Xc15.out.below b16
      have Xl16 : Hid (RowAt w16 lo lm lc l) := Xl15.out.below b16
      have Xr16 : Hid (RowAt w16 ro rm rc r) := hr
      clear b16 A15 Xc15 Xl15 hr
      go_wp2_with fail
      refine (same_yes _ _ _ _ _ _ l r _ Xl16.out Xr16.out (Nl.out.one (by rw [VC.out]; exact Nr.out))).mono ?_
      rintro e w17 ⟨rfl, b17⟩
      have A17 : Hid (Below w.heap.size w w17) := chain A16.out b17
      have Xc17 : Hid (RowAt w17 co cm cc c) := Xc16.out.below b17
      have Xl17 : Hid (RowAt w17 lo lm lc l) := Xl16.out.below b17
      have Xr17 : Hid (RowAt w17 ro rm rc r) := Xr16.out.below b17
      clear b17 A16 Xc16 Xl16 Xr16
      go_wp2
      go_ret
      exact ⟨rfl, A17.out⟩
    · obtain ⟨v, hv⟩ : ∃ v, v = bitsI (val xs) := ⟨_, rfl⟩
      have HV : Hid (v = bitsI (val xs)) := hv
      clear hv
      have Nt : Hid (Num t (val c)) := nt
      clear nt
      have A3 : Hid (Below w.heap.size w w3) := chain A2.out b3
      have Xc3 : Hid (RowAt w3 co cm cc c) := Xc2.out.below b3
      have Xt3 : Hid (RowAt w3 (some ⟨tb, tf, none⟩) (tq + 1) tc t) := ht
      have HN : Hid (lim t tq ≠ 0) := hne
      clear hne
      clear ht b3 A2 Xc2
      go_wp2_with fail
      refine (trim_any _ _ _ xs _ (R0.out.below A3.out) (by omega)).mono ?_
      rintro e w4 ⟨uo, um, uc, u, rfl, hu, nu, mu, b4⟩
      have Nu : Hid _ := nu
      clear nu
      have A4 : Hid (Below w.heap.size w w4) := chain A3.out b4
      have Xc4 : Hid (RowAt w4 co cm cc c) := Xc3.out.below b4
      have Xt4 : Hid (RowAt w4 (some ⟨tb, tf, none⟩) (tq + 1) tc t) := Xt3.out.below b4
      have Xu4 : Hid (RowAt w4 uo um uc u) := hu
      clear b4 A3 Xc3 Xt3 hu
      go_wp2_with fail
      refine (same_yes _ _ _ _ _ _ t u _ Xt4.out Xu4.out (Nt.out.one (by rw [VC.out]; exact Nu.out))).mono ?_
      rintro e w5 ⟨rfl, b5⟩
      have A5 : Hid (Below w.heap.size w w5) := chain A4.out b5
      have Xc5 : Hid (RowAt w5 co cm cc c) := Xc4.out.below b5
      have Xt5 : Hid (RowAt w5 (some ⟨tb, tf, none⟩) (tq + 1) tc t) := Xt4.out.below b5
      clear b5 A4 Xc4 Xt4
      clear Xu4
      have hcell := Xt5.out.cellAt tq (Nat.lt_succ_self _)
      obtain ⟨x, hx⟩ : ∃ x, x = lim t tq := ⟨_, rfl⟩
      rw [← hx] at hcell
      have hx0 : (x != 0) = true := by rw [bne_iff_ne, hx]; exact HN.out
      have hz : (((tq + 1 : Nat) : Int) == 0) = false := by rw [beq_eq_false_iff_ne]; omega
      clear hx
      clear Xt5
      go_wp2_with fail
      refine (add_any _ _ _ _ _ _ c ys _ Xc5.out (R1.out.below A5.out) (by omega) (by omega)).mono ?_
      rintro e w6 ⟨po, pm, pc, p, rfl, hp, np, mp, b6⟩
      have Np : Hid _ := np
      clear np
      have A6 : Hid (Below w.heap.size w w6) := chain A5.out b6
      have Xc6 : Hid (RowAt w6 co cm cc c) := Xc5.out.below b6
      have Xp6 : Hid (RowAt w6 po pm pc p) := hp
      clear b6 A5 Xc5 hp
      clear hcell hx0 hz
      go_wp2_with fail
      refine (add_any _ _ _ _ _ _ xs ys _ (R0.out.below A6.out) (R1.out.below A6.out) (by omega) (by omega)).mono ?_
      rintro e w7 ⟨qo, qm, qc, q, rfl, hq, nq, mq, b7⟩
      have Nq : Hid _ := nq
      clear nq
      have A7 : Hid (Below w.heap.size w w7) := chain A6.out b7
      have Xc7 : Hid (RowAt w7 co cm cc c) := Xc6.out.below b7
      have Xp7 : Hid (RowAt w7 po pm pc p) := Xp6.out.below b7
      have Xq7 : Hid (RowAt w7 qo qm qc q) := hq
      clear b7 A6 Xc6 Xp6 hq
      go_wp2_with fail
      refine (same_yes _ _ _ _ _ _ p q _ Xp7.out Xq7.out (Np.out.one (by rw [VC.out]; exact Nq.out))).mono ?_
      rintro e w8 ⟨rfl, b8⟩
      have A8 : Hid (Below w.heap.size w w8) := chain A7.out b8
      have Xc8 : Hid (RowAt w8 co cm cc c) := Xc7.out.below b8
      have Xp8 : Hid (RowAt w8 po pm pc p) := Xp7.out.below b8
      have Xq8 : Hid (RowAt w8 qo qm qc q) := Xq7.out.below b8
      clear b8 A7 Xc7 Xp7 Xq7
      clear Xp8
      clear Xq8
      go_wp2_with fail
      refine (mul_any _ _ _ _ _ _ ys c _ (R1.out.below A8.out) Xc8.out (by omega) (by omega)).mono ?_
      rintro e w9 ⟨fo, fm, fc, f, rfl, hf, nf, mf, b9⟩
      have Nf : Hid _ := nf
      clear nf
      have A9 : Hid (Below w.heap.size w w9) := chain A8.out b9
      have Xc9 : Hid (RowAt w9 co cm cc c) := Xc8.out.below b9
      have Xf9 : Hid (RowAt w9 fo fm fc f) := hf
      clear b9 A8 Xc8 hf
      go_wp2_with fail
      refine (mul_any _ _ _ _ _ _ ys xs _ (R1.out.below A9.out) (R0.out.below A9.out) (by omega) (by omega)).mono ?_
      rintro e w10 ⟨go, gm, gc, g, rfl, hg, ng, mg, b10⟩
      have Ng : Hid _ := ng
      clear ng
      have A10 : Hid (Below w.heap.size w w10) := chain A9.out b10
      have Xc10 : Hid (RowAt w10 co cm cc c) := Xc9.out.below b10
      have Xf10 : Hid (RowAt w10 fo fm fc f) := Xf9.out.below b10
      have Xg10 : Hid (RowAt w10 go gm gc g) := hg
      clear b10 A9 Xc9 Xf9 hg
      go_wp2_with fail
      refine (same_yes _ _ _ _ _ _ f g _ Xf10.out Xg10.out (Nf.out.one (by rw [VC.out]; exact Ng.out))).mono ?_
      rintro e w11 ⟨rfl, b11⟩
      have A11 : Hid (Below w.heap.size w w11) := chain A10.out b11
      have Xc11 : Hid (RowAt w11 co cm cc c) := Xc10.out.below b11
      have Xf11 : Hid (RowAt w11 fo fm fc f) := Xf10.out.below b11
      have Xg11 : Hid (RowAt w11 go gm gc g) := Xg10.out.below b11
      clear b11 A10 Xc10 Xf10 Xg10
      clear Xf11
      clear Xg11
      go_wp2_with fail
      refine (cmp_eq _ _ _ _ _ _ xs c _ (R0.out.below A11.out) Xc11.out (by omega) (by omega) VC.out.symm).mono ?_
      rintro e w12 ⟨rfl, b12⟩
      have A12 : Hid (Below w.heap.size w w12) := chain A11.out b12
      have Xc12 : Hid (RowAt w12 co cm cc c) := Xc11.out.below b12
      clear b12 A11 Xc11
      go_wp2_with fail
      refine (bits_any _ _ _ xs _ (R0.out.below A12.out) (by omega) v HV.out).mono ?_
      rintro e w13 ⟨rfl, b13⟩
      have A13 : Hid (Below w.heap.size w w13) := chain A12.out b13
      have Xc13 : Hid (RowAt w13 co cm cc c) := Xc12.out.below b13
      clear b13 A12 Xc12
      go_wp2_with fail
      refine (bits_any _ _ _ c _ Xc13.out (by omega) v (by rw [VC.out]; exact HV.out)).mono ?_
      rintro e w14 ⟨rfl, b14⟩
      have A14 : Hid (Below w.heap.size w w14) := chain A13.out b14
      have Xc14 : Hid (RowAt w14 co cm cc c) := Xc13.out.below b14
      clear b14 A13 Xc13
      go_wp2_with fail
      refine (shift_any _ _ _ _ c _ Xc14.out (by omega) (by omega) (by omega)).mono ?_
      rintro e w15 ⟨lo, lm, lc, l, rfl, hl, nl, ml, b15⟩
      have Nl : Hid _ := nl
      clear nl
      have A15 : Hid (Below w.heap.size w w15) := chain A14.out b15
      have Xc15 : Hid (RowAt w15 co cm cc c) := Xc14.out.below b15
      have Xl15 : Hid (RowAt w15 lo lm lc l) := hl
      clear b15 A14 Xc14 hl
      go_wp2_with fail
      refine (shift_any _ _ _ _ xs _ (R0.out.below A15.out) (by omega) (by omega) (by omega)).mono ?_
      rintro e w16 ⟨ro, rm, rc, r, rfl, hr, nr, mr, b16⟩
      have Nr : Hid _ := nr
      clear nr
      have A16 : Hid (Below w.heap.size w w16) := chain A15.out b16
      have Xc16 : Hid (RowAt w16 co cm cc c) := Xc15.out.below b16
      have Xl16 : Hid (RowAt w16 lo lm lc l) := Xl15.out.below b16
      have Xr16 : Hid (RowAt w16 ro rm rc r) := hr
      clear b16 A15 Xc15 Xl15 hr
      go_wp2_with fail
      refine (same_yes _ _ _ _ _ _ l r _ Xl16.out Xr16.out (Nl.out.one (by rw [VC.out]; exact Nr.out))).mono ?_
      rintro e w17 ⟨rfl, b17⟩
      have A17 : Hid (Below w.heap.size w w17) := chain A16.out b17
      have Xc17 : Hid (RowAt w17 co cm cc c) := Xc16.out.below b17
      have Xl17 : Hid (RowAt w17 lo lm lc l) := Xl16.out.below b17
      have Xr17 : Hid (RowAt w17 ro rm rc r) := Xr16.out.below b17
      clear b17 A16 Xc16 Xl16 Xr16
      go_wp2
      go_ret
      exact ⟨rfl, A17.out⟩

set_option maxRecDepth 100000 in
theorem lifted (os : Os) (started : os.Started) (H : Type) (enc : TypeId × Value → H) :
    ReturnsInHanded {} Try.checked os 10 .any (Rows.limbTrimSpec.pre6 enc Try.prog Try.f10 Rows.limbTrimRow.domain false) (Rows.limbTrimSpec.post enc Try.prog Try.f10 false true false false) := by
  refine returnsInHanded_of_change (C := Try.checked) own started (by kernel_rfl) Try.func10
    (ChangeSpec.witness6 (enc := enc) (C := Try.checked) false ⟨#[], #[.slice none 0 0, .slice none 0 0, .int .u8 0], []⟩ 8 (by kernel_rfl) (by kernel_rfl) (by kernel_rfl) (by kernel_rfl)) ?_
  intro W base args ds gs before hval0 hW hcnd _
  have hval : ∀ (j : Nat) t v, Try.f10.params[j]? = some t → args[j]? = some v → Value.okWide Try.prog W .any base t v := hval0
  have hW' := hW
  obtain ⟨p, q, hA0, hV, rfl, hfz, hnd⟩ := hW
  have hA : DataW.TrodAll enc Try.prog W 0 (fun _ => true) true Try.f10.params.toList args.toList ds p := hA0
  rw [Try.params10] at hA hval
  obtain ⟨v0, vs0, d0, ds0, p0, q0, hargs, rfl, rfl, h0, r0⟩ := trodAll_cons hA
  obtain ⟨v1, vs1, d1, ds1, p1, q1, rfl, rfl, rfl, h1, r1⟩ := trodAll_cons r0
  obtain ⟨v2, vs2, d2, ds2, p2, q2, rfl, rfl, rfl, h2, r2⟩ := trodAll_cons r1
  obtain ⟨rfl, rfl, rfl⟩ := trodAll_nil r2
  obtain rfl : args = #[v0, v1, v2] := by cases args; simp_all
  obtain ⟨rfl, rfl⟩ := trodVars_none hV
  obtain ⟨a0, len0, cap0, rfl⟩ := okWide_slice Try.underlying22 (hval 0 22 v0 rfl rfl)
  have k0 := h0
  have lt0 : ∀ x ∈ p0, x.block < W.heap.size := by obtain ⟨m, hm⟩ := k0; exact DataW.trod_lt m _ _ _ hm
  obtain ⟨z0, w0⟩ : ∃ zs, IsRow .u64 W a0 len0 cap0 zs := by
    obtain ⟨fuel, hf⟩ := h0
    rcases open_ints Try.underlying22 Try.underlying36 (by kernel_rfl) hf with ⟨hcs, _⟩ | ⟨x, l, c, zs, hcs, _, hl, hm, hz, _, hcell, hwz⟩
    · simp [Value.cells] at hcs
      obtain ⟨rfl, rfl, rfl⟩ := hcs
      exact ⟨[], .inl ⟨rfl, rfl, rfl, rfl⟩⟩
    · simp [Value.cells] at hcs
      obtain ⟨rfl, rfl, rfl⟩ := hcs
      exact ⟨zs, .inr ⟨_, rfl, hl, hm, by simpa using hz, hcell, hwz⟩⟩
  obtain ⟨a1, len1, cap1, rfl⟩ := okWide_slice Try.underlying22 (hval 1 22 v1 rfl rfl)
  have k1 := h1
  have lt1 : ∀ x ∈ p1, x.block < W.heap.size := by obtain ⟨m, hm⟩ := k1; exact DataW.trod_lt m _ _ _ hm
  obtain ⟨z1, w1⟩ : ∃ zs, IsRow .u64 W a1 len1 cap1 zs := by
    obtain ⟨fuel, hf⟩ := h1
    rcases open_ints Try.underlying22 Try.underlying36 (by kernel_rfl) hf with ⟨hcs, _⟩ | ⟨x, l, c, zs, hcs, _, hl, hm, hz, _, hcell, hwz⟩
    · simp [Value.cells] at hcs
      obtain ⟨rfl, rfl, rfl⟩ := hcs
      exact ⟨[], .inl ⟨rfl, rfl, rfl, rfl⟩⟩
    · simp [Value.cells] at hcs
      obtain ⟨rfl, rfl, rfl⟩ := hcs
      exact ⟨zs, .inr ⟨_, rfl, hl, hm, by simpa using hz, hcell, hwz⟩⟩
  obtain ⟨a2, rfl, rfl, rfl, w2⟩ := open_int Try.underlying5 (hval 2 5 v2 rfl rfl) h2
  clear hA0 hval0
  refine (walk a0 len0 cap0 z0 a1 len1 cap1 z1 a2 W w0 w1 w2).mono fun e W' ⟨he, bel⟩ => ?_
  subst he
  exact ⟨_, rfl, _, _, _, [], _, [], hW', trodAll_mk1 (shut_bool Try.underlying4 _), (trodAll_cons_mk (Below.trod laidOut (by kernel_rfl) (of_decide_eq_true (by kernel_rfl)) k0 bel lt0) (trodAll_cons_mk (Below.trod laidOut (by kernel_rfl) (of_decide_eq_true (by kernel_rfl)) k1 bel lt1) (trodAll_cons_mk (shut_int Try.underlying5 w2) trodAll_mk0))), rfl, bel.frame _, fun h => by cases h⟩

theorem over : Rows.limbTrimRow.holds Try.pinned (OpenSpec.ofChange Rows.limbTrimSpec) :=
  OpenClaim.holds_of_wide 10 Try.f10 rfl rfl rfl rfl rfl rfl rfl ⟨rfl, rfl, rfl, rfl, rfl⟩ rfl rfl rfl rfl rfl (by kernel_rfl) Try.func10 (by kernel_rfl)
    (of_decide_eq_true (by kernel_rfl)) (by unfold Func.isWrapper; first | (rw [if_pos (by decide +kernel)]; kernel_rfl) | (rw [if_neg (by decide +kernel)]; exact ⟨rfl, rfl⟩))
    (fun os started H enc _ => lifted os started H enc)

theorem proved : Rows.LimbTrimSaid := over
#print axioms proved
end Go.Proofs.Ytkphaoooeejohaa.limbTrim
