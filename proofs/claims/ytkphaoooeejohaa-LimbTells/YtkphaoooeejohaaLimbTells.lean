/-
  Proved here: for every input LimbTells returns true, and leaves its arguments as they were. No condition.
-/
import Derived.Test.YtkphaoooeejohaaCame
import Derived.Test.YtkphaoooeejohaaSub
import Derived.Test.YtkphaoooeejohaaRMul
import Derived.Test.YtkphaoooeejohaaRAdd
namespace Go.Proofs.Ytkphaoooeejohaa.limbTells
open Go.ChangeShapes Go.WideShapes Go.ChangeAt Go.RowKit
open Go.ChangeMaps (open_string shut_string)
set_option linter.unusedVariables false

set_option maxRecDepth 100000 in
set_option maxHeartbeats 4000000 in
theorem walk (a0 : Option Addr) (len0 cap0 : Nat) (z0 : List Int) (a1 : Option Addr) (len1 cap1 : Nat) (z1 : List Int) (w : World) (w0 : IsRow .u64 w a0 len0 cap0 z0) (w1 : IsRow .u64 w a1 len1 cap1 z1) :
    Calls Try.prog 3 #[.slice a0 len0 cap0, .slice a1 len1 cap1] w fun e w' => e = .returned (.bool true) ∧ Below w.heap.size w w' := by
  have r0 := w0.row
  have r1 := w1.row
  generalize z0.take len0 = xs at r0
  generalize z1.take len1 = ys at r1
  have m0 : len0 ≤ maxLen := Nat.le_trans r0.fits r0.most
  have m1 : len1 ≤ maxLen := Nat.le_trans r1.fits r1.most
  clear w0 w1
  have R0 : Hid (RowAt w a0 len0 cap0 xs) := r0
  have R1 : Hid (RowAt w a1 len1 cap1 ys) := r1
  clear r0 r1
  by_cases h1 : 30 < len0 ∨ 30 < len1
  · clear R0 R1
    go_enter Try.func3, Try.ntmps3
    go_wp2_with fail
    refine (heavy_yes _ _ _ _ _ _ _ m0 m1 h1).mono ?_
    rintro e w' ⟨rfl, rfl⟩
    go_wp2_with fail
    refine (shown_any _).mono ?_
    rintro e w2 ⟨rfl, hb⟩
    go_wp2
    go_ret
    exact ⟨rfl, hb⟩
  · have k0 : len0 ≤ 30 := by omega
    have k1 : len1 ≤ 30 := by omega
    clear h1 m0 m1
    obtain ⟨cv, hcv⟩ : ∃ c, c = cmpI (val xs) (val ys) := ⟨_, rfl⟩
    obtain ⟨bv, hbv⟩ : ∃ v, v = bitsI (val xs) := ⟨_, rfl⟩
    have HC : Hid (cv = cmpI (val xs) (val ys)) := hcv
    have HBV : Hid (bv = bitsI (val xs)) := hbv
    clear hcv hbv
    rcases Int.lt_or_le (val xs) (val ys) with hlt | hle
    · have HV : Hid (val xs < val ys) := hlt
      clear hlt
      go_enter Try.func3, Try.ntmps3
      go_wp2_with fail
      refine (heavy_no _ _ _ _ _ _ _ k0 k1).mono ?_
      rintro e w' ⟨rfl, rfl⟩
      go_wp2_with fail
      refine (shown_any _).mono ?_
      rintro e w1 ⟨rfl, b1⟩
      have A1 : Hid (Below w.heap.size w w1) := b1
      clear b1
      go_wp2_with fail
      refine (sub_no _ _ _ _ _ _ xs ys _ (R0.out.below A1.out) (R1.out.below A1.out) (by omega) (by omega) HV.out).mono ?_
      rintro e w2 ⟨so, sc, rfl, hs, b2⟩
      have A2 : Hid (Below w.heap.size w w2) := chain A1.out b2
      have S2 : Hid (RowAt w2 so 0 sc []) := hs
      clear hs b2 A1
      go_wp2_with fail
      refine (rsub_no _ _ _ _ _ _ xs ys _ (R0.out.below A2.out) (R1.out.below A2.out) (by omega) (by omega) HV.out).mono ?_
      rintro e w3 ⟨rfl, b3⟩
      have S3 : Hid (RowAt w3 so 0 sc []) := S2.out.below b3
      have A3 : Hid (Below w.heap.size w w3) := chain A2.out b3
      clear b3 A2
      clear S2
      go_wp2_with fail
      refine (trim_any _ _ _ xs _ (R0.out.below A3.out) (by omega)).mono ?_
      rintro e w4 ⟨po, pm, pc, p, rfl, hp, np, mp, b4⟩
      have Np : Hid _ := np
      clear np
      have S4 : Hid (RowAt w4 so 0 sc []) := S3.out.below b4
      have A4 : Hid (Below w.heap.size w w4) := chain A3.out b4
      have Xp4 : Hid (RowAt w4 po pm pc p) := hp
      clear b4 A3 hp
      clear S3
      go_wp2_with fail
      refine (rtrim_any _ _ _ xs _ (R0.out.below A4.out) (by omega)).mono ?_
      rintro e w5 ⟨qo, qm, qc, q, rfl, hq, nq, mq, b5⟩
      have Nq : Hid _ := nq
      clear nq
      have S5 : Hid (RowAt w5 so 0 sc []) := S4.out.below b5
      have A5 : Hid (Below w.heap.size w w5) := chain A4.out b5
      have Xp5 : Hid (RowAt w5 po pm pc p) := Xp4.out.below b5
      have Xq5 : Hid (RowAt w5 qo qm qc q) := hq
      clear b5 A4 Xp4 hq
      clear S4
      go_wp2_with fail
      refine (same_yes _ _ _ _ _ _ p q _ Xp5.out Xq5.out (Np.out.one Nq.out)).mono ?_
      rintro e w6 ⟨rfl, b6⟩
      have S6 : Hid (RowAt w6 so 0 sc []) := S5.out.below b6
      have A6 : Hid (Below w.heap.size w w6) := chain A5.out b6
      have Xp6 : Hid (RowAt w6 po pm pc p) := Xp5.out.below b6
      have Xq6 : Hid (RowAt w6 qo qm qc q) := Xq5.out.below b6
      clear b6 A5 Xp5 Xq5
      clear S5
      clear Xp6
      clear Xq6
      go_wp2_with fail
      refine (cmp_val _ _ _ _ _ _ xs ys _ (R0.out.below A6.out) (R1.out.below A6.out) (by omega) (by omega) cv HC.out).mono ?_
      rintro e w7 ⟨rfl, b7⟩
      have S7 : Hid (RowAt w7 so 0 sc []) := S6.out.below b7
      have A7 : Hid (Below w.heap.size w w7) := chain A6.out b7
      clear b7 A6
      clear S6
      go_wp2_with fail
      refine (rcmp_val _ _ _ _ _ _ xs ys _ (R0.out.below A7.out) (R1.out.below A7.out) (by omega) (by omega) cv HC.out).mono ?_
      rintro e w8 ⟨rfl, b8⟩
      have S8 : Hid (RowAt w8 so 0 sc []) := S7.out.below b8
      have A8 : Hid (Below w.heap.size w w8) := chain A7.out b8
      clear b8 A7
      clear S7
      go_wp2_with fail
      refine (bits_any _ _ _ xs _ (R0.out.below A8.out) (by omega) bv HBV.out).mono ?_
      rintro e w9 ⟨rfl, b9⟩
      have S9 : Hid (RowAt w9 so 0 sc []) := S8.out.below b9
      have A9 : Hid (Below w.heap.size w w9) := chain A8.out b9
      clear b9 A8
      clear S8
      go_wp2_with fail
      refine (rbits_any _ _ _ xs _ (R0.out.below A9.out) (by omega) bv HBV.out).mono ?_
      rintro e w10 ⟨rfl, b10⟩
      have S10 : Hid (RowAt w10 so 0 sc []) := S9.out.below b10
      have A10 : Hid (Below w.heap.size w w10) := chain A9.out b10
      clear b10 A9
      clear S9
      go_wp2_with fail
      refine (add_any _ _ _ _ _ _ xs ys _ (R0.out.below A10.out) (R1.out.below A10.out) (by omega) (by omega)).mono ?_
      rintro e w11 ⟨fo, fm, fc, f, rfl, hf, nf, mf, b11⟩
      have Nf : Hid _ := nf
      clear nf
      have S11 : Hid (RowAt w11 so 0 sc []) := S10.out.below b11
      have A11 : Hid (Below w.heap.size w w11) := chain A10.out b11
      have Xf11 : Hid (RowAt w11 fo fm fc f) := hf
      clear b11 A10 hf
      clear S10
      go_wp2_with fail
      refine (radd_any _ _ _ _ _ _ xs ys _ (R0.out.below A11.out) (R1.out.below A11.out) (by omega) (by omega)).mono ?_
      rintro e w12 ⟨go, gm, gc, g, rfl, hg, ng, b12⟩
      have Ng : Hid _ := ng
      clear ng
      have S12 : Hid (RowAt w12 so 0 sc []) := S11.out.below b12
      have A12 : Hid (Below w.heap.size w w12) := chain A11.out b12
      have Xf12 : Hid (RowAt w12 fo fm fc f) := Xf11.out.below b12
      have Xg12 : Hid (RowAt w12 go gm gc g) := hg
      clear b12 A11 Xf11 hg
      clear S11
      go_wp2_with fail
      refine (same_yes _ _ _ _ _ _ f g _ Xf12.out Xg12.out (Nf.out.one Ng.out)).mono ?_
      rintro e w13 ⟨rfl, b13⟩
      have S13 : Hid (RowAt w13 so 0 sc []) := S12.out.below b13
      have A13 : Hid (Below w.heap.size w w13) := chain A12.out b13
      have Xf13 : Hid (RowAt w13 fo fm fc f) := Xf12.out.below b13
      have Xg13 : Hid (RowAt w13 go gm gc g) := Xg12.out.below b13
      clear b13 A12 Xf12 Xg12
      clear S12
      clear Xf13
      clear Xg13
      go_wp2_with fail
      refine (same_yes _ _ _ _ _ _ [] [] _ S13.out (RowAt.nil _) rfl).mono ?_
      rintro e w14 ⟨rfl, b14⟩
      clear S13
      have A14 : Hid (Below w.heap.size w w14) := chain A13.out b14
      clear b14 A13
      go_wp2_with fail
      refine (mul_any _ _ _ _ _ _ xs ys _ (R0.out.below A14.out) (R1.out.below A14.out) (by omega) (by omega)).mono ?_
      rintro e w15 ⟨ko, km, kc, k, rfl, hk, nk, mk, b15⟩
      have Nk : Hid _ := nk
      clear nk
      have A15 : Hid (Below w.heap.size w w15) := chain A14.out b15
      have Xk15 : Hid (RowAt w15 ko km kc k) := hk
      clear b15 A14 hk
      go_wp2_with fail
      refine (rmul_any _ _ _ _ _ _ xs ys _ (R0.out.below A15.out) (R1.out.below A15.out) (by omega) (by omega)).mono ?_
      rintro e w16 ⟨lo, lm, lc, l, rfl, hl, nl, b16⟩
      have Nl : Hid _ := nl
      clear nl
      have A16 : Hid (Below w.heap.size w w16) := chain A15.out b16
      have Xk16 : Hid (RowAt w16 ko km kc k) := Xk15.out.below b16
      have Xl16 : Hid (RowAt w16 lo lm lc l) := hl
      clear b16 A15 Xk15 hl
      go_wp2_with fail
      refine (same_yes _ _ _ _ _ _ k l _ Xk16.out Xl16.out (Nk.out.one Nl.out)).mono ?_
      rintro e w17 ⟨rfl, b17⟩
      have A17 : Hid (Below w.heap.size w w17) := chain A16.out b17
      have Xk17 : Hid (RowAt w17 ko km kc k) := Xk16.out.below b17
      have Xl17 : Hid (RowAt w17 lo lm lc l) := Xl16.out.below b17
      clear b17 A16 Xk16 Xl16
      go_wp2
      go_ret
      exact ⟨rfl, A17.out⟩
    · have HV : Hid (val ys ≤ val xs) := hle
      clear hle
      go_enter Try.func3, Try.ntmps3
      go_wp2_with fail
      refine (heavy_no _ _ _ _ _ _ _ k0 k1).mono ?_
      rintro e w' ⟨rfl, rfl⟩
      go_wp2_with fail
      refine (shown_any _).mono ?_
      rintro e w1 ⟨rfl, b1⟩
      have A1 : Hid (Below w.heap.size w w1) := b1
      clear b1
      go_wp2_with fail
      refine (sub_ok _ _ _ _ _ _ xs ys _ (R0.out.below A1.out) (R1.out.below A1.out) (by omega) (by omega) HV.out).mono ?_
      rintro e w2 ⟨so, sm, sc, s, rfl, hs, ns, ms, b2⟩
      have Ns : Hid _ := ns
      clear ns
      have A2 : Hid (Below w.heap.size w w2) := chain A1.out b2
      have Xs2 : Hid (RowAt w2 so sm sc s) := hs
      clear b2 A1 hs
      go_wp2_with fail
      refine (rsub_ok _ _ _ _ _ _ xs ys _ (R0.out.below A2.out) (R1.out.below A2.out) (by omega) (by omega) HV.out).mono ?_
      rintro e w3 ⟨to, tm, tc, t, rfl, ht, nt, b3⟩
      have Nt : Hid _ := nt
      clear nt
      have A3 : Hid (Below w.heap.size w w3) := chain A2.out b3
      have Xs3 : Hid (RowAt w3 so sm sc s) := Xs2.out.below b3
      have Xt3 : Hid (RowAt w3 to tm tc t) := ht
      clear b3 A2 Xs2 ht
      go_wp2_with fail
      refine (trim_any _ _ _ xs _ (R0.out.below A3.out) (by omega)).mono ?_
      rintro e w4 ⟨po, pm, pc, p, rfl, hp, np, mp, b4⟩
      have Np : Hid _ := np
      clear np
      have A4 : Hid (Below w.heap.size w w4) := chain A3.out b4
      have Xs4 : Hid (RowAt w4 so sm sc s) := Xs3.out.below b4
      have Xt4 : Hid (RowAt w4 to tm tc t) := Xt3.out.below b4
      have Xp4 : Hid (RowAt w4 po pm pc p) := hp
      clear b4 A3 Xs3 Xt3 hp
      go_wp2_with fail
      refine (rtrim_any _ _ _ xs _ (R0.out.below A4.out) (by omega)).mono ?_
      rintro e w5 ⟨qo, qm, qc, q, rfl, hq, nq, mq, b5⟩
      have Nq : Hid _ := nq
      clear nq
      have A5 : Hid (Below w.heap.size w w5) := chain A4.out b5
      have Xs5 : Hid (RowAt w5 so sm sc s) := Xs4.out.below b5
      have Xt5 : Hid (RowAt w5 to tm tc t) := Xt4.out.below b5
      have Xp5 : Hid (RowAt w5 po pm pc p) := Xp4.out.below b5
      have Xq5 : Hid (RowAt w5 qo qm qc q) := hq
      clear b5 A4 Xs4 Xt4 Xp4 hq
      go_wp2_with fail
      refine (same_yes _ _ _ _ _ _ p q _ Xp5.out Xq5.out (Np.out.one Nq.out)).mono ?_
      rintro e w6 ⟨rfl, b6⟩
      have A6 : Hid (Below w.heap.size w w6) := chain A5.out b6
      have Xs6 : Hid (RowAt w6 so sm sc s) := Xs5.out.below b6
      have Xt6 : Hid (RowAt w6 to tm tc t) := Xt5.out.below b6
      have Xp6 : Hid (RowAt w6 po pm pc p) := Xp5.out.below b6
      have Xq6 : Hid (RowAt w6 qo qm qc q) := Xq5.out.below b6
      clear b6 A5 Xs5 Xt5 Xp5 Xq5
      clear Xp6
      clear Xq6
      go_wp2_with fail
      refine (cmp_val _ _ _ _ _ _ xs ys _ (R0.out.below A6.out) (R1.out.below A6.out) (by omega) (by omega) cv HC.out).mono ?_
      rintro e w7 ⟨rfl, b7⟩
      have A7 : Hid (Below w.heap.size w w7) := chain A6.out b7
      have Xs7 : Hid (RowAt w7 so sm sc s) := Xs6.out.below b7
      have Xt7 : Hid (RowAt w7 to tm tc t) := Xt6.out.below b7
      clear b7 A6 Xs6 Xt6
      go_wp2_with fail
      refine (rcmp_val _ _ _ _ _ _ xs ys _ (R0.out.below A7.out) (R1.out.below A7.out) (by omega) (by omega) cv HC.out).mono ?_
      rintro e w8 ⟨rfl, b8⟩
      have A8 : Hid (Below w.heap.size w w8) := chain A7.out b8
      have Xs8 : Hid (RowAt w8 so sm sc s) := Xs7.out.below b8
      have Xt8 : Hid (RowAt w8 to tm tc t) := Xt7.out.below b8
      clear b8 A7 Xs7 Xt7
      go_wp2_with fail
      refine (bits_any _ _ _ xs _ (R0.out.below A8.out) (by omega) bv HBV.out).mono ?_
      rintro e w9 ⟨rfl, b9⟩
      have A9 : Hid (Below w.heap.size w w9) := chain A8.out b9
      have Xs9 : Hid (RowAt w9 so sm sc s) := Xs8.out.below b9
      have Xt9 : Hid (RowAt w9 to tm tc t) := Xt8.out.below b9
      clear b9 A8 Xs8 Xt8
      go_wp2_with fail
      refine (rbits_any _ _ _ xs _ (R0.out.below A9.out) (by omega) bv HBV.out).mono ?_
      rintro e w10 ⟨rfl, b10⟩
      have A10 : Hid (Below w.heap.size w w10) := chain A9.out b10
      have Xs10 : Hid (RowAt w10 so sm sc s) := Xs9.out.below b10
      have Xt10 : Hid (RowAt w10 to tm tc t) := Xt9.out.below b10
      clear b10 A9 Xs9 Xt9
      go_wp2_with fail
      refine (add_any _ _ _ _ _ _ xs ys _ (R0.out.below A10.out) (R1.out.below A10.out) (by omega) (by omega)).mono ?_
      rintro e w11 ⟨fo, fm, fc, f, rfl, hf, nf, mf, b11⟩
      have Nf : Hid _ := nf
      clear nf
      have A11 : Hid (Below w.heap.size w w11) := chain A10.out b11
      have Xs11 : Hid (RowAt w11 so sm sc s) := Xs10.out.below b11
      have Xt11 : Hid (RowAt w11 to tm tc t) := Xt10.out.below b11
      have Xf11 : Hid (RowAt w11 fo fm fc f) := hf
      clear b11 A10 Xs10 Xt10 hf
      go_wp2_with fail
      refine (radd_any _ _ _ _ _ _ xs ys _ (R0.out.below A11.out) (R1.out.below A11.out) (by omega) (by omega)).mono ?_
      rintro e w12 ⟨go, gm, gc, g, rfl, hg, ng, b12⟩
      have Ng : Hid _ := ng
      clear ng
      have A12 : Hid (Below w.heap.size w w12) := chain A11.out b12
      have Xs12 : Hid (RowAt w12 so sm sc s) := Xs11.out.below b12
      have Xt12 : Hid (RowAt w12 to tm tc t) := Xt11.out.below b12
      have Xf12 : Hid (RowAt w12 fo fm fc f) := Xf11.out.below b12
      have Xg12 : Hid (RowAt w12 go gm gc g) := hg
      clear b12 A11 Xs11 Xt11 Xf11 hg
      go_wp2_with fail
      refine (same_yes _ _ _ _ _ _ f g _ Xf12.out Xg12.out (Nf.out.one Ng.out)).mono ?_
      rintro e w13 ⟨rfl, b13⟩
      have A13 : Hid (Below w.heap.size w w13) := chain A12.out b13
      have Xs13 : Hid (RowAt w13 so sm sc s) := Xs12.out.below b13
      have Xt13 : Hid (RowAt w13 to tm tc t) := Xt12.out.below b13
      have Xf13 : Hid (RowAt w13 fo fm fc f) := Xf12.out.below b13
      have Xg13 : Hid (RowAt w13 go gm gc g) := Xg12.out.below b13
      clear b13 A12 Xs12 Xt12 Xf12 Xg12
      clear Xf13
      clear Xg13
      go_wp2_with fail
      refine (same_yes _ _ _ _ _ _ s t _ Xs13.out Xt13.out (Ns.out.one Nt.out)).mono ?_
      rintro e w14 ⟨rfl, b14⟩
      have A14 : Hid (Below w.heap.size w w14) := chain A13.out b14
      have Xs14 : Hid (RowAt w14 so sm sc s) := Xs13.out.below b14
      have Xt14 : Hid (RowAt w14 to tm tc t) := Xt13.out.below b14
      clear b14 A13 Xs13 Xt13
      clear Xs14
      clear Xt14
      go_wp2_with fail
      refine (mul_any _ _ _ _ _ _ xs ys _ (R0.out.below A14.out) (R1.out.below A14.out) (by omega) (by omega)).mono ?_
      rintro e w15 ⟨ko, km, kc, k, rfl, hk, nk, mk, b15⟩
      have Nk : Hid _ := nk
      clear nk
      have A15 : Hid (Below w.heap.size w w15) := chain A14.out b15
      have Xk15 : Hid (RowAt w15 ko km kc k) := hk
      clear b15 A14 hk
      go_wp2_with fail
      refine (rmul_any _ _ _ _ _ _ xs ys _ (R0.out.below A15.out) (R1.out.below A15.out) (by omega) (by omega)).mono ?_
      rintro e w16 ⟨lo, lm, lc, l, rfl, hl, nl, b16⟩
      have Nl : Hid _ := nl
      clear nl
      have A16 : Hid (Below w.heap.size w w16) := chain A15.out b16
      have Xk16 : Hid (RowAt w16 ko km kc k) := Xk15.out.below b16
      have Xl16 : Hid (RowAt w16 lo lm lc l) := hl
      clear b16 A15 Xk15 hl
      go_wp2_with fail
      refine (same_yes _ _ _ _ _ _ k l _ Xk16.out Xl16.out (Nk.out.one Nl.out)).mono ?_
      rintro e w17 ⟨rfl, b17⟩
      have A17 : Hid (Below w.heap.size w w17) := chain A16.out b17
      have Xk17 : Hid (RowAt w17 ko km kc k) := Xk16.out.below b17
      have Xl17 : Hid (RowAt w17 lo lm lc l) := Xl16.out.below b17
      clear b17 A16 Xk16 Xl16
      go_wp2
      go_ret
      exact ⟨rfl, A17.out⟩

set_option maxRecDepth 100000 in
theorem lifted (os : Os) (started : os.Started) (H : Type) (enc : TypeId × Value → H) :
    ReturnsInHanded {} Try.checked os 3 .any (Rows.limbTellsSpec.pre6 enc Try.prog Try.f3 Rows.limbTellsRow.domain false) (Rows.limbTellsSpec.post enc Try.prog Try.f3 false true false false) := by
  refine returnsInHanded_of_change (C := Try.checked) own started (by kernel_rfl) Try.func3
    (ChangeSpec.witness6 (enc := enc) (C := Try.checked) false ⟨#[], #[.slice none 0 0, .slice none 0 0], []⟩ 8 (by kernel_rfl) (by kernel_rfl) (by kernel_rfl) (by kernel_rfl)) ?_
  intro W base args ds gs before hval0 hW hcnd _
  have hval : ∀ (j : Nat) t v, Try.f3.params[j]? = some t → args[j]? = some v → Value.okWide Try.prog W .any base t v := hval0
  have hW' := hW
  obtain ⟨p, q, hA0, hV, rfl, hfz, hnd⟩ := hW
  have hA : DataW.TrodAll enc Try.prog W 0 (fun _ => true) true Try.f3.params.toList args.toList ds p := hA0
  rw [Try.params3] at hA hval
  obtain ⟨v0, vs0, d0, ds0, p0, q0, hargs, rfl, rfl, h0, r0⟩ := trodAll_cons hA
  obtain ⟨v1, vs1, d1, ds1, p1, q1, rfl, rfl, rfl, h1, r1⟩ := trodAll_cons r0
  obtain ⟨rfl, rfl, rfl⟩ := trodAll_nil r1
  obtain rfl : args = #[v0, v1] := by cases args; simp_all
  obtain ⟨rfl, rfl⟩ := trodVars_none hV
  obtain ⟨a0, len0, cap0, rfl⟩ := okWide_slice Try.underlying22 (hval 0 22 v0 rfl rfl)
  have k0 := h0
  have lt0 : ∀ x ∈ p0, x.block < W.heap.size := by obtain ⟨m, hm⟩ := k0; exact DataW.trod_lt m _ _ _ hm
  obtain ⟨z0, w0⟩ : ∃ zs, IsRow .u64 W a0 len0 cap0 zs := by
    obtain ⟨fuel, hf⟩ := h0
    rcases open_ints Try.underlying22 Try.underlying36 (by kernel_rfl) hf with ⟨hcs, _⟩ | ⟨x, l, c, zs, hcs, _, hl, hm, hz, _, hcell, hwz⟩
    · simp [Value.cells] at hcs
      obtain ⟨rfl, rfl, rfl⟩ := hcs
      exact ⟨[], .inl ⟨rfl, rfl, rfl, rfl⟩⟩
    · simp [Value.cells] at hcs
      obtain ⟨rfl, rfl, rfl⟩ := hcs
      exact ⟨zs, .inr ⟨_, rfl, hl, hm, by simpa using hz, hcell, hwz⟩⟩
  obtain ⟨a1, len1, cap1, rfl⟩ := okWide_slice Try.underlying22 (hval 1 22 v1 rfl rfl)
  have k1 := h1
  have lt1 : ∀ x ∈ p1, x.block < W.heap.size := by obtain ⟨m, hm⟩ := k1; exact DataW.trod_lt m _ _ _ hm
  obtain ⟨z1, w1⟩ : ∃ zs, IsRow .u64 W a1 len1 cap1 zs := by
    obtain ⟨fuel, hf⟩ := h1
    rcases open_ints Try.underlying22 Try.underlying36 (by kernel_rfl) hf with ⟨hcs, _⟩ | ⟨x, l, c, zs, hcs, _, hl, hm, hz, _, hcell, hwz⟩
    · simp [Value.cells] at hcs
      obtain ⟨rfl, rfl, rfl⟩ := hcs
      exact ⟨[], .inl ⟨rfl, rfl, rfl, rfl⟩⟩
    · simp [Value.cells] at hcs
      obtain ⟨rfl, rfl, rfl⟩ := hcs
      exact ⟨zs, .inr ⟨_, rfl, hl, hm, by simpa using hz, hcell, hwz⟩⟩
  clear hA0 hval0
  refine (walk a0 len0 cap0 z0 a1 len1 cap1 z1 W w0 w1).mono fun e W' ⟨he, bel⟩ => ?_
  subst he
  exact ⟨_, rfl, _, _, _, [], _, [], hW', trodAll_mk1 (shut_bool Try.underlying4 _), (trodAll_cons_mk (Below.trod laidOut (by kernel_rfl) (of_decide_eq_true (by kernel_rfl)) k0 bel lt0) (trodAll_cons_mk (Below.trod laidOut (by kernel_rfl) (of_decide_eq_true (by kernel_rfl)) k1 bel lt1) trodAll_mk0)), rfl, bel.frame _, fun h => by cases h⟩

theorem over : Rows.limbTellsRow.holds Try.pinned (OpenSpec.ofChange Rows.limbTellsSpec) :=
  OpenClaim.holds_of_wide 3 Try.f3 rfl rfl rfl rfl rfl rfl rfl ⟨rfl, rfl, rfl, rfl, rfl⟩ rfl rfl rfl rfl rfl (by kernel_rfl) Try.func3 (by kernel_rfl)
    (of_decide_eq_true (by kernel_rfl)) (by unfold Func.isWrapper; first | (rw [if_pos (by decide +kernel)]; kernel_rfl) | (rw [if_neg (by decide +kernel)]; exact ⟨rfl, rfl⟩))
    (fun os started H enc _ => lifted os started H enc)

theorem proved : Rows.LimbTellsSaid := over
#print axioms proved
end Go.Proofs.Ytkphaoooeejohaa.limbTells
