/-
  Proved here: for every input LimbOrder returns true, and leaves its arguments as they were. No condition.
-/
import Derived.Test.YtkphaoooeejohaaCame
import Derived.Test.YtkphaoooeejohaaRTrim
import Derived.Test.YtkphaoooeejohaaCmp
namespace Go.Proofs.Ytkphaoooeejohaa.limbOrder
open Go.ChangeShapes Go.WideShapes Go.ChangeAt Go.RowKit
open Go.ChangeMaps (open_string shut_string)
set_option linter.unusedVariables false

set_option maxHeartbeats 2000000 in
theorem walk (a0 : Option Addr) (len0 cap0 : Nat) (z0 : List Int) (a1 : Option Addr) (len1 cap1 : Nat) (z1 : List Int) (a2 : Option Addr) (len2 cap2 : Nat) (z2 : List Int) (w : World) (w0 : IsRow .u64 w a0 len0 cap0 z0) (w1 : IsRow .u64 w a1 len1 cap1 z1) (w2 : IsRow .u64 w a2 len2 cap2 z2) :
    Calls Try.prog 7 #[.slice a0 len0 cap0, .slice a1 len1 cap1, .slice a2 len2 cap2] w fun e w' => e = .returned (.bool true) ∧ Below w.heap.size w w' := by
  have r0 := w0.row
  have r1 := w1.row
  have r2 := w2.row
  generalize z0.take len0 = xs at r0
  generalize z1.take len1 = ys at r1
  generalize z2.take len2 = zs at r2
  have m0 : len0 ≤ maxLen := Nat.le_trans r0.fits r0.most
  have m1 : len1 ≤ maxLen := Nat.le_trans r1.fits r1.most
  have m2 : len2 ≤ maxLen := Nat.le_trans r2.fits r2.most
  clear w0 w1 w2
  have R0 : Hid (RowAt w a0 len0 cap0 xs) := r0
  have R1 : Hid (RowAt w a1 len1 cap1 ys) := r1
  have R2 : Hid (RowAt w a2 len2 cap2 zs) := r2
  clear r0 r1 r2
  by_cases h1 : 30 < len0 ∨ 30 < len1
  · clear R0 R1 R2
    go_enter Try.func7, Try.ntmps7
    go_wp2_with fail
    refine (heavy_yes _ _ _ _ _ _ _ m0 m1 h1).mono ?_
    rintro e w' ⟨rfl, rfl⟩
    go_wp2_with fail
    refine (shown_any _).mono ?_
    rintro e w2 ⟨rfl, hb⟩
    go_wp2
    go_ret
    exact ⟨rfl, hb⟩
  · by_cases h2 : 30 < len2
    · clear R0 R1 R2
      go_enter Try.func7, Try.ntmps7
      go_wp2_with fail
      refine (heavy_no _ _ _ _ _ _ _ (by omega) (by omega)).mono ?_
      rintro e w' ⟨rfl, rfl⟩
      go_wp2_with fail
      refine (heavy_yes _ _ _ _ _ _ _ m2 m2 (Or.inl h2)).mono ?_
      rintro e w' ⟨rfl, rfl⟩
      go_wp2_with fail
      refine (shown_any _).mono ?_
      rintro e w2 ⟨rfl, hb⟩
      go_wp2
      go_ret
      exact ⟨rfl, hb⟩
    · have k0 : len0 ≤ 30 := by omega
      have k1 : len1 ≤ 30 := by omega
      have k2 : len2 ≤ 30 := by omega
      clear h1 h2 m0 m1 m2
      rcases Int.lt_trichotomy (val xs) (val ys) with hlt | heq | hgt
      · have HV : Hid (val xs < val ys) := hlt
        clear hlt
        go_enter Try.func7, Try.ntmps7
        go_wp2_with fail
        refine (heavy_no _ _ _ _ _ _ _ k0 k1).mono ?_
        rintro e w' ⟨rfl, rfl⟩
        go_wp2_with fail
        refine (heavy_no _ _ _ _ _ _ _ k2 k2).mono ?_
        rintro e w' ⟨rfl, rfl⟩
        go_wp2_with fail
        refine (shown_any _).mono ?_
        rintro e w1 ⟨rfl, b1⟩
        have A1 : Hid (Below w.heap.size w w1) := b1
        clear b1
        go_wp2_with fail
        refine (cmp_lt _ _ _ _ _ _ xs ys _ (R0.out.below A1.out) (R1.out.below A1.out) (by omega) (by omega) HV.out).mono ?_
        rintro e w2 ⟨rfl, b2⟩
        have A2 : Hid (Below w.heap.size w w2) := chain A1.out b2
        clear b2 A1
        go_wp2_with fail
        refine (cmp_gt _ _ _ _ _ _ ys xs _ (R1.out.below A2.out) (R0.out.below A2.out) (by omega) (by omega) HV.out).mono ?_
        rintro e w3 ⟨rfl, b3⟩
        have A3 : Hid (Below w.heap.size w w3) := chain A2.out b3
        clear b3 A2
        go_wp2_with fail
        refine (rtrim_any _ _ _ xs _ (R0.out.below A3.out) (by omega)).mono ?_
        rintro e w4 ⟨po, pm, pc, p, rfl, hp, np, mp, b4⟩
        have Np : Hid _ := np
        clear np
        have A4 : Hid (Below w.heap.size w w4) := chain A3.out b4
        have Xp4 : Hid (RowAt w4 po pm pc p) := hp
        clear b4 A3 hp
        go_wp2_with fail
        refine (rtrim_any _ _ _ ys _ (R1.out.below A4.out) (by omega)).mono ?_
        rintro e w5 ⟨qo, qm, qc, q, rfl, hq, nq, mq, b5⟩
        have Nq : Hid _ := nq
        clear nq
        have A5 : Hid (Below w.heap.size w w5) := chain A4.out b5
        have Xp5 : Hid (RowAt w5 po pm pc p) := Xp4.out.below b5
        have Xq5 : Hid (RowAt w5 qo qm qc q) := hq
        clear b5 A4 Xp4 hq
        go_wp2_with fail
        refine (same_no _ _ _ _ _ _ p q _ Xp5.out Xq5.out (fun e => by have h1 := Np.out.val; have h2 := Nq.out.val; have h3 := HV.out; rw [e] at h1; omega)).mono ?_
        rintro e w6 ⟨rfl, b6⟩
        have A6 : Hid (Below w.heap.size w w6) := chain A5.out b6
        have Xp6 : Hid (RowAt w6 po pm pc p) := Xp5.out.below b6
        have Xq6 : Hid (RowAt w6 qo qm qc q) := Xq5.out.below b6
        clear b6 A5 Xp5 Xq5
        clear Xp6
        clear Xq6
        go_wp2_with fail
        refine (add_any _ _ _ _ _ _ xs zs _ (R0.out.below A6.out) (R2.out.below A6.out) (by omega) (by omega)).mono ?_
        rintro e w7 ⟨uo, um, uc, u, rfl, hu, nu, mu, b7⟩
        have Nu : Hid _ := nu
        clear nu
        have A7 : Hid (Below w.heap.size w w7) := chain A6.out b7
        have Xu7 : Hid (RowAt w7 uo um uc u) := hu
        clear b7 A6 hu
        go_wp2_with fail
        refine (add_any _ _ _ _ _ _ ys zs _ (R1.out.below A7.out) (R2.out.below A7.out) (by omega) (by omega)).mono ?_
        rintro e w8 ⟨vo, vm, vc, v, rfl, hv, nv, mv, b8⟩
        have Nv : Hid _ := nv
        clear nv
        have A8 : Hid (Below w.heap.size w w8) := chain A7.out b8
        have Xu8 : Hid (RowAt w8 uo um uc u) := Xu7.out.below b8
        have Xv8 : Hid (RowAt w8 vo vm vc v) := hv
        clear b8 A7 Xu7 hv
        go_wp2_with fail
        refine (cmp_lt _ _ _ _ _ _ u v _ Xu8.out Xv8.out (by omega) (by omega) (by rw [Nu.out.val, Nv.out.val]; have := HV.out; omega)).mono ?_
        rintro e w9 ⟨rfl, b9⟩
        have A9 : Hid (Below w.heap.size w w9) := chain A8.out b9
        have Xu9 : Hid (RowAt w9 uo um uc u) := Xu8.out.below b9
        have Xv9 : Hid (RowAt w9 vo vm vc v) := Xv8.out.below b9
        clear b9 A8 Xu8 Xv8
        clear Xu9
        clear Xv9
        go_wp2_with fail
        refine (cmp_lt _ _ _ _ _ _ xs ys _ (R0.out.below A9.out) (R1.out.below A9.out) (by omega) (by omega) HV.out).mono ?_
        rintro e w10 ⟨rfl, b10⟩
        have A10 : Hid (Below w.heap.size w w10) := chain A9.out b10
        clear b10 A9
        rcases Int.lt_trichotomy (val ys) (val zs) with hl | he | hg
        · have HW : Hid (val ys < val zs) := hl
          clear hl
          go_wp2_with fail
          refine (cmp_lt _ _ _ _ _ _ ys zs _ (R1.out.below A10.out) (R2.out.below A10.out) (by omega) (by omega) HW.out).mono ?_
          rintro e w11 ⟨rfl, b11⟩
          have A11 : Hid (Below w.heap.size w w11) := chain A10.out b11
          clear b11 A10
          go_wp2_with fail
          refine (cmp_lt _ _ _ _ _ _ xs zs _ (R0.out.below A11.out) (R2.out.below A11.out) (by omega) (by omega) (by have h1 := HV.out; have h2 := HW.out; omega)).mono ?_
          rintro e w12 ⟨rfl, b12⟩
          have A12 : Hid (Below w.heap.size w w12) := chain A11.out b12
          clear b12 A11
          go_wp2
          go_ret
          exact ⟨rfl, A12.out⟩
        · have HW : Hid (val ys = val zs) := he
          clear he
          go_wp2_with fail
          refine (cmp_eq _ _ _ _ _ _ ys zs _ (R1.out.below A10.out) (R2.out.below A10.out) (by omega) (by omega) HW.out).mono ?_
          rintro e w11 ⟨rfl, b11⟩
          have A11 : Hid (Below w.heap.size w w11) := chain A10.out b11
          clear b11 A10
          go_wp2_with fail
          refine (cmp_lt _ _ _ _ _ _ xs zs _ (R0.out.below A11.out) (R2.out.below A11.out) (by omega) (by omega) (by have h1 := HV.out; have h2 := HW.out; omega)).mono ?_
          rintro e w12 ⟨rfl, b12⟩
          have A12 : Hid (Below w.heap.size w w12) := chain A11.out b12
          clear b12 A11
          go_wp2
          go_ret
          exact ⟨rfl, A12.out⟩
        · have HW : Hid (val zs < val ys) := hg
          clear hg
          go_wp2_with fail
          refine (cmp_gt _ _ _ _ _ _ ys zs _ (R1.out.below A10.out) (R2.out.below A10.out) (by omega) (by omega) HW.out).mono ?_
          rintro e w11 ⟨rfl, b11⟩
          have A11 : Hid (Below w.heap.size w w11) := chain A10.out b11
          clear b11 A10
          go_wp2
          go_ret
          exact ⟨rfl, A11.out⟩
      · have HV : Hid (val xs = val ys) := heq
        clear heq
        go_enter Try.func7, Try.ntmps7
        go_wp2_with fail
        refine (heavy_no _ _ _ _ _ _ _ k0 k1).mono ?_
        rintro e w' ⟨rfl, rfl⟩
        go_wp2_with fail
        refine (heavy_no _ _ _ _ _ _ _ k2 k2).mono ?_
        rintro e w' ⟨rfl, rfl⟩
        go_wp2_with fail
        refine (shown_any _).mono ?_
        rintro e w1 ⟨rfl, b1⟩
        have A1 : Hid (Below w.heap.size w w1) := b1
        clear b1
        go_wp2_with fail
        refine (cmp_eq _ _ _ _ _ _ xs ys _ (R0.out.below A1.out) (R1.out.below A1.out) (by omega) (by omega) HV.out).mono ?_
        rintro e w2 ⟨rfl, b2⟩
        have A2 : Hid (Below w.heap.size w w2) := chain A1.out b2
        clear b2 A1
        go_wp2_with fail
        refine (cmp_eq _ _ _ _ _ _ ys xs _ (R1.out.below A2.out) (R0.out.below A2.out) (by omega) (by omega) HV.out.symm).mono ?_
        rintro e w3 ⟨rfl, b3⟩
        have A3 : Hid (Below w.heap.size w w3) := chain A2.out b3
        clear b3 A2
        go_wp2_with fail
        refine (rtrim_any _ _ _ xs _ (R0.out.below A3.out) (by omega)).mono ?_
        rintro e w4 ⟨po, pm, pc, p, rfl, hp, np, mp, b4⟩
        have Np : Hid _ := np
        clear np
        have A4 : Hid (Below w.heap.size w w4) := chain A3.out b4
        have Xp4 : Hid (RowAt w4 po pm pc p) := hp
        clear b4 A3 hp
        go_wp2_with fail
        refine (rtrim_any _ _ _ ys _ (R1.out.below A4.out) (by omega)).mono ?_
        rintro e w5 ⟨qo, qm, qc, q, rfl, hq, nq, mq, b5⟩
        have Nq : Hid _ := nq
        clear nq
        have A5 : Hid (Below w.heap.size w w5) := chain A4.out b5
        have Xp5 : Hid (RowAt w5 po pm pc p) := Xp4.out.below b5
        have Xq5 : Hid (RowAt w5 qo qm qc q) := hq
        clear b5 A4 Xp4 hq
        go_wp2_with fail
        refine (same_yes _ _ _ _ _ _ p q _ Xp5.out Xq5.out (Np.out.one (by rw [HV.out]; exact Nq.out))).mono ?_
        rintro e w6 ⟨rfl, b6⟩
        have A6 : Hid (Below w.heap.size w w6) := chain A5.out b6
        have Xp6 : Hid (RowAt w6 po pm pc p) := Xp5.out.below b6
        have Xq6 : Hid (RowAt w6 qo qm qc q) := Xq5.out.below b6
        clear b6 A5 Xp5 Xq5
        clear Xp6
        clear Xq6
        go_wp2_with fail
        refine (add_any _ _ _ _ _ _ xs zs _ (R0.out.below A6.out) (R2.out.below A6.out) (by omega) (by omega)).mono ?_
        rintro e w7 ⟨uo, um, uc, u, rfl, hu, nu, mu, b7⟩
        have Nu : Hid _ := nu
        clear nu
        have A7 : Hid (Below w.heap.size w w7) := chain A6.out b7
        have Xu7 : Hid (RowAt w7 uo um uc u) := hu
        clear b7 A6 hu
        go_wp2_with fail
        refine (add_any _ _ _ _ _ _ ys zs _ (R1.out.below A7.out) (R2.out.below A7.out) (by omega) (by omega)).mono ?_
        rintro e w8 ⟨vo, vm, vc, v, rfl, hv, nv, mv, b8⟩
        have Nv : Hid _ := nv
        clear nv
        have A8 : Hid (Below w.heap.size w w8) := chain A7.out b8
        have Xu8 : Hid (RowAt w8 uo um uc u) := Xu7.out.below b8
        have Xv8 : Hid (RowAt w8 vo vm vc v) := hv
        clear b8 A7 Xu7 hv
        go_wp2_with fail
        refine (cmp_eq _ _ _ _ _ _ u v _ Xu8.out Xv8.out (by omega) (by omega) (by rw [Nu.out.val, Nv.out.val]; have := HV.out; omega)).mono ?_
        rintro e w9 ⟨rfl, b9⟩
        have A9 : Hid (Below w.heap.size w w9) := chain A8.out b9
        have Xu9 : Hid (RowAt w9 uo um uc u) := Xu8.out.below b9
        have Xv9 : Hid (RowAt w9 vo vm vc v) := Xv8.out.below b9
        clear b9 A8 Xu8 Xv8
        clear Xu9
        clear Xv9
        go_wp2_with fail
        refine (cmp_eq _ _ _ _ _ _ xs ys _ (R0.out.below A9.out) (R1.out.below A9.out) (by omega) (by omega) HV.out).mono ?_
        rintro e w10 ⟨rfl, b10⟩
        have A10 : Hid (Below w.heap.size w w10) := chain A9.out b10
        clear b10 A9
        rcases Int.lt_trichotomy (val ys) (val zs) with hl | he | hg
        · have HW : Hid (val ys < val zs) := hl
          clear hl
          go_wp2_with fail
          refine (cmp_lt _ _ _ _ _ _ ys zs _ (R1.out.below A10.out) (R2.out.below A10.out) (by omega) (by omega) HW.out).mono ?_
          rintro e w11 ⟨rfl, b11⟩
          have A11 : Hid (Below w.heap.size w w11) := chain A10.out b11
          clear b11 A10
          go_wp2_with fail
          refine (cmp_lt _ _ _ _ _ _ xs zs _ (R0.out.below A11.out) (R2.out.below A11.out) (by omega) (by omega) (by have h1 := HV.out; have h2 := HW.out; omega)).mono ?_
          rintro e w12 ⟨rfl, b12⟩
          have A12 : Hid (Below w.heap.size w w12) := chain A11.out b12
          clear b12 A11
          go_wp2
          go_ret
          exact ⟨rfl, A12.out⟩
        · have HW : Hid (val ys = val zs) := he
          clear he
          go_wp2_with fail
          refine (cmp_eq _ _ _ _ _ _ ys zs _ (R1.out.below A10.out) (R2.out.below A10.out) (by omega) (by omega) HW.out).mono ?_
          rintro e w11 ⟨rfl, b11⟩
          have A11 : Hid (Below w.heap.size w w11) := chain A10.out b11
          clear b11 A10
          go_wp2_with fail
          refine (cmp_eq _ _ _ _ _ _ xs zs _ (R0.out.below A11.out) (R2.out.below A11.out) (by omega) (by omega) (by have h1 := HV.out; have h2 := HW.out; omega)).mono ?_
          rintro e w12 ⟨rfl, b12⟩
          have A12 : Hid (Below w.heap.size w w12) := chain A11.out b12
          clear b12 A11
          go_wp2
          go_ret
          exact ⟨rfl, A12.out⟩
        · have HW : Hid (val zs < val ys) := hg
          clear hg
          go_wp2_with fail
          refine (cmp_gt _ _ _ _ _ _ ys zs _ (R1.out.below A10.out) (R2.out.below A10.out) (by omega) (by omega) HW.out).mono ?_
          rintro e w11 ⟨rfl, b11⟩
          have A11 : Hid (Below w.heap.size w w11) := chain A10.out b11
          clear b11 A10
          go_wp2
          go_ret
          exact ⟨rfl, A11.out⟩
      · have HV : Hid (val ys < val xs) := hgt
        clear hgt
        go_enter Try.func7, Try.ntmps7
        go_wp2_with fail
        refine (heavy_no _ _ _ _ _ _ _ k0 k1).mono ?_
        rintro e w' ⟨rfl, rfl⟩
        go_wp2_with fail
        refine (heavy_no _ _ _ _ _ _ _ k2 k2).mono ?_
        rintro e w' ⟨rfl, rfl⟩
        go_wp2_with fail
        refine (shown_any _).mono ?_
        rintro e w1 ⟨rfl, b1⟩
        have A1 : Hid (Below w.heap.size w w1) := b1
        clear b1
        go_wp2_with fail
        refine (cmp_gt _ _ _ _ _ _ xs ys _ (R0.out.below A1.out) (R1.out.below A1.out) (by omega) (by omega) HV.out).mono ?_
        rintro e w2 ⟨rfl, b2⟩
        have A2 : Hid (Below w.heap.size w w2) := chain A1.out b2
        clear b2 A1
        go_wp2_with fail
        refine (cmp_lt _ _ _ _ _ _ ys xs _ (R1.out.below A2.out) (R0.out.below A2.out) (by omega) (by omega) HV.out).mono ?_
        rintro e w3 ⟨rfl, b3⟩
        have A3 : Hid (Below w.heap.size w w3) := chain A2.out b3
        clear b3 A2
        go_wp2_with fail
        refine (rtrim_any _ _ _ xs _ (R0.out.below A3.out) (by omega)).mono ?_
        rintro e w4 ⟨po, pm, pc, p, rfl, hp, np, mp, b4⟩
        have Np : Hid _ := np
        clear np
        have A4 : Hid (Below w.heap.size w w4) := chain A3.out b4
        have Xp4 : Hid (RowAt w4 po pm pc p) := hp
        clear b4 A3 hp
        go_wp2_with fail
        refine (rtrim_any _ _ _ ys _ (R1.out.below A4.out) (by omega)).mono ?_
        rintro e w5 ⟨qo, qm, qc, q, rfl, hq, nq, mq, b5⟩
        have Nq : Hid _ := nq
        clear nq
        have A5 : Hid (Below w.heap.size w w5) := chain A4.out b5
        have Xp5 : Hid (RowAt w5 po pm pc p) := Xp4.out.below b5
        have Xq5 : Hid (RowAt w5 qo qm qc q) := hq
        clear b5 A4 Xp4 hq
        go_wp2_with fail
        refine (same_no _ _ _ _ _ _ p q _ Xp5.out Xq5.out (fun e => by have h1 := Np.out.val; have h2 := Nq.out.val; have h3 := HV.out; rw [e] at h1; omega)).mono ?_
        rintro e w6 ⟨rfl, b6⟩
        have A6 : Hid (Below w.heap.size w w6) := chain A5.out b6
        have Xp6 : Hid (RowAt w6 po pm pc p) := Xp5.out.below b6
        have Xq6 : Hid (RowAt w6 qo qm qc q) := Xq5.out.below b6
        clear b6 A5 Xp5 Xq5
        clear Xp6
        clear Xq6
        go_wp2_with fail
        refine (add_any _ _ _ _ _ _ xs zs _ (R0.out.below A6.out) (R2.out.below A6.out) (by omega) (by omega)).mono ?_
        rintro e w7 ⟨uo, um, uc, u, rfl, hu, nu, mu, b7⟩
        have Nu : Hid _ := nu
        clear nu
        have A7 : Hid (Below w.heap.size w w7) := chain A6.out b7
        have Xu7 : Hid (RowAt w7 uo um uc u) := hu
        clear b7 A6 hu
        go_wp2_with fail
        refine (add_any _ _ _ _ _ _ ys zs _ (R1.out.below A7.out) (R2.out.below A7.out) (by omega) (by omega)).mono ?_
        rintro e w8 ⟨vo, vm, vc, v, rfl, hv, nv, mv, b8⟩
        have Nv : Hid _ := nv
        clear nv
        have A8 : Hid (Below w.heap.size w w8) := chain A7.out b8
        have Xu8 : Hid (RowAt w8 uo um uc u) := Xu7.out.below b8
        have Xv8 : Hid (RowAt w8 vo vm vc v) := hv
        clear b8 A7 Xu7 hv
        go_wp2_with fail
        refine (cmp_gt _ _ _ _ _ _ u v _ Xu8.out Xv8.out (by omega) (by omega) (by rw [Nu.out.val, Nv.out.val]; have := HV.out; omega)).mono ?_
        rintro e w9 ⟨rfl, b9⟩
        have A9 : Hid (Below w.heap.size w w9) := chain A8.out b9
        have Xu9 : Hid (RowAt w9 uo um uc u) := Xu8.out.below b9
        have Xv9 : Hid (RowAt w9 vo vm vc v) := Xv8.out.below b9
        clear b9 A8 Xu8 Xv8
        clear Xu9
        clear Xv9
        go_wp2_with fail
        refine (cmp_gt _ _ _ _ _ _ xs ys _ (R0.out.below A9.out) (R1.out.below A9.out) (by omega) (by omega) HV.out).mono ?_
        rintro e w10 ⟨rfl, b10⟩
        have A10 : Hid (Below w.heap.size w w10) := chain A9.out b10
        clear b10 A9
        go_wp2
        go_ret
        exact ⟨rfl, A10.out⟩

set_option maxRecDepth 100000 in
theorem lifted (os : Os) (started : os.Started) (H : Type) (enc : TypeId × Value → H) :
    ReturnsInHanded {} Try.checked os 7 .any (Rows.limbOrderSpec.pre6 enc Try.prog Try.f7 Rows.limbOrderRow.domain false) (Rows.limbOrderSpec.post enc Try.prog Try.f7 false true false false) := by
  refine returnsInHanded_of_change (C := Try.checked) own started (by kernel_rfl) Try.func7
    (ChangeSpec.witness6 (enc := enc) (C := Try.checked) false ⟨#[], #[.slice none 0 0, .slice none 0 0, .slice none 0 0], []⟩ 8 (by kernel_rfl) (by kernel_rfl) (by kernel_rfl) (by kernel_rfl)) ?_
  intro W base args ds gs before hval0 hW hcnd _
  have hval : ∀ (j : Nat) t v, Try.f7.params[j]? = some t → args[j]? = some v → Value.okWide Try.prog W .any base t v := hval0
  have hW' := hW
  obtain ⟨p, q, hA0, hV, rfl, hfz, hnd⟩ := hW
  have hA : DataW.TrodAll enc Try.prog W 0 (fun _ => true) true Try.f7.params.toList args.toList ds p := hA0
  rw [Try.params7] at hA hval
  obtain ⟨v0, vs0, d0, ds0, p0, q0, hargs, rfl, rfl, h0, r0⟩ := trodAll_cons hA
  obtain ⟨v1, vs1, d1, ds1, p1, q1, rfl, rfl, rfl, h1, r1⟩ := trodAll_cons r0
  obtain ⟨v2, vs2, d2, ds2, p2, q2, rfl, rfl, rfl, h2, r2⟩ := trodAll_cons r1
  obtain ⟨rfl, rfl, rfl⟩ := trodAll_nil r2
  obtain rfl : args = #[v0, v1, v2] := by cases args; simp_all
  obtain ⟨rfl, rfl⟩ := trodVars_none hV
  obtain ⟨a0, len0, cap0, rfl⟩ := okWide_slice Try.underlying22 (hval 0 22 v0 rfl rfl)
  have k0 := h0
  have lt0 : ∀ x ∈ p0, x.block < W.heap.size := by obtain ⟨m, hm⟩ := k0; exact DataW.trod_lt m _ _ _ hm
  obtain ⟨z0, w0⟩ : ∃ zs, IsRow .u64 W a0 len0 cap0 zs := by
    obtain ⟨fuel, hf⟩ := h0
    rcases open_ints Try.underlying22 Try.underlying36 (by kernel_rfl) hf with ⟨hcs, _⟩ | ⟨x, l, c, zs, hcs, _, hl, hm, hz, _, hcell, hwz⟩
    · simp [Value.cells] at hcs
      obtain ⟨rfl, rfl, rfl⟩ := hcs
      exact ⟨[], .inl ⟨rfl, rfl, rfl, rfl⟩⟩
    · simp [Value.cells] at hcs
      obtain ⟨rfl, rfl, rfl⟩ := hcs
      exact ⟨zs, .inr ⟨_, rfl, hl, hm, by simpa using hz, hcell, hwz⟩⟩
  obtain ⟨a1, len1, cap1, rfl⟩ := okWide_slice Try.underlying22 (hval 1 22 v1 rfl rfl)
  have k1 := h1
  have lt1 : ∀ x ∈ p1, x.block < W.heap.size := by obtain ⟨m, hm⟩ := k1; exact DataW.trod_lt m _ _ _ hm
  obtain ⟨z1, w1⟩ : ∃ zs, IsRow .u64 W a1 len1 cap1 zs := by
    obtain ⟨fuel, hf⟩ := h1
    rcases open_ints Try.underlying22 Try.underlying36 (by kernel_rfl) hf with ⟨hcs, _⟩ | ⟨x, l, c, zs, hcs, _, hl, hm, hz, _, hcell, hwz⟩
    · simp [Value.cells] at hcs
      obtain ⟨rfl, rfl, rfl⟩ := hcs
      exact ⟨[], .inl ⟨rfl, rfl, rfl, rfl⟩⟩
    · simp [Value.cells] at hcs
      obtain ⟨rfl, rfl, rfl⟩ := hcs
      exact ⟨zs, .inr ⟨_, rfl, hl, hm, by simpa using hz, hcell, hwz⟩⟩
  obtain ⟨a2, len2, cap2, rfl⟩ := okWide_slice Try.underlying22 (hval 2 22 v2 rfl rfl)
  have k2 := h2
  have lt2 : ∀ x ∈ p2, x.block < W.heap.size := by obtain ⟨m, hm⟩ := k2; exact DataW.trod_lt m _ _ _ hm
  obtain ⟨z2, w2⟩ : ∃ zs, IsRow .u64 W a2 len2 cap2 zs := by
    obtain ⟨fuel, hf⟩ := h2
    rcases open_ints Try.underlying22 Try.underlying36 (by kernel_rfl) hf with ⟨hcs, _⟩ | ⟨x, l, c, zs, hcs, _, hl, hm, hz, _, hcell, hwz⟩
    · simp [Value.cells] at hcs
      obtain ⟨rfl, rfl, rfl⟩ := hcs
      exact ⟨[], .inl ⟨rfl, rfl, rfl, rfl⟩⟩
    · simp [Value.cells] at hcs
      obtain ⟨rfl, rfl, rfl⟩ := hcs
      exact ⟨zs, .inr ⟨_, rfl, hl, hm, by simpa using hz, hcell, hwz⟩⟩
  clear hA0 hval0
  refine (walk a0 len0 cap0 z0 a1 len1 cap1 z1 a2 len2 cap2 z2 W w0 w1 w2).mono fun e W' ⟨he, bel⟩ => ?_
  subst he
  exact ⟨_, rfl, _, _, _, [], _, [], hW', trodAll_mk1 (shut_bool Try.underlying4 _), (trodAll_cons_mk (Below.trod laidOut (by kernel_rfl) (of_decide_eq_true (by kernel_rfl)) k0 bel lt0) (trodAll_cons_mk (Below.trod laidOut (by kernel_rfl) (of_decide_eq_true (by kernel_rfl)) k1 bel lt1) (trodAll_cons_mk (Below.trod laidOut (by kernel_rfl) (of_decide_eq_true (by kernel_rfl)) k2 bel lt2) trodAll_mk0))), rfl, bel.frame _, fun h => by cases h⟩

theorem over : Rows.limbOrderRow.holds Try.pinned (OpenSpec.ofChange Rows.limbOrderSpec) :=
  OpenClaim.holds_of_wide 7 Try.f7 rfl rfl rfl rfl rfl rfl rfl ⟨rfl, rfl, rfl, rfl, rfl⟩ rfl rfl rfl rfl rfl (by kernel_rfl) Try.func7 (by kernel_rfl)
    (of_decide_eq_true (by kernel_rfl)) (by unfold Func.isWrapper; first | (rw [if_pos (by decide +kernel)]; kernel_rfl) | (rw [if_neg (by decide +kernel)]; exact ⟨rfl, rfl⟩))
    (fun os started H enc _ => lifted os started H enc)

theorem proved : Rows.LimbOrderSaid := over
#print axioms proved
end Go.Proofs.Ytkphaoooeejohaa.limbOrder
