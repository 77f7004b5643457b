/-
  Proved here: for every input NatOrder returns true, and leaves its arguments as they were. No condition.
-/
import Derived.Test.YtbmckhnnbfpdbaaCame
import Derived.Test.YtbmckhnnbfpdbaaNatShown
namespace Go.Proofs.Ytbmckhnnbfpdbaa.natOrder
open Go.ChangeShapes Go.WideShapes Go.ChangeAt Go.RowKit
open Go.ChangeMaps (open_string shut_string)
set_option linter.unusedVariables false      -- a walk need not use every 'w<i>' (that an integer argument fits its kind)

set_option maxRecDepth 100000 in
set_option maxHeartbeats 4000000 in
theorem walk (a0 : Int) (a1 : Int) (w0 : (Lit.int .u32 a0).wf = true) (w1 : (Lit.int .u32 a1).wf = true) (w : World) :
    Calls Try.prog 8 #[.int .u32 a0, .int .u32 a1] w fun e w' => e = .returned (.bool true) ∧ Below w.heap.size w w' := by
  have k0 := bounds_u32 w0
  have k1 := bounds_u32 w1
  clear w0 w1
  have hm0 : 0 ≤ a0 * a1 := Int.mul_nonneg k0.1 k1.1
  have hm1 : a0 * a1 ≤ 18446744065119617025 := Int.le_trans (Int.mul_le_mul k0.2 k1.2 k1.1 (by omega)) (by decide)
  have hB : BB = 18446744073709551616 := rfl
  have hBig := Big_BB
  have HBig : Hid (18446744073709551616 < Big) := by rw [← hB]; exact hBig
  clear hBig hB
  obtain ⟨k00, k01⟩ := k0
  obtain ⟨k10, k11⟩ := k1
  rcases Int.lt_trichotomy a0 a1 with hv | hv | hv
  · have hv2 : ¬ a1 < a0 := by omega
    go_enter Try.func8, Try.ntmps8
    go_wp2_with fail
    refine (of_any a0 _ (by omega) (by unfold BB; omega)).mono ?_
    rintro e w1 ⟨xo, xm, xc, x, rfl, hx, nx, mx, b1⟩
    have Nx : Hid (Num x _) := nx
    clear nx
    have A1 : Hid (Below w.heap.size w w1) := b1
    have Xx1 : Hid (RowAt w1 xo xm xc x) := hx
    clear b1 hx
    go_wp2_with fail
    refine (of_any a1 _ (by omega) (by unfold BB; omega)).mono ?_
    rintro e w2 ⟨yo, ym, yc, y, rfl, hy, ny, my, b2⟩
    have Ny : Hid (Num y _) := ny
    clear ny
    have A2 : Hid (Below w.heap.size w w2) := chain A1.out b2
    have Xx2 : Hid (RowAt w2 xo xm xc x) := Xx1.out.below b2
    have Xy2 : Hid (RowAt w2 yo ym yc y) := hy
    clear b2 A1 Xx1 hy
    go_wp2_with fail
    refine (nadd_any _ _ _ _ _ _ x y _ Xx2.out Xy2.out).mono ?_
    rintro e w3 ⟨so, sm, sc, s, sk, rfl, hs, os, b3⟩
    have Os : Hid _ := os
    clear os
    have A3 : Hid (Below w.heap.size w w3) := chain A2.out b3
    have Xx3 : Hid (RowAt w3 xo xm xc x) := Xx2.out.below b3
    have Xy3 : Hid (RowAt w3 yo ym yc y) := Xy2.out.below b3
    have Xs3 : Hid (RowAt w3 so sm sc s) := hs
    clear b3 A2 Xx2 Xy2 hs
    have hs : sk = 0 ∧ Num s (a0 + a1) := by
      have h := HBig.out
      have h3 := Os.out.ok_num ⟨Nx.out.may.2 (by omega), Ny.out.may.2 (by omega)⟩ (fun f => f) (by rw [Nx.out.val, Ny.out.val]; omega)
      rw [Nx.out.val, Ny.out.val] at h3
      exact h3
    have Ns : Hid (Num s (a0 + a1)) := hs.2
    have eks := hs.1
    subst eks
    clear Os hs
    go_wp2_with fail
    refine (nmul_any _ _ _ _ _ _ x y _ Xx3.out Xy3.out).mono ?_
    rintro e w4 ⟨po, pm, pc, p, pk, rfl, hp, op, b4⟩
    have Op : Hid _ := op
    clear op
    have A4 : Hid (Below w.heap.size w w4) := chain A3.out b4
    have Xx4 : Hid (RowAt w4 xo xm xc x) := Xx3.out.below b4
    have Xy4 : Hid (RowAt w4 yo ym yc y) := Xy3.out.below b4
    have Xs4 : Hid (RowAt w4 so sm sc s) := Xs3.out.below b4
    have Xp4 : Hid (RowAt w4 po pm pc p) := hp
    clear b4 A3 Xx3 Xy3 Xs3 hp
    have hp : pk = 0 ∧ Num p (a0 * a1) := by
      have h := HBig.out
      have h3 := Op.out.ok_num ⟨Nx.out.may.2 (by omega), Ny.out.may.2 (by omega)⟩ (fun f => f) (by rw [Nx.out.val, Ny.out.val]; omega)
      rw [Nx.out.val, Ny.out.val] at h3
      exact h3
    have Np : Hid (Num p (a0 * a1)) := hp.2
    have ekp := hp.1
    subst ekp
    clear Op hp
    have hc : (-1 : Int) = cmpI (val x) (val y) := by
      rw [Nx.out.val, Ny.out.val]
      unfold cmpI
      rw [if_pos hv]
    have HC : Hid ((-1 : Int) = cmpI (val x) (val y)) := hc
    clear hc
    go_wp2_with fail
    refine (ncmp_val _ _ _ _ _ _ x y _ Xx4.out Xy4.out (by omega) (by omega) (-1) HC.out).mono ?_
    rintro e w5 ⟨rfl, b5⟩
    have A5 : Hid (Below w.heap.size w w5) := chain A4.out b5
    have Xx5 : Hid (RowAt w5 xo xm xc x) := Xx4.out.below b5
    have Xy5 : Hid (RowAt w5 yo ym yc y) := Xy4.out.below b5
    have Xs5 : Hid (RowAt w5 so sm sc s) := Xs4.out.below b5
    have Xp5 : Hid (RowAt w5 po pm pc p) := Xp4.out.below b5
    clear b5 A4 Xx4 Xy4 Xs4 Xp4
    go_wp2_with fail
    refine (of_any _ _ (by omega) (by unfold BB; omega)).mono ?_
    rintro e w6 ⟨uo, um, uc, u, rfl, hu, nu, -, b6⟩
    have Nu : Hid (Num u _) := nu
    clear nu
    have A6 : Hid (Below w.heap.size w w6) := chain A5.out b6
    have Xx6 : Hid (RowAt w6 xo xm xc x) := Xx5.out.below b6
    have Xy6 : Hid (RowAt w6 yo ym yc y) := Xy5.out.below b6
    have Xs6 : Hid (RowAt w6 so sm sc s) := Xs5.out.below b6
    have Xp6 : Hid (RowAt w6 po pm pc p) := Xp5.out.below b6
    have Xu6 : Hid (RowAt w6 uo um uc u) := hu
    clear b6 A5 Xx5 Xy5 Xs5 Xp5 hu
    go_wp2_with fail
    refine (rnsame_yes _ _ _ _ _ _ s u _ Xs6.out Xu6.out (Ns.out.one Nu.out)).mono ?_
    rintro e w7 ⟨rfl, b7⟩
    have A7 : Hid (Below w.heap.size w w7) := chain A6.out b7
    have Xx7 : Hid (RowAt w7 xo xm xc x) := Xx6.out.below b7
    have Xy7 : Hid (RowAt w7 yo ym yc y) := Xy6.out.below b7
    have Xs7 : Hid (RowAt w7 so sm sc s) := Xs6.out.below b7
    have Xp7 : Hid (RowAt w7 po pm pc p) := Xp6.out.below b7
    have Xu7 : Hid (RowAt w7 uo um uc u) := Xu6.out.below b7
    clear b7 A6 Xx6 Xy6 Xs6 Xp6 Xu6
    clear Xs7
    clear Xu7
    go_wp2_with fail
    refine (of_any _ _ (by omega) (by unfold BB; omega)).mono ?_
    rintro e w8 ⟨vo, vm, vc, v, rfl, hv, nv, -, b8⟩
    have Nv : Hid (Num v _) := nv
    clear nv
    have A8 : Hid (Below w.heap.size w w8) := chain A7.out b8
    have Xx8 : Hid (RowAt w8 xo xm xc x) := Xx7.out.below b8
    have Xy8 : Hid (RowAt w8 yo ym yc y) := Xy7.out.below b8
    have Xp8 : Hid (RowAt w8 po pm pc p) := Xp7.out.below b8
    have Xv8 : Hid (RowAt w8 vo vm vc v) := hv
    clear b8 A7 Xx7 Xy7 Xp7 hv
    go_wp2_with fail
    refine (rnsame_yes _ _ _ _ _ _ p v _ Xp8.out Xv8.out (Np.out.one Nv.out)).mono ?_
    rintro e w9 ⟨rfl, b9⟩
    have A9 : Hid (Below w.heap.size w w9) := chain A8.out b9
    have Xx9 : Hid (RowAt w9 xo xm xc x) := Xx8.out.below b9
    have Xy9 : Hid (RowAt w9 yo ym yc y) := Xy8.out.below b9
    have Xp9 : Hid (RowAt w9 po pm pc p) := Xp8.out.below b9
    have Xv9 : Hid (RowAt w9 vo vm vc v) := Xv8.out.below b9
    clear b9 A8 Xx8 Xy8 Xp8 Xv8
    clear Xp9
    clear Xv9
    go_wp2_with fail
    refine (nshown_any _).mono ?_
    rintro e w10 ⟨rfl, b10⟩
    have A10 : Hid (Below w.heap.size w w10) := chain A9.out b10
    have Xx10 : Hid (RowAt w10 xo xm xc x) := Xx9.out.below b10
    have Xy10 : Hid (RowAt w10 yo ym yc y) := Xy9.out.below b10
    clear b10 A9 Xx9 Xy9
    go_wp2
    go_ret
    exact ⟨rfl, A10.out⟩
  · subst hv
    go_enter Try.func8, Try.ntmps8
    go_wp2_with fail
    refine (of_any a0 _ (by omega) (by unfold BB; omega)).mono ?_
    rintro e w1 ⟨xo, xm, xc, x, rfl, hx, nx, mx, b1⟩
    have Nx : Hid (Num x _) := nx
    clear nx
    have A1 : Hid (Below w.heap.size w w1) := b1
    have Xx1 : Hid (RowAt w1 xo xm xc x) := hx
    clear b1 hx
    go_wp2_with fail
    refine (of_any a0 _ (by omega) (by unfold BB; omega)).mono ?_
    rintro e w2 ⟨yo, ym, yc, y, rfl, hy, ny, my, b2⟩
    have Ny : Hid (Num y _) := ny
    clear ny
    have A2 : Hid (Below w.heap.size w w2) := chain A1.out b2
    have Xx2 : Hid (RowAt w2 xo xm xc x) := Xx1.out.below b2
    have Xy2 : Hid (RowAt w2 yo ym yc y) := hy
    clear b2 A1 Xx1 hy
    go_wp2_with fail
    refine (nadd_any _ _ _ _ _ _ x y _ Xx2.out Xy2.out).mono ?_
    rintro e w3 ⟨so, sm, sc, s, sk, rfl, hs, os, b3⟩
    have Os : Hid _ := os
    clear os
    have A3 : Hid (Below w.heap.size w w3) := chain A2.out b3
    have Xx3 : Hid (RowAt w3 xo xm xc x) := Xx2.out.below b3
    have Xy3 : Hid (RowAt w3 yo ym yc y) := Xy2.out.below b3
    have Xs3 : Hid (RowAt w3 so sm sc s) := hs
    clear b3 A2 Xx2 Xy2 hs
    have hs : sk = 0 ∧ Num s (a0 + a0) := by
      have h := HBig.out
      have h3 := Os.out.ok_num ⟨Nx.out.may.2 (by omega), Ny.out.may.2 (by omega)⟩ (fun f => f) (by rw [Nx.out.val, Ny.out.val]; omega)
      rw [Nx.out.val, Ny.out.val] at h3
      exact h3
    have Ns : Hid (Num s (a0 + a0)) := hs.2
    have eks := hs.1
    subst eks
    clear Os hs
    go_wp2_with fail
    refine (nmul_any _ _ _ _ _ _ x y _ Xx3.out Xy3.out).mono ?_
    rintro e w4 ⟨po, pm, pc, p, pk, rfl, hp, op, b4⟩
    have Op : Hid _ := op
    clear op
    have A4 : Hid (Below w.heap.size w w4) := chain A3.out b4
    have Xx4 : Hid (RowAt w4 xo xm xc x) := Xx3.out.below b4
    have Xy4 : Hid (RowAt w4 yo ym yc y) := Xy3.out.below b4
    have Xs4 : Hid (RowAt w4 so sm sc s) := Xs3.out.below b4
    have Xp4 : Hid (RowAt w4 po pm pc p) := hp
    clear b4 A3 Xx3 Xy3 Xs3 hp
    have hp : pk = 0 ∧ Num p (a0 * a0) := by
      have h := HBig.out
      have h3 := Op.out.ok_num ⟨Nx.out.may.2 (by omega), Ny.out.may.2 (by omega)⟩ (fun f => f) (by rw [Nx.out.val, Ny.out.val]; omega)
      rw [Nx.out.val, Ny.out.val] at h3
      exact h3
    have Np : Hid (Num p (a0 * a0)) := hp.2
    have ekp := hp.1
    subst ekp
    clear Op hp
    have hc : (0 : Int) = cmpI (val x) (val y) := by
      rw [Nx.out.val, Ny.out.val]
      unfold cmpI
      simp
    have HC : Hid ((0 : Int) = cmpI (val x) (val y)) := hc
    clear hc
    go_wp2_with fail
    refine (ncmp_val _ _ _ _ _ _ x y _ Xx4.out Xy4.out (by omega) (by omega) (0) HC.out).mono ?_
    rintro e w5 ⟨rfl, b5⟩
    have A5 : Hid (Below w.heap.size w w5) := chain A4.out b5
    have Xx5 : Hid (RowAt w5 xo xm xc x) := Xx4.out.below b5
    have Xy5 : Hid (RowAt w5 yo ym yc y) := Xy4.out.below b5
    have Xs5 : Hid (RowAt w5 so sm sc s) := Xs4.out.below b5
    have Xp5 : Hid (RowAt w5 po pm pc p) := Xp4.out.below b5
    clear b5 A4 Xx4 Xy4 Xs4 Xp4
    go_wp2_with fail
    refine (of_any _ _ (by omega) (by unfold BB; omega)).mono ?_
    rintro e w6 ⟨uo, um, uc, u, rfl, hu, nu, -, b6⟩
    have Nu : Hid (Num u _) := nu
    clear nu
    have A6 : Hid (Below w.heap.size w w6) := chain A5.out b6
    have Xx6 : Hid (RowAt w6 xo xm xc x) := Xx5.out.below b6
    have Xy6 : Hid (RowAt w6 yo ym yc y) := Xy5.out.below b6
    have Xs6 : Hid (RowAt w6 so sm sc s) := Xs5.out.below b6
    have Xp6 : Hid (RowAt w6 po pm pc p) := Xp5.out.below b6
    have Xu6 : Hid (RowAt w6 uo um uc u) := hu
    clear b6 A5 Xx5 Xy5 Xs5 Xp5 hu
    go_wp2_with fail
    refine (rnsame_yes _ _ _ _ _ _ s u _ Xs6.out Xu6.out (Ns.out.one Nu.out)).mono ?_
    rintro e w7 ⟨rfl, b7⟩
    have A7 : Hid (Below w.heap.size w w7) := chain A6.out b7
    have Xx7 : Hid (RowAt w7 xo xm xc x) := Xx6.out.below b7
    have Xy7 : Hid (RowAt w7 yo ym yc y) := Xy6.out.below b7
    have Xs7 : Hid (RowAt w7 so sm sc s) := Xs6.out.below b7
    have Xp7 : Hid (RowAt w7 po pm pc p) := Xp6.out.below b7
    have Xu7 : Hid (RowAt w7 uo um uc u) := Xu6.out.below b7
    clear b7 A6 Xx6 Xy6 Xs6 Xp6 Xu6
    clear Xs7
    clear Xu7
    go_wp2_with fail
    refine (of_any _ _ (by omega) (by unfold BB; omega)).mono ?_
    rintro e w8 ⟨vo, vm, vc, v, rfl, hv, nv, -, b8⟩
    have Nv : Hid (Num v _) := nv
    clear nv
    have A8 : Hid (Below w.heap.size w w8) := chain A7.out b8
    have Xx8 : Hid (RowAt w8 xo xm xc x) := Xx7.out.below b8
    have Xy8 : Hid (RowAt w8 yo ym yc y) := Xy7.out.below b8
    have Xp8 : Hid (RowAt w8 po pm pc p) := Xp7.out.below b8
    have Xv8 : Hid (RowAt w8 vo vm vc v) := hv
    clear b8 A7 Xx7 Xy7 Xp7 hv
    go_wp2_with fail
    refine (rnsame_yes _ _ _ _ _ _ p v _ Xp8.out Xv8.out (Np.out.one Nv.out)).mono ?_
    rintro e w9 ⟨rfl, b9⟩
    have A9 : Hid (Below w.heap.size w w9) := chain A8.out b9
    have Xx9 : Hid (RowAt w9 xo xm xc x) := Xx8.out.below b9
    have Xy9 : Hid (RowAt w9 yo ym yc y) := Xy8.out.below b9
    have Xp9 : Hid (RowAt w9 po pm pc p) := Xp8.out.below b9
    have Xv9 : Hid (RowAt w9 vo vm vc v) := Xv8.out.below b9
    clear b9 A8 Xx8 Xy8 Xp8 Xv8
    clear Xp9
    clear Xv9
    go_wp2_with fail
    refine (nshown_any _).mono ?_
    rintro e w10 ⟨rfl, b10⟩
    have A10 : Hid (Below w.heap.size w w10) := chain A9.out b10
    have Xx10 : Hid (RowAt w10 xo xm xc x) := Xx9.out.below b10
    have Xy10 : Hid (RowAt w10 yo ym yc y) := Xy9.out.below b10
    clear b10 A9 Xx9 Xy9
    go_wp2
    go_ret
    exact ⟨rfl, A10.out⟩
  · have hv2 : ¬ a0 < a1 := by omega
    go_enter Try.func8, Try.ntmps8
    go_wp2_with fail
    refine (of_any a0 _ (by omega) (by unfold BB; omega)).mono ?_
    rintro e w1 ⟨xo, xm, xc, x, rfl, hx, nx, mx, b1⟩
    have Nx : Hid (Num x _) := nx
    clear nx
    have A1 : Hid (Below w.heap.size w w1) := b1
    have Xx1 : Hid (RowAt w1 xo xm xc x) := hx
    clear b1 hx
    go_wp2_with fail
    refine (of_any a1 _ (by omega) (by unfold BB; omega)).mono ?_
    rintro e w2 ⟨yo, ym, yc, y, rfl, hy, ny, my, b2⟩
    have Ny : Hid (Num y _) := ny
    clear ny
    have A2 : Hid (Below w.heap.size w w2) := chain A1.out b2
    have Xx2 : Hid (RowAt w2 xo xm xc x) := Xx1.out.below b2
    have Xy2 : Hid (RowAt w2 yo ym yc y) := hy
    clear b2 A1 Xx1 hy
    go_wp2_with fail
    refine (nadd_any _ _ _ _ _ _ x y _ Xx2.out Xy2.out).mono ?_
    rintro e w3 ⟨so, sm, sc, s, sk, rfl, hs, os, b3⟩
    have Os : Hid _ := os
    clear os
    have A3 : Hid (Below w.heap.size w w3) := chain A2.out b3
    have Xx3 : Hid (RowAt w3 xo xm xc x) := Xx2.out.below b3
    have Xy3 : Hid (RowAt w3 yo ym yc y) := Xy2.out.below b3
    have Xs3 : Hid (RowAt w3 so sm sc s) := hs
    clear b3 A2 Xx2 Xy2 hs
    have hs : sk = 0 ∧ Num s (a0 + a1) := by
      have h := HBig.out
      have h3 := Os.out.ok_num ⟨Nx.out.may.2 (by omega), Ny.out.may.2 (by omega)⟩ (fun f => f) (by rw [Nx.out.val, Ny.out.val]; omega)
      rw [Nx.out.val, Ny.out.val] at h3
      exact h3
    have Ns : Hid (Num s (a0 + a1)) := hs.2
    have eks := hs.1
    subst eks
    clear Os hs
    go_wp2_with fail
    refine (nmul_any _ _ _ _ _ _ x y _ Xx3.out Xy3.out).mono ?_
    rintro e w4 ⟨po, pm, pc, p, pk, rfl, hp, op, b4⟩
    have Op : Hid _ := op
    clear op
    have A4 : Hid (Below w.heap.size w w4) := chain A3.out b4
    have Xx4 : Hid (RowAt w4 xo xm xc x) := Xx3.out.below b4
    have Xy4 : Hid (RowAt w4 yo ym yc y) := Xy3.out.below b4
    have Xs4 : Hid (RowAt w4 so sm sc s) := Xs3.out.below b4
    have Xp4 : Hid (RowAt w4 po pm pc p) := hp
    clear b4 A3 Xx3 Xy3 Xs3 hp
    have hp : pk = 0 ∧ Num p (a0 * a1) := by
      have h := HBig.out
      have h3 := Op.out.ok_num ⟨Nx.out.may.2 (by omega), Ny.out.may.2 (by omega)⟩ (fun f => f) (by rw [Nx.out.val, Ny.out.val]; omega)
      rw [Nx.out.val, Ny.out.val] at h3
      exact h3
    have Np : Hid (Num p (a0 * a1)) := hp.2
    have ekp := hp.1
    subst ekp
    clear Op hp
    have hc : (1 : Int) = cmpI (val x) (val y) := by
      rw [Nx.out.val, Ny.out.val]
      unfold cmpI
      rw [if_neg (by omega), if_neg (by omega)]
    have HC : Hid ((1 : Int) = cmpI (val x) (val y)) := hc
    clear hc
    go_wp2_with fail
    refine (ncmp_val _ _ _ _ _ _ x y _ Xx4.out Xy4.out (by omega) (by omega) (1) HC.out).mono ?_
    rintro e w5 ⟨rfl, b5⟩
    have A5 : Hid (Below w.heap.size w w5) := chain A4.out b5
    have Xx5 : Hid (RowAt w5 xo xm xc x) := Xx4.out.below b5
    have Xy5 : Hid (RowAt w5 yo ym yc y) := Xy4.out.below b5
    have Xs5 : Hid (RowAt w5 so sm sc s) := Xs4.out.below b5
    have Xp5 : Hid (RowAt w5 po pm pc p) := Xp4.out.below b5
    clear b5 A4 Xx4 Xy4 Xs4 Xp4
    go_wp2_with fail
    refine (of_any _ _ (by omega) (by unfold BB; omega)).mono ?_
    rintro e w6 ⟨uo, um, uc, u, rfl, hu, nu, -, b6⟩
    have Nu : Hid (Num u _) := nu
    clear nu
    have A6 : Hid (Below w.heap.size w w6) := chain A5.out b6
    have Xx6 : Hid (RowAt w6 xo xm xc x) := Xx5.out.below b6
    have Xy6 : Hid (RowAt w6 yo ym yc y) := Xy5.out.below b6
    have Xs6 : Hid (RowAt w6 so sm sc s) := Xs5.out.below b6
    have Xp6 : Hid (RowAt w6 po pm pc p) := Xp5.out.below b6
    have Xu6 : Hid (RowAt w6 uo um uc u) := hu
    clear b6 A5 Xx5 Xy5 Xs5 Xp5 hu
    go_wp2_with fail
    refine (rnsame_yes _ _ _ _ _ _ s u _ Xs6.out Xu6.out (Ns.out.one Nu.out)).mono ?_
    rintro e w7 ⟨rfl, b7⟩
    have A7 : Hid (Below w.heap.size w w7) := chain A6.out b7
    have Xx7 : Hid (RowAt w7 xo xm xc x) := Xx6.out.below b7
    have Xy7 : Hid (RowAt w7 yo ym yc y) := Xy6.out.below b7
    have Xs7 : Hid (RowAt w7 so sm sc s) := Xs6.out.below b7
    have Xp7 : Hid (RowAt w7 po pm pc p) := Xp6.out.below b7
    have Xu7 : Hid (RowAt w7 uo um uc u) := Xu6.out.below b7
    clear b7 A6 Xx6 Xy6 Xs6 Xp6 Xu6
    clear Xs7
    clear Xu7
    go_wp2_with fail
    refine (of_any _ _ (by omega) (by unfold BB; omega)).mono ?_
    rintro e w8 ⟨vo, vm, vc, v, rfl, hv, nv, -, b8⟩
    have Nv : Hid (Num v _) := nv
    clear nv
    have A8 : Hid (Below w.heap.size w w8) := chain A7.out b8
    have Xx8 : Hid (RowAt w8 xo xm xc x) := Xx7.out.below b8
    have Xy8 : Hid (RowAt w8 yo ym yc y) := Xy7.out.below b8
    have Xp8 : Hid (RowAt w8 po pm pc p) := Xp7.out.below b8
    have Xv8 : Hid (RowAt w8 vo vm vc v) := hv
    clear b8 A7 Xx7 Xy7 Xp7 hv
    go_wp2_with fail
    refine (rnsame_yes _ _ _ _ _ _ p v _ Xp8.out Xv8.out (Np.out.one Nv.out)).mono ?_
    rintro e w9 ⟨rfl, b9⟩
    have A9 : Hid (Below w.heap.size w w9) := chain A8.out b9
    have Xx9 : Hid (RowAt w9 xo xm xc x) := Xx8.out.below b9
    have Xy9 : Hid (RowAt w9 yo ym yc y) := Xy8.out.below b9
    have Xp9 : Hid (RowAt w9 po pm pc p) := Xp8.out.below b9
    have Xv9 : Hid (RowAt w9 vo vm vc v) := Xv8.out.below b9
    clear b9 A8 Xx8 Xy8 Xp8 Xv8
    clear Xp9
    clear Xv9
    go_wp2_with fail
    refine (nshown_any _).mono ?_
    rintro e w10 ⟨rfl, b10⟩
    have A10 : Hid (Below w.heap.size w w10) := chain A9.out b10
    have Xx10 : Hid (RowAt w10 xo xm xc x) := Xx9.out.below b10
    have Xy10 : Hid (RowAt w10 yo ym yc y) := Xy9.out.below b10
    clear b10 A9 Xx9 Xy9
    go_wp2
    go_ret
    exact ⟨rfl, A10.out⟩
  -- go_enter Try.func8, Try.ntmps8
  -- go_wp2
  -- go_ret

set_option maxRecDepth 100000 in
theorem lifted (os : Os) (started : os.Started) (H : Type) (enc : TypeId × Value → H) :
    ReturnsInHanded {} Try.checked os 8 .any (Rows.natOrderSpec.pre6 enc Try.prog Try.f8 Rows.natOrderRow.domain false) (Rows.natOrderSpec.post enc Try.prog Try.f8 false true false false) := by
  refine returnsInHanded_of_change (C := Try.checked) own started (by kernel_rfl) Try.func8
    (ChangeSpec.witness6 (enc := enc) (C := Try.checked) false ⟨#[], #[.int .u32 0, .int .u32 0], []⟩ 8 (by kernel_rfl) (by kernel_rfl) (by kernel_rfl) (by kernel_rfl)) ?_
  intro W base args ds gs before hval0 hW hcnd _
  have hval : ∀ (j : Nat) t v, Try.f8.params[j]? = some t → args[j]? = some v → Value.okWide Try.prog W .any base t v := hval0
  have hW' := hW
  obtain ⟨p, q, hA0, hV, rfl, hfz, hnd⟩ := hW
  have hA : DataW.TrodAll enc Try.prog W 0 (fun _ => true) true Try.f8.params.toList args.toList ds p := hA0
  rw [Try.params8] at hA hval
  obtain ⟨v0, vs0, d0, ds0, p0, q0, hargs, rfl, rfl, h0, r0⟩ := trodAll_cons hA
  obtain ⟨v1, vs1, d1, ds1, p1, q1, rfl, rfl, rfl, h1, r1⟩ := trodAll_cons r0
  obtain ⟨rfl, rfl, rfl⟩ := trodAll_nil r1
  obtain rfl : args = #[v0, v1] := by cases args; simp_all
  obtain ⟨rfl, rfl⟩ := trodVars_none hV
  obtain ⟨a0, rfl, rfl, rfl, w0⟩ := open_int Try.underlying37 (hval 0 37 v0 rfl rfl) h0
  obtain ⟨a1, rfl, rfl, rfl, w1⟩ := open_int Try.underlying37 (hval 1 37 v1 rfl rfl) h1
  clear hA0 hval0
  refine (walk a0 a1 w0 w1 W).mono fun e W' ⟨he, hg⟩ => ?_
  subst he
  exact ⟨_, rfl, _, _, _, [], _, [], hW', trodAll_mk1 (shut_bool Try.underlying4 _), (trodAll_cons_mk (shut_int Try.underlying37 w0) (trodAll_cons_mk (shut_int Try.underlying37 w1) trodAll_mk0)), rfl, hg.frame _, fun h => by cases h⟩

theorem over : Rows.natOrderRow.holds Try.pinned (OpenSpec.ofChange Rows.natOrderSpec) :=
  OpenClaim.holds_of_wide 8 Try.f8 rfl rfl rfl rfl rfl rfl rfl ⟨rfl, rfl, rfl, rfl, rfl⟩ rfl rfl rfl rfl rfl (by kernel_rfl) Try.func8 (by kernel_rfl)
    (of_decide_eq_true (by kernel_rfl)) (by unfold Func.isWrapper; first | (rw [if_pos (by decide +kernel)]; kernel_rfl) | (rw [if_neg (by decide +kernel)]; exact ⟨rfl, rfl⟩))
    (fun os started H enc _ => lifted os started H enc)

theorem proved : Rows.NatOrderSaid :=
  over
#print axioms proved
end Go.Proofs.Ytbmckhnnbfpdbaa.natOrder
