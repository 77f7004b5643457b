/-
  Proved here: for every input NatSums returns true, and leaves its arguments as they were. No condition.
-/
import Derived.Test.YtbmckhnnbfpdbaaCame
import Derived.Test.YtbmckhnnbfpdbaaNatShown
import Derived.Test.YtbmckhnnbfpdbaaPower
namespace Go.Proofs.Ytbmckhnnbfpdbaa.natSums
open Go.ChangeShapes Go.WideShapes Go.ChangeAt Go.RowKit
open Go.ChangeMaps (open_string shut_string)
set_option linter.unusedVariables false      -- a walk need not use every 'w<i>' (that an integer argument fits its kind)

set_option maxRecDepth 100000 in
set_option maxHeartbeats 4000000 in
theorem walk (a0 : Int) (a1 : Int) (a2 : Int) (w0 : (Lit.int .u32 a0).wf = true) (w1 : (Lit.int .u8 a1).wf = true) (w2 : (Lit.int .u8 a2).wf = true) (w : World) :
    Calls Try.prog 6 #[.int .u32 a0, .int .u8 a1, .int .u8 a2] w fun e w' => e = .returned (.bool true) ∧ Below w.heap.size w w' := by
  have k0 := bounds_u32 w0
  have k1 := bounds_u8 w1
  have k2 := bounds_u8 w2
  clear w0 w1 w2
  have hB : BB = 18446744073709551616 := rfl
  have hBig := Big_BB
  have HA : Hid (a0 < Big) := by show a0 < Big; omega
  obtain ⟨k00, k01⟩ := k0
  obtain ⟨k10, k11⟩ := k1
  obtain ⟨k20, k21⟩ := k2
  clear hBig hB
  have hadd : a0 ^ (a1 + a2).toNat = a0 ^ a1.toNat * a0 ^ a2.toNat := by rw [Int.toNat_add k10 k20, Int.pow_add]
  have HAdd : Hid (a0 ^ (a1 + a2).toNat = a0 ^ a1.toNat * a0 ^ a2.toNat) := hadd
  rcases Int.lt_or_le (a0 ^ (a1 + a2).toNat) Big with hs | hs
  · have hn : a0 ^ a1.toNat < Big := by
      rcases Int.lt_or_le (a0 ^ a1.toNat) Big with h | h
      · exact h
      · have := pow_big k00 (show a1.toNat ≤ (a1 + a2).toNat by omega) h; omega
    have hm : a0 ^ a2.toNat < Big := by
      rcases Int.lt_or_le (a0 ^ a2.toNat) Big with h | h
      · exact h
      · have := pow_big k00 (show a2.toNat ≤ (a1 + a2).toNat by omega) h; omega
    have HS : Hid (a0 ^ (a1 + a2).toNat < Big) := hs
    have HN : Hid (a0 ^ a1.toNat < Big) := hn
    have HM : Hid (a0 ^ a2.toNat < Big) := hm
    clear hs hn hm hadd
    go_enter Try.func6, Try.ntmps6
    go_wp2_with fail
    refine (of_any a0 _ (by omega) (by unfold BB; omega)).mono ?_
    rintro e w1 ⟨po, pm, pc, p, rfl, hp, np, -, b1⟩
    have Np : Hid (Num p _) := np
    clear np
    have A1 : Hid (Below w.heap.size w w1) := b1
    have Xp1 : Hid (RowAt w1 po pm pc p) := hp
    clear b1 hp
    go_wp2_with fail
    refine (power_any _ _ _ p (a1 + a2) _ Xp1.out (by omega) (by omega)).mono ?_
    rintro e w2 ⟨xo, xm, xc, x, xk, rfl, hx, ox, b2⟩
    have Ox : Hid (PowOut p (a1 + a2) x xk) := ox
    clear ox
    have A2 : Hid (Below w.heap.size w w2) := chain A1.out b2
    have Xp2 : Hid (RowAt w2 po pm pc p) := Xp1.out.below b2
    have Xx2 : Hid (RowAt w2 xo xm xc x) := hx
    clear b2 A1 Xp1 hx
    have eex : xk = 0 ∧ Num x (a0 ^ Int.toNat (a1 + a2)) := Ox.out.is_fine Np.out HA.out (by omega) HS.out
    have ekx := eex.1
    have Nx : Hid (Num x (a0 ^ Int.toNat (a1 + a2))) := eex.2
    subst ekx
    clear Ox Np eex
    clear Xp2
    go_wp2_with fail
    refine (of_any a0 _ (by omega) (by unfold BB; omega)).mono ?_
    rintro e w3 ⟨qo, qm, qc, q, rfl, hq, nq, -, b3⟩
    have Nq : Hid (Num q _) := nq
    clear nq
    have A3 : Hid (Below w.heap.size w w3) := chain A2.out b3
    have Xx3 : Hid (RowAt w3 xo xm xc x) := Xx2.out.below b3
    have Xq3 : Hid (RowAt w3 qo qm qc q) := hq
    clear b3 A2 Xx2 hq
    go_wp2_with fail
    refine (power_any _ _ _ q (a1) _ Xq3.out (by omega) (by omega)).mono ?_
    rintro e w4 ⟨yo, ym, yc, y, yk, rfl, hy, oy, b4⟩
    have Oy : Hid (PowOut q (a1) y yk) := oy
    clear oy
    have A4 : Hid (Below w.heap.size w w4) := chain A3.out b4
    have Xx4 : Hid (RowAt w4 xo xm xc x) := Xx3.out.below b4
    have Xq4 : Hid (RowAt w4 qo qm qc q) := Xq3.out.below b4
    have Xy4 : Hid (RowAt w4 yo ym yc y) := hy
    clear b4 A3 Xx3 Xq3 hy
    have eey : yk = 0 ∧ Num y (a0 ^ Int.toNat (a1)) := Oy.out.is_fine Nq.out HA.out (by omega) HN.out
    have eky := eey.1
    have Ny : Hid (Num y (a0 ^ Int.toNat (a1))) := eey.2
    subst eky
    clear Oy Nq eey
    clear Xq4
    go_wp2_with fail
    refine (of_any a0 _ (by omega) (by unfold BB; omega)).mono ?_
    rintro e w5 ⟨ro, rm, rc, r, rfl, hr, nr, -, b5⟩
    have Nr : Hid (Num r _) := nr
    clear nr
    have A5 : Hid (Below w.heap.size w w5) := chain A4.out b5
    have Xx5 : Hid (RowAt w5 xo xm xc x) := Xx4.out.below b5
    have Xy5 : Hid (RowAt w5 yo ym yc y) := Xy4.out.below b5
    have Xr5 : Hid (RowAt w5 ro rm rc r) := hr
    clear b5 A4 Xx4 Xy4 hr
    go_wp2_with fail
    refine (power_any _ _ _ r (a2) _ Xr5.out (by omega) (by omega)).mono ?_
    rintro e w6 ⟨zo, zm, zc, z, zk, rfl, hz, oz, b6⟩
    have Oz : Hid (PowOut r (a2) z zk) := oz
    clear oz
    have A6 : Hid (Below w.heap.size w w6) := chain A5.out b6
    have Xx6 : Hid (RowAt w6 xo xm xc x) := Xx5.out.below b6
    have Xy6 : Hid (RowAt w6 yo ym yc y) := Xy5.out.below b6
    have Xr6 : Hid (RowAt w6 ro rm rc r) := Xr5.out.below b6
    have Xz6 : Hid (RowAt w6 zo zm zc z) := hz
    clear b6 A5 Xx5 Xy5 Xr5 hz
    have eez : zk = 0 ∧ Num z (a0 ^ Int.toNat (a2)) := Oz.out.is_fine Nr.out HA.out (by omega) HM.out
    have ekz := eez.1
    have Nz : Hid (Num z (a0 ^ Int.toNat (a2))) := eez.2
    subst ekz
    clear Oz Nr eez
    clear Xr6
    go_wp2_with fail
    refine (nshown_any _).mono ?_
    rintro e w7 ⟨rfl, b7⟩
    have A7 : Hid (Below w.heap.size w w7) := chain A6.out b7
    have Xx7 : Hid (RowAt w7 xo xm xc x) := Xx6.out.below b7
    have Xy7 : Hid (RowAt w7 yo ym yc y) := Xy6.out.below b7
    have Xz7 : Hid (RowAt w7 zo zm zc z) := Xz6.out.below b7
    clear b7 A6 Xx6 Xy6 Xz6
    go_wp2_with fail
    refine (nmul_any _ _ _ _ _ _ y z _ Xy7.out Xz7.out).mono ?_
    rintro e w8 ⟨uo, um, uc, u, uk, rfl, hu, ou, b8⟩
    have Ou : Hid _ := ou
    clear ou
    have A8 : Hid (Below w.heap.size w w8) := chain A7.out b8
    have Xx8 : Hid (RowAt w8 xo xm xc x) := Xx7.out.below b8
    have Xy8 : Hid (RowAt w8 yo ym yc y) := Xy7.out.below b8
    have Xz8 : Hid (RowAt w8 zo zm zc z) := Xz7.out.below b8
    have Xu8 : Hid (RowAt w8 uo um uc u) := hu
    clear b8 A7 Xx7 Xy7 Xz7 hu
    have hu : Out (May y ∧ May z) False (a0 ^ (a1 + a2).toNat) u uk := by
      have h := Ou.out
      rw [Ny.out.val, Nz.out.val, ← HAdd.out] at h
      exact h
    have eeu := hu.ok_num ⟨Ny.out.may.2 HN.out, Nz.out.may.2 HM.out⟩ (fun f => f) HS.out
    have Eu : Hid (u = x) := eeu.2.one Nx.out
    have eku := eeu.1
    subst eku
    clear Ou hu eeu
    go_wp2_with fail
    refine (rnsame_yes _ _ _ _ _ _ u x _ Xu8.out Xx8.out Eu.out).mono ?_
    rintro e w9 ⟨rfl, b9⟩
    have A9 : Hid (Below w.heap.size w w9) := chain A8.out b9
    have Xx9 : Hid (RowAt w9 xo xm xc x) := Xx8.out.below b9
    have Xy9 : Hid (RowAt w9 yo ym yc y) := Xy8.out.below b9
    have Xz9 : Hid (RowAt w9 zo zm zc z) := Xz8.out.below b9
    have Xu9 : Hid (RowAt w9 uo um uc u) := Xu8.out.below b9
    clear b9 A8 Xx8 Xy8 Xz8 Xu8
    go_wp2
    go_ret
    exact ⟨rfl, A9.out⟩
  · have HS : Hid (Big ≤ a0 ^ (a1 + a2).toNat) := hs
    clear hs hadd
    rcases Int.lt_or_le (a0 ^ a1.toNat) Big with hn | hn
    · have HN : Hid (a0 ^ a1.toNat < Big) := hn
      clear hn
      rcases Int.lt_or_le (a0 ^ a2.toNat) Big with hm | hm
      · have HM : Hid (a0 ^ a2.toNat < Big) := hm
        clear hm
        go_enter Try.func6, Try.ntmps6
        go_wp2_with fail
        refine (of_any a0 _ (by omega) (by unfold BB; omega)).mono ?_
        rintro e w1 ⟨po, pm, pc, p, rfl, hp, np, -, b1⟩
        have Np : Hid (Num p _) := np
        clear np
        have A1 : Hid (Below w.heap.size w w1) := b1
        have Xp1 : Hid (RowAt w1 po pm pc p) := hp
        clear b1 hp
        go_wp2_with fail
        refine (power_any _ _ _ p (a1 + a2) _ Xp1.out (by omega) (by omega)).mono ?_
        rintro e w2 ⟨xo, xm, xc, x, xk, rfl, hx, ox, b2⟩
        have Ox : Hid (PowOut p (a1 + a2) x xk) := ox
        clear ox
        have A2 : Hid (Below w.heap.size w w2) := chain A1.out b2
        have Xp2 : Hid (RowAt w2 po pm pc p) := Xp1.out.below b2
        have Xx2 : Hid (RowAt w2 xo xm xc x) := hx
        clear b2 A1 Xp1 hx
        have eex : xk = 21 ∧ x = [] := Ox.out.is_over Np.out HA.out (by omega) HS.out
        obtain ⟨ekx, elx⟩ := eex
        subst ekx
        subst elx
        clear Ox Np
        clear Xp2
        go_wp2_with fail
        refine (of_any a0 _ (by omega) (by unfold BB; omega)).mono ?_
        rintro e w3 ⟨qo, qm, qc, q, rfl, hq, nq, -, b3⟩
        have Nq : Hid (Num q _) := nq
        clear nq
        have A3 : Hid (Below w.heap.size w w3) := chain A2.out b3
        have Xx3 : Hid (RowAt w3 xo xm xc []) := Xx2.out.below b3
        have Xq3 : Hid (RowAt w3 qo qm qc q) := hq
        clear b3 A2 Xx2 hq
        go_wp2_with fail
        refine (power_any _ _ _ q (a1) _ Xq3.out (by omega) (by omega)).mono ?_
        rintro e w4 ⟨yo, ym, yc, y, yk, rfl, hy, oy, b4⟩
        have Oy : Hid (PowOut q (a1) y yk) := oy
        clear oy
        have A4 : Hid (Below w.heap.size w w4) := chain A3.out b4
        have Xx4 : Hid (RowAt w4 xo xm xc []) := Xx3.out.below b4
        have Xq4 : Hid (RowAt w4 qo qm qc q) := Xq3.out.below b4
        have Xy4 : Hid (RowAt w4 yo ym yc y) := hy
        clear b4 A3 Xx3 Xq3 hy
        have eey : yk = 0 ∧ Num y (a0 ^ Int.toNat (a1)) := Oy.out.is_fine Nq.out HA.out (by omega) HN.out
        have eky := eey.1
        have Ny : Hid (Num y (a0 ^ Int.toNat (a1))) := eey.2
        subst eky
        clear Oy Nq eey
        clear Xq4
        go_wp2_with fail
        refine (of_any a0 _ (by omega) (by unfold BB; omega)).mono ?_
        rintro e w5 ⟨ro, rm, rc, r, rfl, hr, nr, -, b5⟩
        have Nr : Hid (Num r _) := nr
        clear nr
        have A5 : Hid (Below w.heap.size w w5) := chain A4.out b5
        have Xx5 : Hid (RowAt w5 xo xm xc []) := Xx4.out.below b5
        have Xy5 : Hid (RowAt w5 yo ym yc y) := Xy4.out.below b5
        have Xr5 : Hid (RowAt w5 ro rm rc r) := hr
        clear b5 A4 Xx4 Xy4 hr
        go_wp2_with fail
        refine (power_any _ _ _ r (a2) _ Xr5.out (by omega) (by omega)).mono ?_
        rintro e w6 ⟨zo, zm, zc, z, zk, rfl, hz, oz, b6⟩
        have Oz : Hid (PowOut r (a2) z zk) := oz
        clear oz
        have A6 : Hid (Below w.heap.size w w6) := chain A5.out b6
        have Xx6 : Hid (RowAt w6 xo xm xc []) := Xx5.out.below b6
        have Xy6 : Hid (RowAt w6 yo ym yc y) := Xy5.out.below b6
        have Xr6 : Hid (RowAt w6 ro rm rc r) := Xr5.out.below b6
        have Xz6 : Hid (RowAt w6 zo zm zc z) := hz
        clear b6 A5 Xx5 Xy5 Xr5 hz
        have eez : zk = 0 ∧ Num z (a0 ^ Int.toNat (a2)) := Oz.out.is_fine Nr.out HA.out (by omega) HM.out
        have ekz := eez.1
        have Nz : Hid (Num z (a0 ^ Int.toNat (a2))) := eez.2
        subst ekz
        clear Oz Nr eez
        clear Xr6
        go_wp2_with fail
        refine (nshown_any _).mono ?_
        rintro e w7 ⟨rfl, b7⟩
        have A7 : Hid (Below w.heap.size w w7) := chain A6.out b7
        have Xx7 : Hid (RowAt w7 xo xm xc []) := Xx6.out.below b7
        have Xy7 : Hid (RowAt w7 yo ym yc y) := Xy6.out.below b7
        have Xz7 : Hid (RowAt w7 zo zm zc z) := Xz6.out.below b7
        clear b7 A6 Xx6 Xy6 Xz6
        go_wp2_with fail
        refine (nmul_any _ _ _ _ _ _ y z _ Xy7.out Xz7.out).mono ?_
        rintro e w8 ⟨uo, um, uc, u, uk, rfl, hu, ou, b8⟩
        have Ou : Hid _ := ou
        clear ou
        have A8 : Hid (Below w.heap.size w w8) := chain A7.out b8
        have Xx8 : Hid (RowAt w8 xo xm xc []) := Xx7.out.below b8
        have Xy8 : Hid (RowAt w8 yo ym yc y) := Xy7.out.below b8
        have Xz8 : Hid (RowAt w8 zo zm zc z) := Xz7.out.below b8
        have Xu8 : Hid (RowAt w8 uo um uc u) := hu
        clear b8 A7 Xx7 Xy7 Xz7 hu
        have hu : Out (May y ∧ May z) False (a0 ^ (a1 + a2).toNat) u uk := by
          have h := Ou.out
          rw [Ny.out.val, Nz.out.val, ← HAdd.out] at h
          exact h
        obtain ⟨eku, elu⟩ := hu.is_big ⟨Ny.out.may.2 HN.out, Nz.out.may.2 HM.out⟩ (fun f => f) HS.out
        subst eku
        subst elu
        clear Ou hu
        go_wp2_with fail
        refine (rnsame_yes _ _ _ _ _ _ [] [] _ Xu8.out Xx8.out rfl).mono ?_
        rintro e w9 ⟨rfl, b9⟩
        have A9 : Hid (Below w.heap.size w w9) := chain A8.out b9
        have Xx9 : Hid (RowAt w9 xo xm xc []) := Xx8.out.below b9
        have Xy9 : Hid (RowAt w9 yo ym yc y) := Xy8.out.below b9
        have Xz9 : Hid (RowAt w9 zo zm zc z) := Xz8.out.below b9
        have Xu9 : Hid (RowAt w9 uo um uc []) := Xu8.out.below b9
        clear b9 A8 Xx8 Xy8 Xz8 Xu8
        go_wp2
        go_ret
        exact ⟨rfl, A9.out⟩
      · have HM : Hid (Big ≤ a0 ^ a2.toNat) := hm
        clear hm
        go_enter Try.func6, Try.ntmps6
        go_wp2_with fail
        refine (of_any a0 _ (by omega) (by unfold BB; omega)).mono ?_
        rintro e w1 ⟨po, pm, pc, p, rfl, hp, np, -, b1⟩
        have Np : Hid (Num p _) := np
        clear np
        have A1 : Hid (Below w.heap.size w w1) := b1
        have Xp1 : Hid (RowAt w1 po pm pc p) := hp
        clear b1 hp
        go_wp2_with fail
        refine (power_any _ _ _ p (a1 + a2) _ Xp1.out (by omega) (by omega)).mono ?_
        rintro e w2 ⟨xo, xm, xc, x, xk, rfl, hx, ox, b2⟩
        have Ox : Hid (PowOut p (a1 + a2) x xk) := ox
        clear ox
        have A2 : Hid (Below w.heap.size w w2) := chain A1.out b2
        have Xp2 : Hid (RowAt w2 po pm pc p) := Xp1.out.below b2
        have Xx2 : Hid (RowAt w2 xo xm xc x) := hx
        clear b2 A1 Xp1 hx
        have eex : xk = 21 ∧ x = [] := Ox.out.is_over Np.out HA.out (by omega) HS.out
        obtain ⟨ekx, elx⟩ := eex
        subst ekx
        subst elx
        clear Ox Np
        clear Xp2
        go_wp2_with fail
        refine (of_any a0 _ (by omega) (by unfold BB; omega)).mono ?_
        rintro e w3 ⟨qo, qm, qc, q, rfl, hq, nq, -, b3⟩
        have Nq : Hid (Num q _) := nq
        clear nq
        have A3 : Hid (Below w.heap.size w w3) := chain A2.out b3
        have Xx3 : Hid (RowAt w3 xo xm xc []) := Xx2.out.below b3
        have Xq3 : Hid (RowAt w3 qo qm qc q) := hq
        clear b3 A2 Xx2 hq
        go_wp2_with fail
        refine (power_any _ _ _ q (a1) _ Xq3.out (by omega) (by omega)).mono ?_
        rintro e w4 ⟨yo, ym, yc, y, yk, rfl, hy, oy, b4⟩
        have Oy : Hid (PowOut q (a1) y yk) := oy
        clear oy
        have A4 : Hid (Below w.heap.size w w4) := chain A3.out b4
        have Xx4 : Hid (RowAt w4 xo xm xc []) := Xx3.out.below b4
        have Xq4 : Hid (RowAt w4 qo qm qc q) := Xq3.out.below b4
        have Xy4 : Hid (RowAt w4 yo ym yc y) := hy
        clear b4 A3 Xx3 Xq3 hy
        have eey : yk = 0 ∧ Num y (a0 ^ Int.toNat (a1)) := Oy.out.is_fine Nq.out HA.out (by omega) HN.out
        have eky := eey.1
        have Ny : Hid (Num y (a0 ^ Int.toNat (a1))) := eey.2
        subst eky
        clear Oy Nq eey
        clear Xq4
        go_wp2_with fail
        refine (of_any a0 _ (by omega) (by unfold BB; omega)).mono ?_
        rintro e w5 ⟨ro, rm, rc, r, rfl, hr, nr, -, b5⟩
        have Nr : Hid (Num r _) := nr
        clear nr
        have A5 : Hid (Below w.heap.size w w5) := chain A4.out b5
        have Xx5 : Hid (RowAt w5 xo xm xc []) := Xx4.out.below b5
        have Xy5 : Hid (RowAt w5 yo ym yc y) := Xy4.out.below b5
        have Xr5 : Hid (RowAt w5 ro rm rc r) := hr
        clear b5 A4 Xx4 Xy4 hr
        go_wp2_with fail
        refine (power_any _ _ _ r (a2) _ Xr5.out (by omega) (by omega)).mono ?_
        rintro e w6 ⟨zo, zm, zc, z, zk, rfl, hz, oz, b6⟩
        have Oz : Hid (PowOut r (a2) z zk) := oz
        clear oz
        have A6 : Hid (Below w.heap.size w w6) := chain A5.out b6
        have Xx6 : Hid (RowAt w6 xo xm xc []) := Xx5.out.below b6
        have Xy6 : Hid (RowAt w6 yo ym yc y) := Xy5.out.below b6
        have Xr6 : Hid (RowAt w6 ro rm rc r) := Xr5.out.below b6
        have Xz6 : Hid (RowAt w6 zo zm zc z) := hz
        clear b6 A5 Xx5 Xy5 Xr5 hz
        have eez : zk = 21 ∧ z = [] := Oz.out.is_over Nr.out HA.out (by omega) HM.out
        obtain ⟨ekz, elz⟩ := eez
        subst ekz
        subst elz
        clear Oz Nr
        clear Xr6
        go_wp2_with fail
        refine (nshown_any _).mono ?_
        rintro e w7 ⟨rfl, b7⟩
        have A7 : Hid (Below w.heap.size w w7) := chain A6.out b7
        have Xx7 : Hid (RowAt w7 xo xm xc []) := Xx6.out.below b7
        have Xy7 : Hid (RowAt w7 yo ym yc y) := Xy6.out.below b7
        have Xz7 : Hid (RowAt w7 zo zm zc []) := Xz6.out.below b7
        clear b7 A6 Xx6 Xy6 Xz6
        go_wp2
        go_ret
        exact ⟨rfl, A7.out⟩
    · have HN : Hid (Big ≤ a0 ^ a1.toNat) := hn
      clear hn
      rcases Int.lt_or_le (a0 ^ a2.toNat) Big with hm | hm
      · have HM : Hid (a0 ^ a2.toNat < Big) := hm
        clear hm
        go_enter Try.func6, Try.ntmps6
        go_wp2_with fail
        refine (of_any a0 _ (by omega) (by unfold BB; omega)).mono ?_
        rintro e w1 ⟨po, pm, pc, p, rfl, hp, np, -, b1⟩
        have Np : Hid (Num p _) := np
        clear np
        have A1 : Hid (Below w.heap.size w w1) := b1
        have Xp1 : Hid (RowAt w1 po pm pc p) := hp
        clear b1 hp
        go_wp2_with fail
        refine (power_any _ _ _ p (a1 + a2) _ Xp1.out (by omega) (by omega)).mono ?_
        rintro e w2 ⟨xo, xm, xc, x, xk, rfl, hx, ox, b2⟩
        have Ox : Hid (PowOut p (a1 + a2) x xk) := ox
        clear ox
        have A2 : Hid (Below w.heap.size w w2) := chain A1.out b2
        have Xp2 : Hid (RowAt w2 po pm pc p) := Xp1.out.below b2
        have Xx2 : Hid (RowAt w2 xo xm xc x) := hx
        clear b2 A1 Xp1 hx
        have eex : xk = 21 ∧ x = [] := Ox.out.is_over Np.out HA.out (by omega) HS.out
        obtain ⟨ekx, elx⟩ := eex
        subst ekx
        subst elx
        clear Ox Np
        clear Xp2
        go_wp2_with fail
        refine (of_any a0 _ (by omega) (by unfold BB; omega)).mono ?_
        rintro e w3 ⟨qo, qm, qc, q, rfl, hq, nq, -, b3⟩
        have Nq : Hid (Num q _) := nq
        clear nq
        have A3 : Hid (Below w.heap.size w w3) := chain A2.out b3
        have Xx3 : Hid (RowAt w3 xo xm xc []) := Xx2.out.below b3
        have Xq3 : Hid (RowAt w3 qo qm qc q) := hq
        clear b3 A2 Xx2 hq
        go_wp2_with fail
        refine (power_any _ _ _ q (a1) _ Xq3.out (by omega) (by omega)).mono ?_
        rintro e w4 ⟨yo, ym, yc, y, yk, rfl, hy, oy, b4⟩
        have Oy : Hid (PowOut q (a1) y yk) := oy
        clear oy
        have A4 : Hid (Below w.heap.size w w4) := chain A3.out b4
        have Xx4 : Hid (RowAt w4 xo xm xc []) := Xx3.out.below b4
        have Xq4 : Hid (RowAt w4 qo qm qc q) := Xq3.out.below b4
        have Xy4 : Hid (RowAt w4 yo ym yc y) := hy
        clear b4 A3 Xx3 Xq3 hy
        have eey : yk = 21 ∧ y = [] := Oy.out.is_over Nq.out HA.out (by omega) HN.out
        obtain ⟨eky, ely⟩ := eey
        subst eky
        subst ely
        clear Oy Nq
        clear Xq4
        go_wp2_with fail
        refine (of_any a0 _ (by omega) (by unfold BB; omega)).mono ?_
        rintro e w5 ⟨ro, rm, rc, r, rfl, hr, nr, -, b5⟩
        have Nr : Hid (Num r _) := nr
        clear nr
        have A5 : Hid (Below w.heap.size w w5) := chain A4.out b5
        have Xx5 : Hid (RowAt w5 xo xm xc []) := Xx4.out.below b5
        have Xy5 : Hid (RowAt w5 yo ym yc []) := Xy4.out.below b5
        have Xr5 : Hid (RowAt w5 ro rm rc r) := hr
        clear b5 A4 Xx4 Xy4 hr
        go_wp2_with fail
        refine (power_any _ _ _ r (a2) _ Xr5.out (by omega) (by omega)).mono ?_
        rintro e w6 ⟨zo, zm, zc, z, zk, rfl, hz, oz, b6⟩
        have Oz : Hid (PowOut r (a2) z zk) := oz
        clear oz
        have A6 : Hid (Below w.heap.size w w6) := chain A5.out b6
        have Xx6 : Hid (RowAt w6 xo xm xc []) := Xx5.out.below b6
        have Xy6 : Hid (RowAt w6 yo ym yc []) := Xy5.out.below b6
        have Xr6 : Hid (RowAt w6 ro rm rc r) := Xr5.out.below b6
        have Xz6 : Hid (RowAt w6 zo zm zc z) := hz
        clear b6 A5 Xx5 Xy5 Xr5 hz
        have eez : zk = 0 ∧ Num z (a0 ^ Int.toNat (a2)) := Oz.out.is_fine Nr.out HA.out (by omega) HM.out
        have ekz := eez.1
        have Nz : Hid (Num z (a0 ^ Int.toNat (a2))) := eez.2
        subst ekz
        clear Oz Nr eez
        clear Xr6
        go_wp2_with fail
        refine (nshown_any _).mono ?_
        rintro e w7 ⟨rfl, b7⟩
        have A7 : Hid (Below w.heap.size w w7) := chain A6.out b7
        have Xx7 : Hid (RowAt w7 xo xm xc []) := Xx6.out.below b7
        have Xy7 : Hid (RowAt w7 yo ym yc []) := Xy6.out.below b7
        have Xz7 : Hid (RowAt w7 zo zm zc z) := Xz6.out.below b7
        clear b7 A6 Xx6 Xy6 Xz6
        go_wp2
        go_ret
        exact ⟨rfl, A7.out⟩
      · have HM : Hid (Big ≤ a0 ^ a2.toNat) := hm
        clear hm
        go_enter Try.func6, Try.ntmps6
        go_wp2_with fail
        refine (of_any a0 _ (by omega) (by unfold BB; omega)).mono ?_
        rintro e w1 ⟨po, pm, pc, p, rfl, hp, np, -, b1⟩
        have Np : Hid (Num p _) := np
        clear np
        have A1 : Hid (Below w.heap.size w w1) := b1
        have Xp1 : Hid (RowAt w1 po pm pc p) := hp
        clear b1 hp
        go_wp2_with fail
        refine (power_any _ _ _ p (a1 + a2) _ Xp1.out (by omega) (by omega)).mono ?_
        rintro e w2 ⟨xo, xm, xc, x, xk, rfl, hx, ox, b2⟩
        have Ox : Hid (PowOut p (a1 + a2) x xk) := ox
        clear ox
        have A2 : Hid (Below w.heap.size w w2) := chain A1.out b2
        have Xp2 : Hid (RowAt w2 po pm pc p) := Xp1.out.below b2
        have Xx2 : Hid (RowAt w2 xo xm xc x) := hx
        clear b2 A1 Xp1 hx
        have eex : xk = 21 ∧ x = [] := Ox.out.is_over Np.out HA.out (by omega) HS.out
        obtain ⟨ekx, elx⟩ := eex
        subst ekx
        subst elx
        clear Ox Np
        clear Xp2
        go_wp2_with fail
        refine (of_any a0 _ (by omega) (by unfold BB; omega)).mono ?_
        rintro e w3 ⟨qo, qm, qc, q, rfl, hq, nq, -, b3⟩
        have Nq : Hid (Num q _) := nq
        clear nq
        have A3 : Hid (Below w.heap.size w w3) := chain A2.out b3
        have Xx3 : Hid (RowAt w3 xo xm xc []) := Xx2.out.below b3
        have Xq3 : Hid (RowAt w3 qo qm qc q) := hq
        clear b3 A2 Xx2 hq
        go_wp2_with fail
        refine (power_any _ _ _ q (a1) _ Xq3.out (by omega) (by omega)).mono ?_
        rintro e w4 ⟨yo, ym, yc, y, yk, rfl, hy, oy, b4⟩
        have Oy : Hid (PowOut q (a1) y yk) := oy
        clear oy
        have A4 : Hid (Below w.heap.size w w4) := chain A3.out b4
        have Xx4 : Hid (RowAt w4 xo xm xc []) := Xx3.out.below b4
        have Xq4 : Hid (RowAt w4 qo qm qc q) := Xq3.out.below b4
        have Xy4 : Hid (RowAt w4 yo ym yc y) := hy
        clear b4 A3 Xx3 Xq3 hy
        have eey : yk = 21 ∧ y = [] := Oy.out.is_over Nq.out HA.out (by omega) HN.out
        obtain ⟨eky, ely⟩ := eey
        subst eky
        subst ely
        clear Oy Nq
        clear Xq4
        go_wp2_with fail
        refine (of_any a0 _ (by omega) (by unfold BB; omega)).mono ?_
        rintro e w5 ⟨ro, rm, rc, r, rfl, hr, nr, -, b5⟩
        have Nr : Hid (Num r _) := nr
        clear nr
        have A5 : Hid (Below w.heap.size w w5) := chain A4.out b5
        have Xx5 : Hid (RowAt w5 xo xm xc []) := Xx4.out.below b5
        have Xy5 : Hid (RowAt w5 yo ym yc []) := Xy4.out.below b5
        have Xr5 : Hid (RowAt w5 ro rm rc r) := hr
        clear b5 A4 Xx4 Xy4 hr
        go_wp2_with fail
        refine (power_any _ _ _ r (a2) _ Xr5.out (by omega) (by omega)).mono ?_
        rintro e w6 ⟨zo, zm, zc, z, zk, rfl, hz, oz, b6⟩
        have Oz : Hid (PowOut r (a2) z zk) := oz
        clear oz
        have A6 : Hid (Below w.heap.size w w6) := chain A5.out b6
        have Xx6 : Hid (RowAt w6 xo xm xc []) := Xx5.out.below b6
        have Xy6 : Hid (RowAt w6 yo ym yc []) := Xy5.out.below b6
        have Xr6 : Hid (RowAt w6 ro rm rc r) := Xr5.out.below b6
        have Xz6 : Hid (RowAt w6 zo zm zc z) := hz
        clear b6 A5 Xx5 Xy5 Xr5 hz
        have eez : zk = 21 ∧ z = [] := Oz.out.is_over Nr.out HA.out (by omega) HM.out
        obtain ⟨ekz, elz⟩ := eez
        subst ekz
        subst elz
        clear Oz Nr
        clear Xr6
        go_wp2_with fail
        refine (nshown_any _).mono ?_
        rintro e w7 ⟨rfl, b7⟩
        have A7 : Hid (Below w.heap.size w w7) := chain A6.out b7
        have Xx7 : Hid (RowAt w7 xo xm xc []) := Xx6.out.below b7
        have Xy7 : Hid (RowAt w7 yo ym yc []) := Xy6.out.below b7
        have Xz7 : Hid (RowAt w7 zo zm zc []) := Xz6.out.below b7
        clear b7 A6 Xx6 Xy6 Xz6
        go_wp2
        go_ret
        exact ⟨rfl, A7.out⟩
  -- go_enter Try.func6, Try.ntmps6
  -- go_wp2
  -- go_ret

set_option maxRecDepth 100000 in
theorem lifted (os : Os) (started : os.Started) (H : Type) (enc : TypeId × Value → H) :
    ReturnsInHanded {} Try.checked os 6 .any (Rows.natSumsSpec.pre6 enc Try.prog Try.f6 Rows.natSumsRow.domain false) (Rows.natSumsSpec.post enc Try.prog Try.f6 false true false false) := by
  refine returnsInHanded_of_change (C := Try.checked) own started (by kernel_rfl) Try.func6
    (ChangeSpec.witness6 (enc := enc) (C := Try.checked) false ⟨#[], #[.int .u32 0, .int .u8 0, .int .u8 0], []⟩ 8 (by kernel_rfl) (by kernel_rfl) (by kernel_rfl) (by kernel_rfl)) ?_
  intro W base args ds gs before hval0 hW hcnd _
  have hval : ∀ (j : Nat) t v, Try.f6.params[j]? = some t → args[j]? = some v → Value.okWide Try.prog W .any base t v := hval0
  have hW' := hW
  obtain ⟨p, q, hA0, hV, rfl, hfz, hnd⟩ := hW
  have hA : DataW.TrodAll enc Try.prog W 0 (fun _ => true) true Try.f6.params.toList args.toList ds p := hA0
  rw [Try.params6] at hA hval
  obtain ⟨v0, vs0, d0, ds0, p0, q0, hargs, rfl, rfl, h0, r0⟩ := trodAll_cons hA
  obtain ⟨v1, vs1, d1, ds1, p1, q1, rfl, rfl, rfl, h1, r1⟩ := trodAll_cons r0
  obtain ⟨v2, vs2, d2, ds2, p2, q2, rfl, rfl, rfl, h2, r2⟩ := trodAll_cons r1
  obtain ⟨rfl, rfl, rfl⟩ := trodAll_nil r2
  obtain rfl : args = #[v0, v1, v2] := by cases args; simp_all
  obtain ⟨rfl, rfl⟩ := trodVars_none hV
  obtain ⟨a0, rfl, rfl, rfl, w0⟩ := open_int Try.underlying37 (hval 0 37 v0 rfl rfl) h0
  obtain ⟨a1, rfl, rfl, rfl, w1⟩ := open_int Try.underlying5 (hval 1 5 v1 rfl rfl) h1
  obtain ⟨a2, rfl, rfl, rfl, w2⟩ := open_int Try.underlying5 (hval 2 5 v2 rfl rfl) h2
  clear hA0 hval0
  refine (walk a0 a1 a2 w0 w1 w2 W).mono fun e W' ⟨he, hg⟩ => ?_
  subst he
  exact ⟨_, rfl, _, _, _, [], _, [], hW', trodAll_mk1 (shut_bool Try.underlying4 _), (trodAll_cons_mk (shut_int Try.underlying37 w0) (trodAll_cons_mk (shut_int Try.underlying5 w1) (trodAll_cons_mk (shut_int Try.underlying5 w2) trodAll_mk0))), rfl, hg.frame _, fun h => by cases h⟩

theorem over : Rows.natSumsRow.holds Try.pinned (OpenSpec.ofChange Rows.natSumsSpec) :=
  OpenClaim.holds_of_wide 6 Try.f6 rfl rfl rfl rfl rfl rfl rfl ⟨rfl, rfl, rfl, rfl, rfl⟩ rfl rfl rfl rfl rfl (by kernel_rfl) Try.func6 (by kernel_rfl)
    (of_decide_eq_true (by kernel_rfl)) (by unfold Func.isWrapper; first | (rw [if_pos (by decide +kernel)]; kernel_rfl) | (rw [if_neg (by decide +kernel)]; exact ⟨rfl, rfl⟩))
    (fun os started H enc _ => lifted os started H enc)

theorem proved : Rows.NatSumsSaid :=
  over
#print axioms proved
end Go.Proofs.Ytbmckhnnbfpdbaa.natSums
