/-
  Proved here: for every input NatTells returns true, and leaves its arguments as they were. No condition.
-/
import Derived.Test.YtbmckhnnbfpdbaaCame
import Derived.Test.YtbmckhnnbfpdbaaNatShown
import Derived.Test.YtbmckhnnbfpdbaaRPower
namespace Go.Proofs.Ytbmckhnnbfpdbaa.natTells
open Go.ChangeShapes Go.WideShapes Go.ChangeAt Go.RowKit
open Go.ChangeMaps (open_string shut_string)
set_option linter.unusedVariables false

set_option maxRecDepth 100000 in
set_option maxHeartbeats 4000000 in
theorem walk (a0 : Option Addr) (len0 cap0 : Nat) (z0 : List Int) (a1 : Option Addr) (len1 cap1 : Nat) (z1 : List Int) (a2 : Int) (w : World) (w0 : IsRow .u64 w a0 len0 cap0 z0) (w1 : IsRow .u64 w a1 len1 cap1 z1) (w2 : (Lit.int .u64 a2).wf = true) :
    Calls Try.prog 3 #[.slice a0 len0 cap0, .slice a1 len1 cap1, .int .u64 a2] w fun e w' => e = .returned (.bool true) ∧ Below w.heap.size w w' := by
  have r0 := w0.row
  have r1 := w1.row
  generalize z0.take len0 = xs at r0
  generalize z1.take len1 = ys at r1
  have m0 : len0 ≤ maxLen := Nat.le_trans r0.fits r0.most
  have m1 : len1 ≤ maxLen := Nat.le_trans r1.fits r1.most
  clear w0 w1
  have R0 : Hid (RowAt w a0 len0 cap0 xs) := r0
  have R1 : Hid (RowAt w a1 len1 cap1 ys) := r1
  clear r0 r1
  have hwf := bounds_u64 w2
  clear w2
  obtain ⟨mb, hmb⟩ := may_ex xs
  have HMB : Hid (mb = true ↔ May xs) := hmb
  obtain ⟨cv, hcv⟩ : ∃ c, c = cmpI (val xs) (val ys) := ⟨_, rfl⟩
  have HC : Hid (cv = cmpI (val xs) (val ys)) := hcv
  clear hmb hcv
  unfold maxLen at m0 m1
  by_cases l0 : 20 < len0
  · have l0' : (20 : Int) < (len0 : Int) := by omega
    go_enter Try.func3, Try.ntmps3
    go_wp2_with fail
    refine (nshown_any _).mono ?_
    rintro e w1 ⟨rfl, b1⟩
    have B1 : Hid _ := b1
    clear b1
    go_wp2
    go_ret
    exact ⟨rfl, B1.out⟩
  · have l0' : ¬ (20 : Int) < (len0 : Int) := by omega
    by_cases l1 : 20 < len1
    · have l1' : (20 : Int) < (len1 : Int) := by omega
      go_enter Try.func3, Try.ntmps3
      go_wp2_with fail
      refine (nshown_any _).mono ?_
      rintro e w1 ⟨rfl, b1⟩
      have B1 : Hid _ := b1
      clear b1
      go_wp2
      go_ret
      exact ⟨rfl, B1.out⟩
    · have l1' : ¬ (20 : Int) < (len1 : Int) := by omega
      go_enter Try.func3, Try.ntmps3
      go_wp2_with fail
      refine (nshown_any _).mono ?_
      rintro e w1 ⟨rfl, b1⟩
      have A1 : Hid (Below w.heap.size w w1) := b1
      clear b1
      go_wp2_with fail
      refine (nadd_any _ _ _ _ _ _ xs ys _ (R0.out.below A1.out) (R1.out.below A1.out)).mono ?_
      rintro e w2 ⟨xo, xm, xc, x, xk, rfl, hx, ox, b2⟩
      have Ox : Hid _ := ox
      clear ox
      have A2 : Hid (Below w.heap.size w w2) := chain A1.out b2
      have Xx2 : Hid (RowAt w2 xo xm xc x) := hx
      clear b2 A1 hx
      go_wp2_with fail
      refine (rnadd_any _ _ _ _ _ _ xs ys _ (R0.out.below A2.out) (R1.out.below A2.out)).mono ?_
      rintro e w3 ⟨yo, ym, yc, y, yk, rfl, hy, oy, b3⟩
      have Oy : Hid _ := oy
      clear oy
      have A3 : Hid (Below w.heap.size w w3) := chain A2.out b3
      have Xx3 : Hid (RowAt w3 xo xm xc x) := Xx2.out.below b3
      have Xy3 : Hid (RowAt w3 yo ym yc y) := hy
      clear b3 A2 Xx2 hy
      have eqy := (Oy.out.one Ox.out).2
      have Ey : Hid (x = y) := (Ox.out.one Oy.out).1
      subst eqy
      clear Ox Oy
      go_wp2_with fail
      refine (nsub_any _ _ _ _ _ _ xs ys _ (R0.out.below A3.out) (R1.out.below A3.out)).mono ?_
      rintro e w4 ⟨po, pm, pc, p, pk, rfl, hp, op, b4⟩
      have Op : Hid _ := op
      clear op
      have A4 : Hid (Below w.heap.size w w4) := chain A3.out b4
      have Xx4 : Hid (RowAt w4 xo xm xc x) := Xx3.out.below b4
      have Xy4 : Hid (RowAt w4 yo ym yc y) := Xy3.out.below b4
      have Xp4 : Hid (RowAt w4 po pm pc p) := hp
      clear b4 A3 Xx3 Xy3 hp
      go_wp2_with fail
      refine (rnsub_any _ _ _ _ _ _ xs ys _ (R0.out.below A4.out) (R1.out.below A4.out)).mono ?_
      rintro e w5 ⟨qo, qm, qc, q, qk, rfl, hq, oq, b5⟩
      have Oq : Hid _ := oq
      clear oq
      have A5 : Hid (Below w.heap.size w w5) := chain A4.out b5
      have Xx5 : Hid (RowAt w5 xo xm xc x) := Xx4.out.below b5
      have Xy5 : Hid (RowAt w5 yo ym yc y) := Xy4.out.below b5
      have Xp5 : Hid (RowAt w5 po pm pc p) := Xp4.out.below b5
      have Xq5 : Hid (RowAt w5 qo qm qc q) := hq
      clear b5 A4 Xx4 Xy4 Xp4 hq
      have eqq := (Oq.out.one Op.out).2
      have Eq : Hid (p = q) := (Op.out.one Oq.out).1
      subst eqq
      clear Op Oq
      go_wp2_with fail
      refine (nmul_any _ _ _ _ _ _ xs ys _ (R0.out.below A5.out) (R1.out.below A5.out)).mono ?_
      rintro e w6 ⟨ro, rm, rc, r, rk, rfl, hr, or, b6⟩
      have Or : Hid _ := or
      clear or
      have A6 : Hid (Below w.heap.size w w6) := chain A5.out b6
      have Xx6 : Hid (RowAt w6 xo xm xc x) := Xx5.out.below b6
      have Xy6 : Hid (RowAt w6 yo ym yc y) := Xy5.out.below b6
      have Xp6 : Hid (RowAt w6 po pm pc p) := Xp5.out.below b6
      have Xq6 : Hid (RowAt w6 qo qm qc q) := Xq5.out.below b6
      have Xr6 : Hid (RowAt w6 ro rm rc r) := hr
      clear b6 A5 Xx5 Xy5 Xp5 Xq5 hr
      go_wp2_with fail
      refine (rnmul_any _ _ _ _ _ _ xs ys _ (R0.out.below A6.out) (R1.out.below A6.out)).mono ?_
      rintro e w7 ⟨so, sm, sc, s, sk, rfl, hs, os, b7⟩
      have Os : Hid _ := os
      clear os
      have A7 : Hid (Below w.heap.size w w7) := chain A6.out b7
      have Xx7 : Hid (RowAt w7 xo xm xc x) := Xx6.out.below b7
      have Xy7 : Hid (RowAt w7 yo ym yc y) := Xy6.out.below b7
      have Xp7 : Hid (RowAt w7 po pm pc p) := Xp6.out.below b7
      have Xq7 : Hid (RowAt w7 qo qm qc q) := Xq6.out.below b7
      have Xr7 : Hid (RowAt w7 ro rm rc r) := Xr6.out.below b7
      have Xs7 : Hid (RowAt w7 so sm sc s) := hs
      clear b7 A6 Xx6 Xy6 Xp6 Xq6 Xr6 hs
      have eqs := (Os.out.one Or.out).2
      have Es : Hid (r = s) := (Or.out.one Os.out).1
      subst eqs
      clear Or Os
      go_wp2_with fail
      refine (rnsame_yes _ _ _ _ _ _ x y _ Xx7.out Xy7.out Ey.out).mono ?_
      rintro e w8 ⟨rfl, b8⟩
      have A8 : Hid (Below w.heap.size w w8) := chain A7.out b8
      have Xx8 : Hid (RowAt w8 xo xm xc x) := Xx7.out.below b8
      have Xy8 : Hid (RowAt w8 yo ym yc y) := Xy7.out.below b8
      have Xp8 : Hid (RowAt w8 po pm pc p) := Xp7.out.below b8
      have Xq8 : Hid (RowAt w8 qo qm qc q) := Xq7.out.below b8
      have Xr8 : Hid (RowAt w8 ro rm rc r) := Xr7.out.below b8
      have Xs8 : Hid (RowAt w8 so sm sc s) := Xs7.out.below b8
      clear b8 A7 Xx7 Xy7 Xp7 Xq7 Xr7 Xs7
      clear Xx8
      clear Xy8
      go_wp2_with fail
      refine (rnsame_yes _ _ _ _ _ _ p q _ Xp8.out Xq8.out Eq.out).mono ?_
      rintro e w9 ⟨rfl, b9⟩
      have A9 : Hid (Below w.heap.size w w9) := chain A8.out b9
      have Xp9 : Hid (RowAt w9 po pm pc p) := Xp8.out.below b9
      have Xq9 : Hid (RowAt w9 qo qm qc q) := Xq8.out.below b9
      have Xr9 : Hid (RowAt w9 ro rm rc r) := Xr8.out.below b9
      have Xs9 : Hid (RowAt w9 so sm sc s) := Xs8.out.below b9
      clear b9 A8 Xp8 Xq8 Xr8 Xs8
      clear Xp9
      clear Xq9
      go_wp2_with fail
      refine (rnsame_yes _ _ _ _ _ _ r s _ Xr9.out Xs9.out Es.out).mono ?_
      rintro e w10 ⟨rfl, b10⟩
      have A10 : Hid (Below w.heap.size w w10) := chain A9.out b10
      have Xr10 : Hid (RowAt w10 ro rm rc r) := Xr9.out.below b10
      have Xs10 : Hid (RowAt w10 so sm sc s) := Xs9.out.below b10
      clear b10 A9 Xr9 Xs9
      clear Xr10
      clear Xs10
      go_wp2_with fail
      refine (may_val _ _ _ xs _ (R0.out.below A10.out) mb HMB.out).mono ?_
      rintro e w' ⟨rfl, rfl⟩
      go_wp2_with fail
      refine (rmay_val _ _ _ xs _ (R0.out.below A10.out) mb HMB.out).mono ?_
      rintro e w' ⟨rfl, rfl⟩
      go_wp2_with fail
      refine (ncmp_val _ _ _ _ _ _ xs ys _ (R0.out.below A10.out) (R1.out.below A10.out) (by omega) (by omega) cv HC.out).mono ?_
      rintro e w11 ⟨rfl, b11⟩
      have A11 : Hid (Below w.heap.size w w11) := chain A10.out b11
      clear b11 A10
      go_wp2_with fail
      refine (rncmp_val _ _ _ _ _ _ xs ys _ (R0.out.below A11.out) (R1.out.below A11.out) (by omega) (by omega) cv HC.out).mono ?_
      rintro e w12 ⟨rfl, b12⟩
      have A12 : Hid (Below w.heap.size w w12) := chain A11.out b12
      clear b12 A11
      go_wp2_with fail
      refine (of_any a2 _ hwf.1 (by unfold BB; omega)).mono ?_
      rintro e w13 ⟨uo, um, uc, u, rfl, hu, nu, -, b13⟩
      have Nu : Hid (Num u _) := nu
      clear nu
      have A13 : Hid (Below w.heap.size w w13) := chain A12.out b13
      have Xu13 : Hid (RowAt w13 uo um uc u) := hu
      clear b13 A12 hu
      go_wp2_with fail
      refine (rof_any a2 _ hwf.1 (by unfold BB; omega)).mono ?_
      rintro e w14 ⟨vo, vm, vc, v, rfl, hv, nv, -, b14⟩
      have Nv : Hid (Num v _) := nv
      clear nv
      have A14 : Hid (Below w.heap.size w w14) := chain A13.out b14
      have Xu14 : Hid (RowAt w14 uo um uc u) := Xu13.out.below b14
      have Xv14 : Hid (RowAt w14 vo vm vc v) := hv
      clear b14 A13 Xu13 hv
      go_wp2_with fail
      refine (rnsame_yes _ _ _ _ _ _ u v _ Xu14.out Xv14.out (Nu.out.one Nv.out)).mono ?_
      rintro e w15 ⟨rfl, b15⟩
      have A15 : Hid (Below w.heap.size w w15) := chain A14.out b15
      have Xu15 : Hid (RowAt w15 uo um uc u) := Xu14.out.below b15
      have Xv15 : Hid (RowAt w15 vo vm vc v) := Xv14.out.below b15
      clear b15 A14 Xu14 Xv14
      go_wp2
      go_ret
      exact ⟨rfl, A15.out⟩

set_option maxRecDepth 100000 in
theorem lifted (os : Os) (started : os.Started) (H : Type) (enc : TypeId × Value → H) :
    ReturnsInHanded {} Try.checked os 3 .any (Rows.natTellsSpec.pre6 enc Try.prog Try.f3 Rows.natTellsRow.domain false) (Rows.natTellsSpec.post enc Try.prog Try.f3 false true false false) := by
  refine returnsInHanded_of_change (C := Try.checked) own started (by kernel_rfl) Try.func3
    (ChangeSpec.witness6 (enc := enc) (C := Try.checked) false ⟨#[], #[.slice none 0 0, .slice none 0 0, .int .u64 0], []⟩ 8 (by kernel_rfl) (by kernel_rfl) (by kernel_rfl) (by kernel_rfl)) ?_
  intro W base args ds gs before hval0 hW hcnd _
  have hval : ∀ (j : Nat) t v, Try.f3.params[j]? = some t → args[j]? = some v → Value.okWide Try.prog W .any base t v := hval0
  have hW' := hW
  obtain ⟨p, q, hA0, hV, rfl, hfz, hnd⟩ := hW
  have hA : DataW.TrodAll enc Try.prog W 0 (fun _ => true) true Try.f3.params.toList args.toList ds p := hA0
  rw [Try.params3] at hA hval
  obtain ⟨v0, vs0, d0, ds0, p0, q0, hargs, rfl, rfl, h0, r0⟩ := trodAll_cons hA
  obtain ⟨v1, vs1, d1, ds1, p1, q1, rfl, rfl, rfl, h1, r1⟩ := trodAll_cons r0
  obtain ⟨v2, vs2, d2, ds2, p2, q2, rfl, rfl, rfl, h2, r2⟩ := trodAll_cons r1
  obtain ⟨rfl, rfl, rfl⟩ := trodAll_nil r2
  obtain rfl : args = #[v0, v1, v2] := by cases args; simp_all
  obtain ⟨rfl, rfl⟩ := trodVars_none hV
  obtain ⟨a0, len0, cap0, rfl⟩ := okWide_slice Try.underlying23 (hval 0 23 v0 rfl rfl)
  have k0 := h0
  have lt0 : ∀ x ∈ p0, x.block < W.heap.size := by obtain ⟨m, hm⟩ := k0; exact DataW.trod_lt m _ _ _ hm
  obtain ⟨z0, w0⟩ : ∃ zs, IsRow .u64 W a0 len0 cap0 zs := by
    obtain ⟨fuel, hf⟩ := h0
    rcases open_ints Try.underlying23 Try.underlying24 (by kernel_rfl) hf with ⟨hcs, _⟩ | ⟨x, l, c, zs, hcs, _, hl, hm, hz, _, hcell, hwz⟩
    · simp [Value.cells] at hcs
      obtain ⟨rfl, rfl, rfl⟩ := hcs
      exact ⟨[], .inl ⟨rfl, rfl, rfl, rfl⟩⟩
    · simp [Value.cells] at hcs
      obtain ⟨rfl, rfl, rfl⟩ := hcs
      exact ⟨zs, .inr ⟨_, rfl, hl, hm, by simpa using hz, hcell, hwz⟩⟩
  obtain ⟨a1, len1, cap1, rfl⟩ := okWide_slice Try.underlying23 (hval 1 23 v1 rfl rfl)
  have k1 := h1
  have lt1 : ∀ x ∈ p1, x.block < W.heap.size := by obtain ⟨m, hm⟩ := k1; exact DataW.trod_lt m _ _ _ hm
  obtain ⟨z1, w1⟩ : ∃ zs, IsRow .u64 W a1 len1 cap1 zs := by
    obtain ⟨fuel, hf⟩ := h1
    rcases open_ints Try.underlying23 Try.underlying24 (by kernel_rfl) hf with ⟨hcs, _⟩ | ⟨x, l, c, zs, hcs, _, hl, hm, hz, _, hcell, hwz⟩
    · simp [Value.cells] at hcs
      obtain ⟨rfl, rfl, rfl⟩ := hcs
      exact ⟨[], .inl ⟨rfl, rfl, rfl, rfl⟩⟩
    · simp [Value.cells] at hcs
      obtain ⟨rfl, rfl, rfl⟩ := hcs
      exact ⟨zs, .inr ⟨_, rfl, hl, hm, by simpa using hz, hcell, hwz⟩⟩
  obtain ⟨a2, rfl, rfl, rfl, w2⟩ := open_int Try.underlying24 (hval 2 24 v2 rfl rfl) h2
  clear hA0 hval0
  refine (walk a0 len0 cap0 z0 a1 len1 cap1 z1 a2 W w0 w1 w2).mono fun e W' ⟨he, bel⟩ => ?_
  subst he
  exact ⟨_, rfl, _, _, _, [], _, [], hW', trodAll_mk1 (shut_bool Try.underlying4 _), (trodAll_cons_mk (Below.trod laidOut (by kernel_rfl) (of_decide_eq_true (by kernel_rfl)) k0 bel lt0) (trodAll_cons_mk (Below.trod laidOut (by kernel_rfl) (of_decide_eq_true (by kernel_rfl)) k1 bel lt1) (trodAll_cons_mk (shut_int Try.underlying24 w2) trodAll_mk0))), rfl, bel.frame _, fun h => by cases h⟩

theorem over : Rows.natTellsRow.holds Try.pinned (OpenSpec.ofChange Rows.natTellsSpec) :=
  OpenClaim.holds_of_wide 3 Try.f3 rfl rfl rfl rfl rfl rfl rfl ⟨rfl, rfl, rfl, rfl, rfl⟩ rfl rfl rfl rfl rfl (by kernel_rfl) Try.func3 (by kernel_rfl)
    (of_decide_eq_true (by kernel_rfl)) (by unfold Func.isWrapper; first | (rw [if_pos (by decide +kernel)]; kernel_rfl) | (rw [if_neg (by decide +kernel)]; exact ⟨rfl, rfl⟩))
    (fun os started H enc _ => lifted os started H enc)

theorem proved : Rows.NatTellsSaid := over
#print axioms proved
end Go.Proofs.Ytbmckhnnbfpdbaa.natTells
