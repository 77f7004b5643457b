/-
  Proved here: for every input QuotTells returns true, and leaves its arguments as they were. No condition.
-/
import Derived.Test.YteobmomoaekadaaRQuot
import Derived.Test.YteobmomoaekadaaCame
namespace Go.Proofs.Yteobmomoaekadaa.quotTells
open Go.ChangeShapes Go.WideShapes Go.ChangeAt Go.RowKit
open Go.ChangeMaps (open_string shut_string)
set_option linter.unusedVariables false

set_option maxRecDepth 100000 in
set_option maxHeartbeats 4000000 in
theorem walk (a0 : Option Addr) (len0 cap0 : Nat) (z0 : List Int) (a1 : Option Addr) (len1 cap1 : Nat) (z1 : List Int) (a2 : Int) (w : World) (w0 : IsRow .u64 w a0 len0 cap0 z0) (w1 : IsRow .u64 w a1 len1 cap1 z1) (w2 : (Lit.int .u64 a2).wf = true) :
    Calls Try.prog 3 #[.slice a0 len0 cap0, .slice a1 len1 cap1, .int .u64 a2] w fun e w' => e = .returned (.bool true) ∧ Below w.heap.size w w' := by
  have r0 := w0.row
  have r1 := w1.row
  generalize z0.take len0 = xs at r0
  generalize z1.take len1 = ys at r1
  have m0 : len0 ≤ maxLen := Nat.le_trans r0.fits r0.most
  have m1 : len1 ≤ maxLen := Nat.le_trans r1.fits r1.most
  clear w0 w1
  have R0 : Hid (RowAt w a0 len0 cap0 xs) := r0
  have R1 : Hid (RowAt w a1 len1 cap1 ys) := r1
  clear r0 r1
  have hwf := bounds_u64 w2
  clear w2
  unfold maxLen at m0 m1
  by_cases l0 : 20 < len0
  · have l0' : (20 : Int) < (len0 : Int) := by omega
    go_enter Try.func3, Try.ntmps3
    go_wp2_with fail
    refine (qshown_any _).mono ?_
    rintro e w1 ⟨rfl, b1⟩
    have B1 : Hid _ := b1
    clear b1
    go_wp2
    go_ret
    exact ⟨rfl, B1.out⟩
  · have l0' : ¬ (20 : Int) < (len0 : Int) := by omega
    by_cases l1 : 20 < len1
    · have l1' : (20 : Int) < (len1 : Int) := by omega
      go_enter Try.func3, Try.ntmps3
      go_wp2_with fail
      refine (qshown_any _).mono ?_
      rintro e w1 ⟨rfl, b1⟩
      have B1 : Hid _ := b1
      clear b1
      go_wp2
      go_ret
      exact ⟨rfl, B1.out⟩
    · have l1' : ¬ (20 : Int) < (len1 : Int) := by omega
      go_enter Try.func3, Try.ntmps3
      go_wp2_with fail
      refine (qshown_any _).mono ?_
      rintro e w1 ⟨rfl, b1⟩
      have A1 : Hid (Below w.heap.size w w1) := b1
      clear b1
      go_wp2_with fail
      refine (qdiv_any _ _ _ _ _ _ xs ys _ (R0.out.below A1.out) (R1.out.below A1.out)).mono ?_
      rintro e w2 ⟨qo, qm, qc, q, ro, rm, rc, r, qk, rfl, hq, hr, oq, b2⟩
      have Oq : Hid (DivOut xs ys q r qk) := oq
      clear oq
      have A2 : Hid (Below w.heap.size w w2) := chain A1.out b2
      have Xq2 : Hid (RowAt w2 qo qm qc q) := hq
      have Xr2 : Hid (RowAt w2 ro rm rc r) := hr
      clear b2 A1 hq hr
      go_wp2_with fail
      refine (rqdiv_any _ _ _ _ _ _ xs ys _ (R0.out.below A2.out) (R1.out.below A2.out)).mono ?_
      rintro e w3 ⟨po, pm, pc, p, so, sm, sc, s, pk, rfl, hp, hs, op, b3⟩
      have Op : Hid (DivOut xs ys p s pk) := op
      clear op
      have A3 : Hid (Below w.heap.size w w3) := chain A2.out b3
      have Xq3 : Hid (RowAt w3 qo qm qc q) := Xq2.out.below b3
      have Xr3 : Hid (RowAt w3 ro rm rc r) := Xr2.out.below b3
      have Xp3 : Hid (RowAt w3 po pm pc p) := hp
      have Xs3 : Hid (RowAt w3 so sm sc s) := hs
      clear b3 A2 Xq2 Xr2 hp hs
      have eqk := (Op.out.one Oq.out).2.2
      have Eq : Hid (q = p) := (Oq.out.one Op.out).1
      have Er : Hid (r = s) := (Oq.out.one Op.out).2.1
      subst eqk
      clear Op Oq
      go_wp2_with fail
      refine (qsmall_any _ _ _ xs a2 _ (R0.out.below A3.out) hwf.1 (by unfold BB; omega)).mono ?_
      rintro e w4 ⟨xo, xm, xc, x, xv, xk, rfl, hx, ox, b4⟩
      have Ox : Hid (SmallOut xs a2 x xv xk) := ox
      clear ox
      have A4 : Hid (Below w.heap.size w w4) := chain A3.out b4
      have Xq4 : Hid (RowAt w4 qo qm qc q) := Xq3.out.below b4
      have Xr4 : Hid (RowAt w4 ro rm rc r) := Xr3.out.below b4
      have Xp4 : Hid (RowAt w4 po pm pc p) := Xp3.out.below b4
      have Xs4 : Hid (RowAt w4 so sm sc s) := Xs3.out.below b4
      have Xx4 : Hid (RowAt w4 xo xm xc x) := hx
      clear b4 A3 Xq3 Xr3 Xp3 Xs3 hx
      go_wp2_with fail
      refine (rqsmall_any _ _ _ xs a2 _ (R0.out.below A4.out) hwf.1 (by unfold BB; omega)).mono ?_
      rintro e w5 ⟨zo, zm, zc, z, zv, zk, rfl, hz, oz, b5⟩
      have Oz : Hid (SmallOut xs a2 z zv zk) := oz
      clear oz
      have A5 : Hid (Below w.heap.size w w5) := chain A4.out b5
      have Xq5 : Hid (RowAt w5 qo qm qc q) := Xq4.out.below b5
      have Xr5 : Hid (RowAt w5 ro rm rc r) := Xr4.out.below b5
      have Xp5 : Hid (RowAt w5 po pm pc p) := Xp4.out.below b5
      have Xs5 : Hid (RowAt w5 so sm sc s) := Xs4.out.below b5
      have Xx5 : Hid (RowAt w5 xo xm xc x) := Xx4.out.below b5
      have Xz5 : Hid (RowAt w5 zo zm zc z) := hz
      clear b5 A4 Xq4 Xr4 Xp4 Xs4 Xx4 hz
      have ezk := (Oz.out.one Ox.out).2.2
      have ezv := (Oz.out.one Ox.out).2.1
      have Ez : Hid (x = z) := (Ox.out.one Oz.out).1
      subst ezk
      subst ezv
      clear Ox Oz
      go_wp2_with fail
      refine (rnsame_yes _ _ _ _ _ _ q p _ Xq5.out Xp5.out Eq.out).mono ?_
      rintro e w6 ⟨rfl, b6⟩
      have A6 : Hid (Below w.heap.size w w6) := chain A5.out b6
      have Xq6 : Hid (RowAt w6 qo qm qc q) := Xq5.out.below b6
      have Xr6 : Hid (RowAt w6 ro rm rc r) := Xr5.out.below b6
      have Xp6 : Hid (RowAt w6 po pm pc p) := Xp5.out.below b6
      have Xs6 : Hid (RowAt w6 so sm sc s) := Xs5.out.below b6
      have Xx6 : Hid (RowAt w6 xo xm xc x) := Xx5.out.below b6
      have Xz6 : Hid (RowAt w6 zo zm zc z) := Xz5.out.below b6
      clear b6 A5 Xq5 Xr5 Xp5 Xs5 Xx5 Xz5
      clear Xq6
      clear Xp6
      go_wp2_with fail
      refine (rnsame_yes _ _ _ _ _ _ r s _ Xr6.out Xs6.out Er.out).mono ?_
      rintro e w7 ⟨rfl, b7⟩
      have A7 : Hid (Below w.heap.size w w7) := chain A6.out b7
      have Xr7 : Hid (RowAt w7 ro rm rc r) := Xr6.out.below b7
      have Xs7 : Hid (RowAt w7 so sm sc s) := Xs6.out.below b7
      have Xx7 : Hid (RowAt w7 xo xm xc x) := Xx6.out.below b7
      have Xz7 : Hid (RowAt w7 zo zm zc z) := Xz6.out.below b7
      clear b7 A6 Xr6 Xs6 Xx6 Xz6
      clear Xr7
      clear Xs7
      go_wp2_with fail
      refine (rnsame_yes _ _ _ _ _ _ x z _ Xx7.out Xz7.out Ez.out).mono ?_
      rintro e w8 ⟨rfl, b8⟩
      have A8 : Hid (Below w.heap.size w w8) := chain A7.out b8
      have Xx8 : Hid (RowAt w8 xo xm xc x) := Xx7.out.below b8
      have Xz8 : Hid (RowAt w8 zo zm zc z) := Xz7.out.below b8
      clear b8 A7 Xx7 Xz7
      clear Xx8
      clear Xz8
      go_wp2
      go_ret
      exact ⟨rfl, A8.out⟩

set_option maxRecDepth 100000 in
theorem lifted (os : Os) (started : os.Started) (H : Type) (enc : TypeId × Value → H) :
    ReturnsInHanded {} Try.checked os 3 .any (Rows.quotTellsSpec.pre6 enc Try.prog Try.f3 Rows.quotTellsRow.domain false) (Rows.quotTellsSpec.post enc Try.prog Try.f3 false true false false) := by
  refine returnsInHanded_of_change (C := Try.checked) own started (by kernel_rfl) Try.func3
    (ChangeSpec.witness6 (enc := enc) (C := Try.checked) false ⟨#[], #[.slice none 0 0, .slice none 0 0, .int .u64 0], []⟩ 8 (by kernel_rfl) (by kernel_rfl) (by kernel_rfl) (by kernel_rfl)) ?_
  intro W base args ds gs before hval0 hW hcnd _
  have hval : ∀ (j : Nat) t v, Try.f3.params[j]? = some t → args[j]? = some v → Value.okWide Try.prog W .any base t v := hval0
  have hW' := hW
  obtain ⟨p, q, hA0, hV, rfl, hfz, hnd⟩ := hW
  have hA : DataW.TrodAll enc Try.prog W 0 (fun _ => true) true Try.f3.params.toList args.toList ds p := hA0
  rw [Try.params3] at hA hval
  obtain ⟨v0, vs0, d0, ds0, p0, q0, hargs, rfl, rfl, h0, r0⟩ := trodAll_cons hA
  obtain ⟨v1, vs1, d1, ds1, p1, q1, rfl, rfl, rfl, h1, r1⟩ := trodAll_cons r0
  obtain ⟨v2, vs2, d2, ds2, p2, q2, rfl, rfl, rfl, h2, r2⟩ := trodAll_cons r1
  obtain ⟨rfl, rfl, rfl⟩ := trodAll_nil r2
  obtain rfl : args = #[v0, v1, v2] := by cases args; simp_all
  obtain ⟨rfl, rfl⟩ := trodVars_none hV
  obtain ⟨a0, len0, cap0, rfl⟩ := okWide_slice Try.underlying23 (hval 0 23 v0 rfl rfl)
  have k0 := h0
  have lt0 : ∀ x ∈ p0, x.block < W.heap.size := by obtain ⟨m, hm⟩ := k0; exact DataW.trod_lt m _ _ _ hm
  obtain ⟨z0, w0⟩ : ∃ zs, IsRow .u64 W a0 len0 cap0 zs := by
    obtain ⟨fuel, hf⟩ := h0
    rcases open_ints Try.underlying23 Try.underlying24 (by kernel_rfl) hf with ⟨hcs, _⟩ | ⟨x, l, c, zs, hcs, _, hl, hm, hz, _, hcell, hwz⟩
    · simp [Value.cells] at hcs
      obtain ⟨rfl, rfl, rfl⟩ := hcs
      exact ⟨[], .inl ⟨rfl, rfl, rfl, rfl⟩⟩
    · simp [Value.cells] at hcs
      obtain ⟨rfl, rfl, rfl⟩ := hcs
      exact ⟨zs, .inr ⟨_, rfl, hl, hm, by simpa using hz, hcell, hwz⟩⟩
  obtain ⟨a1, len1, cap1, rfl⟩ := okWide_slice Try.underlying23 (hval 1 23 v1 rfl rfl)
  have k1 := h1
  have lt1 : ∀ x ∈ p1, x.block < W.heap.size := by obtain ⟨m, hm⟩ := k1; exact DataW.trod_lt m _ _ _ hm
  obtain ⟨z1, w1⟩ : ∃ zs, IsRow .u64 W a1 len1 cap1 zs := by
    obtain ⟨fuel, hf⟩ := h1
    rcases open_ints Try.underlying23 Try.underlying24 (by kernel_rfl) hf with ⟨hcs, _⟩ | ⟨x, l, c, zs, hcs, _, hl, hm, hz, _, hcell, hwz⟩
    · simp [Value.cells] at hcs
      obtain ⟨rfl, rfl, rfl⟩ := hcs
      exact ⟨[], .inl ⟨rfl, rfl, rfl, rfl⟩⟩
    · simp [Value.cells] at hcs
      obtain ⟨rfl, rfl, rfl⟩ := hcs
      exact ⟨zs, .inr ⟨_, rfl, hl, hm, by simpa using hz, hcell, hwz⟩⟩
  obtain ⟨a2, rfl, rfl, rfl, w2⟩ := open_int Try.underlying24 (hval 2 24 v2 rfl rfl) h2
  clear hA0 hval0
  refine (walk a0 len0 cap0 z0 a1 len1 cap1 z1 a2 W w0 w1 w2).mono fun e W' ⟨he, bel⟩ => ?_
  subst he
  exact ⟨_, rfl, _, _, _, [], _, [], hW', trodAll_mk1 (shut_bool Try.underlying4 _), (trodAll_cons_mk (Below.trod laidOut (by kernel_rfl) (of_decide_eq_true (by kernel_rfl)) k0 bel lt0) (trodAll_cons_mk (Below.trod laidOut (by kernel_rfl) (of_decide_eq_true (by kernel_rfl)) k1 bel lt1) (trodAll_cons_mk (shut_int Try.underlying24 w2) trodAll_mk0))), rfl, bel.frame _, fun h => by cases h⟩

theorem over : Rows.quotTellsRow.holds Try.pinned (OpenSpec.ofChange Rows.quotTellsSpec) :=
  OpenClaim.holds_of_wide 3 Try.f3 rfl rfl rfl rfl rfl rfl rfl ⟨rfl, rfl, rfl, rfl, rfl⟩ rfl rfl rfl rfl rfl (by kernel_rfl) Try.func3 (by kernel_rfl)
    (of_decide_eq_true (by kernel_rfl)) (by unfold Func.isWrapper; first | (rw [if_pos (by decide +kernel)]; kernel_rfl) | (rw [if_neg (by decide +kernel)]; exact ⟨rfl, rfl⟩))
    (fun os started H enc _ => lifted os started H enc)

theorem proved : Rows.QuotTellsSaid := over
#print axioms proved
end Go.Proofs.Yteobmomoaekadaa.quotTells
