/-
  Proved here: for every input QuotCommon returns true, and leaves its arguments as they were. No condition.
-/
import Derived.Test.YteobmomoaekadaaRQuot
import Derived.Test.YteobmomoaekadaaCame
namespace Go.Proofs.Yteobmomoaekadaa.quotCommon
open Go.ChangeShapes Go.WideShapes Go.ChangeAt Go.RowKit
open Go.ChangeMaps (open_string shut_string)
set_option linter.unusedVariables false

set_option maxRecDepth 100000 in
set_option maxHeartbeats 4000000 in
theorem walk (a0 : Option Addr) (len0 cap0 : Nat) (z0 : List Int) (a1 : Option Addr) (len1 cap1 : Nat) (z1 : List Int) (w : World) (w0 : IsRow .u64 w a0 len0 cap0 z0) (w1 : IsRow .u64 w a1 len1 cap1 z1) :
    Calls Try.prog 4 #[.slice a0 len0 cap0, .slice a1 len1 cap1] w fun e w' => e = .returned (.bool true) ∧ Below w.heap.size w w' := by
  have r0 := w0.row
  have r1 := w1.row
  generalize z0.take len0 = xs at r0
  generalize z1.take len1 = ys at r1
  have m0 : len0 ≤ maxLen := Nat.le_trans r0.fits r0.most
  have m1 : len1 ≤ maxLen := Nat.le_trans r1.fits r1.most
  clear w0 w1
  have R0 : Hid (RowAt w a0 len0 cap0 xs) := r0
  have R1 : Hid (RowAt w a1 len1 cap1 ys) := r1
  clear r0 r1
  unfold maxLen at m0 m1
  by_cases l0 : 20 < len0
  · have l0' : (20 : Int) < (len0 : Int) := by omega
    go_enter Try.func4, Try.ntmps4
    go_wp2_with fail
    refine (qshown_any _).mono ?_
    rintro e w1 ⟨rfl, b1⟩
    have B1 : Hid _ := b1
    clear b1
    go_wp2
    go_ret
    exact ⟨rfl, B1.out⟩
  · have l0' : ¬ (20 : Int) < (len0 : Int) := by omega
    by_cases l1 : 20 < len1
    · have l1' : (20 : Int) < (len1 : Int) := by omega
      go_enter Try.func4, Try.ntmps4
      go_wp2_with fail
      refine (qshown_any _).mono ?_
      rintro e w1 ⟨rfl, b1⟩
      have B1 : Hid _ := b1
      clear b1
      go_wp2
      go_ret
      exact ⟨rfl, B1.out⟩
    · have l1' : ¬ (20 : Int) < (len1 : Int) := by omega
      go_enter Try.func4, Try.ntmps4
      go_wp2_with fail
      refine (qshown_any _).mono ?_
      rintro e w1 ⟨rfl, b1⟩
      have A1 : Hid (Below w.heap.size w w1) := b1
      clear b1
      go_wp2_with fail
      refine (qgcd_any _ _ _ _ _ _ xs ys _ (R0.out.below A1.out) (R1.out.below A1.out)).mono ?_
      rintro e w2 ⟨xo, xm, xc, x, xk, rfl, hx, ox, b2⟩
      have Ox : Hid _ := ox
      clear ox
      have A2 : Hid (Below w.heap.size w w2) := chain A1.out b2
      have Xx2 : Hid (RowAt w2 xo xm xc x) := hx
      clear b2 A1 hx
      go_wp2_with fail
      refine (rqgcd_any _ _ _ _ _ _ xs ys _ (R0.out.below A2.out) (R1.out.below A2.out)).mono ?_
      rintro e w3 ⟨yo, ym, yc, y, yk, rfl, hy, oy, b3⟩
      have Oy : Hid _ := oy
      clear oy
      have A3 : Hid (Below w.heap.size w w3) := chain A2.out b3
      have Xx3 : Hid (RowAt w3 xo xm xc x) := Xx2.out.below b3
      have Xy3 : Hid (RowAt w3 yo ym yc y) := hy
      clear b3 A2 Xx2 hy
      have eqy := (Oy.out.one Ox.out).2
      have Ey : Hid (x = y) := (Ox.out.one Oy.out).1
      subst eqy
      clear Ox Oy
      go_wp2_with fail
      refine (qlcm_any _ _ _ _ _ _ xs ys _ (R0.out.below A3.out) (R1.out.below A3.out)).mono ?_
      rintro e w4 ⟨po, pm, pc, p, pk, rfl, hp, op, b4⟩
      have Op : Hid _ := op
      clear op
      have A4 : Hid (Below w.heap.size w w4) := chain A3.out b4
      have Xx4 : Hid (RowAt w4 xo xm xc x) := Xx3.out.below b4
      have Xy4 : Hid (RowAt w4 yo ym yc y) := Xy3.out.below b4
      have Xp4 : Hid (RowAt w4 po pm pc p) := hp
      clear b4 A3 Xx3 Xy3 hp
      go_wp2_with fail
      refine (rqlcm_any _ _ _ _ _ _ xs ys _ (R0.out.below A4.out) (R1.out.below A4.out)).mono ?_
      rintro e w5 ⟨qo, qm, qc, q, qk, rfl, hq, oq, b5⟩
      have Oq : Hid _ := oq
      clear oq
      have A5 : Hid (Below w.heap.size w w5) := chain A4.out b5
      have Xx5 : Hid (RowAt w5 xo xm xc x) := Xx4.out.below b5
      have Xy5 : Hid (RowAt w5 yo ym yc y) := Xy4.out.below b5
      have Xp5 : Hid (RowAt w5 po pm pc p) := Xp4.out.below b5
      have Xq5 : Hid (RowAt w5 qo qm qc q) := hq
      clear b5 A4 Xx4 Xy4 Xp4 hq
      have eqq := (Oq.out.one Op.out).2
      have Eq : Hid (p = q) := (Op.out.one Oq.out).1
      subst eqq
      clear Op Oq
      go_wp2_with fail
      refine (rnsame_yes _ _ _ _ _ _ x y _ Xx5.out Xy5.out Ey.out).mono ?_
      rintro e w6 ⟨rfl, b6⟩
      have A6 : Hid (Below w.heap.size w w6) := chain A5.out b6
      have Xx6 : Hid (RowAt w6 xo xm xc x) := Xx5.out.below b6
      have Xy6 : Hid (RowAt w6 yo ym yc y) := Xy5.out.below b6
      have Xp6 : Hid (RowAt w6 po pm pc p) := Xp5.out.below b6
      have Xq6 : Hid (RowAt w6 qo qm qc q) := Xq5.out.below b6
      clear b6 A5 Xx5 Xy5 Xp5 Xq5
      clear Xx6
      clear Xy6
      go_wp2_with fail
      refine (rnsame_yes _ _ _ _ _ _ p q _ Xp6.out Xq6.out Eq.out).mono ?_
      rintro e w7 ⟨rfl, b7⟩
      have A7 : Hid (Below w.heap.size w w7) := chain A6.out b7
      have Xp7 : Hid (RowAt w7 po pm pc p) := Xp6.out.below b7
      have Xq7 : Hid (RowAt w7 qo qm qc q) := Xq6.out.below b7
      clear b7 A6 Xp6 Xq6
      clear Xp7
      clear Xq7
      go_wp2
      go_ret
      exact ⟨rfl, A7.out⟩

set_option maxRecDepth 100000 in
theorem lifted (os : Os) (started : os.Started) (H : Type) (enc : TypeId × Value → H) :
    ReturnsInHanded {} Try.checked os 4 .any (Rows.quotCommonSpec.pre6 enc Try.prog Try.f4 Rows.quotCommonRow.domain false) (Rows.quotCommonSpec.post enc Try.prog Try.f4 false true false false) := by
  refine returnsInHanded_of_change (C := Try.checked) own started (by kernel_rfl) Try.func4
    (ChangeSpec.witness6 (enc := enc) (C := Try.checked) false ⟨#[], #[.slice none 0 0, .slice none 0 0], []⟩ 8 (by kernel_rfl) (by kernel_rfl) (by kernel_rfl) (by kernel_rfl)) ?_
  intro W base args ds gs before hval0 hW hcnd _
  have hval : ∀ (j : Nat) t v, Try.f4.params[j]? = some t → args[j]? = some v → Value.okWide Try.prog W .any base t v := hval0
  have hW' := hW
  obtain ⟨p, q, hA0, hV, rfl, hfz, hnd⟩ := hW
  have hA : DataW.TrodAll enc Try.prog W 0 (fun _ => true) true Try.f4.params.toList args.toList ds p := hA0
  rw [Try.params4] at hA hval
  obtain ⟨v0, vs0, d0, ds0, p0, q0, hargs, rfl, rfl, h0, r0⟩ := trodAll_cons hA
  obtain ⟨v1, vs1, d1, ds1, p1, q1, rfl, rfl, rfl, h1, r1⟩ := trodAll_cons r0
  obtain ⟨rfl, rfl, rfl⟩ := trodAll_nil r1
  obtain rfl : args = #[v0, v1] := by cases args; simp_all
  obtain ⟨rfl, rfl⟩ := trodVars_none hV
  obtain ⟨a0, len0, cap0, rfl⟩ := okWide_slice Try.underlying23 (hval 0 23 v0 rfl rfl)
  have k0 := h0
  have lt0 : ∀ x ∈ p0, x.block < W.heap.size := by obtain ⟨m, hm⟩ := k0; exact DataW.trod_lt m _ _ _ hm
  obtain ⟨z0, w0⟩ : ∃ zs, IsRow .u64 W a0 len0 cap0 zs := by
    obtain ⟨fuel, hf⟩ := h0
    rcases open_ints Try.underlying23 Try.underlying24 (by kernel_rfl) hf with ⟨hcs, _⟩ | ⟨x, l, c, zs, hcs, _, hl, hm, hz, _, hcell, hwz⟩
    · simp [Value.cells] at hcs
      obtain ⟨rfl, rfl, rfl⟩ := hcs
      exact ⟨[], .inl ⟨rfl, rfl, rfl, rfl⟩⟩
    · simp [Value.cells] at hcs
      obtain ⟨rfl, rfl, rfl⟩ := hcs
      exact ⟨zs, .inr ⟨_, rfl, hl, hm, by simpa using hz, hcell, hwz⟩⟩
  obtain ⟨a1, len1, cap1, rfl⟩ := okWide_slice Try.underlying23 (hval 1 23 v1 rfl rfl)
  have k1 := h1
  have lt1 : ∀ x ∈ p1, x.block < W.heap.size := by obtain ⟨m, hm⟩ := k1; exact DataW.trod_lt m _ _ _ hm
  obtain ⟨z1, w1⟩ : ∃ zs, IsRow .u64 W a1 len1 cap1 zs := by
    obtain ⟨fuel, hf⟩ := h1
    rcases open_ints Try.underlying23 Try.underlying24 (by kernel_rfl) hf with ⟨hcs, _⟩ | ⟨x, l, c, zs, hcs, _, hl, hm, hz, _, hcell, hwz⟩
    · simp [Value.cells] at hcs
      obtain ⟨rfl, rfl, rfl⟩ := hcs
      exact ⟨[], .inl ⟨rfl, rfl, rfl, rfl⟩⟩
    · simp [Value.cells] at hcs
      obtain ⟨rfl, rfl, rfl⟩ := hcs
      exact ⟨zs, .inr ⟨_, rfl, hl, hm, by simpa using hz, hcell, hwz⟩⟩
  clear hA0 hval0
  refine (walk a0 len0 cap0 z0 a1 len1 cap1 z1 W w0 w1).mono fun e W' ⟨he, bel⟩ => ?_
  subst he
  exact ⟨_, rfl, _, _, _, [], _, [], hW', trodAll_mk1 (shut_bool Try.underlying4 _), (trodAll_cons_mk (Below.trod laidOut (by kernel_rfl) (of_decide_eq_true (by kernel_rfl)) k0 bel lt0) (trodAll_cons_mk (Below.trod laidOut (by kernel_rfl) (of_decide_eq_true (by kernel_rfl)) k1 bel lt1) trodAll_mk0)), rfl, bel.frame _, fun h => by cases h⟩

theorem over : Rows.quotCommonRow.holds Try.pinned (OpenSpec.ofChange Rows.quotCommonSpec) :=
  OpenClaim.holds_of_wide 4 Try.f4 rfl rfl rfl rfl rfl rfl rfl ⟨rfl, rfl, rfl, rfl, rfl⟩ rfl rfl rfl rfl rfl (by kernel_rfl) Try.func4 (by kernel_rfl)
    (of_decide_eq_true (by kernel_rfl)) (by unfold Func.isWrapper; first | (rw [if_pos (by decide +kernel)]; kernel_rfl) | (rw [if_neg (by decide +kernel)]; exact ⟨rfl, rfl⟩))
    (fun os started H enc _ => lifted os started H enc)

theorem proved : Rows.QuotCommonSaid := over
#print axioms proved
end Go.Proofs.Yteobmomoaekadaa.quotCommon
