/-
  Proved here: for every input QuotChain returns true, and leaves its arguments as they were. No condition.
-/
import Derived.Test.YteobmomoaekadaaRQuot
import Derived.Test.YteobmomoaekadaaCame
namespace Go.Proofs.Yteobmomoaekadaa.quotChain
open Go.ChangeShapes Go.WideShapes Go.ChangeAt Go.RowKit
open Go.ChangeMaps (open_string shut_string)
set_option linter.unusedVariables false

set_option maxRecDepth 100000 in
set_option maxHeartbeats 4000000 in
theorem walk (a0 : Option Addr) (len0 cap0 : Nat) (z0 : List Int) (a1 : Int) (a2 : Int) (w : World) (w0 : IsRow .u64 w a0 len0 cap0 z0) (w1 : (Lit.int .u64 a1).wf = true) (w2 : (Lit.int .u64 a2).wf = true) :
    Calls Try.prog 8 #[.slice a0 len0 cap0, .int .u64 a1, .int .u64 a2] w fun e w' => e = .returned (.bool true) ∧ Below w.heap.size w w' := by
  have r0 := w0.row
  generalize z0.take len0 = xs at r0
  have m0 : len0 ≤ maxLen := Nat.le_trans r0.fits r0.most
  clear w0
  have R0 : Hid (RowAt w a0 len0 cap0 xs) := r0
  clear r0
  have hb := bounds_u64 w1
  have hc := bounds_u64 w2
  clear m0 w1 w2
  go_enter Try.func8, Try.ntmps8
  go_wp2_with fail
  refine (lheld_any _ _ _ xs _ R0.out).mono ?_
  rintro e w1 ⟨xo, xm, xc, x, rfl, hx, mx, lx, b1⟩
  have Mx : Hid (May x ∧ Limbs x) := mx
  clear mx
  have A1 : Hid (Below w.heap.size w w1) := b1
  have Xx1 : Hid (RowAt w1 xo xm xc x) := hx
  clear b1 hx
  by_cases hb0 : a1 = 0
  · subst hb0
    clear Xx1
    go_wp2_with fail
    refine (qshown_any _).mono ?_
    rintro e w2 ⟨rfl, b2⟩
    have A2 : Hid (Below w.heap.size w w2) := chain A1.out b2
    clear b2 A1
    go_wp2
    go_ret
    exact ⟨rfl, A2.out⟩
  · have hbb : (a1 == 0) = false := by rw [beq_eq_false_iff_ne]; exact hb0
    by_cases hc0 : a2 = 0
    · subst hc0
      clear Xx1
      go_wp2_with fail
      refine (qshown_any _).mono ?_
      rintro e w2 ⟨rfl, b2⟩
      have A2 : Hid (Below w.heap.size w w2) := chain A1.out b2
      clear b2 A1
      go_wp2
      go_ret
      exact ⟨rfl, A2.out⟩
    · have hcb : (a2 == 0) = false := by rw [beq_eq_false_iff_ne]; exact hc0
      have HB0 : Hid (a1 ≠ 0 ∧ 0 ≤ a1 ∧ a1 < BB) := ⟨hb0, hb.1, by have := hb.2; unfold BB; omega⟩
      have HC0 : Hid (a2 ≠ 0 ∧ 0 ≤ a2 ∧ a2 < BB) := ⟨hc0, hc.1, by have := hc.2; unfold BB; omega⟩
      go_wp2_with fail
      refine (qshown_any _).mono ?_
      rintro e w2 ⟨rfl, b2⟩
      have A2 : Hid (Below w.heap.size w w2) := chain A1.out b2
      have Xx2 : Hid (RowAt w2 xo xm xc x) := Xx1.out.below b2
      clear b2 A1 Xx1
      go_wp2_with fail
      refine (qsmall_any _ _ _ x a1 _ Xx2.out HB0.out.2.1 HB0.out.2.2).mono ?_
      rintro e w3 ⟨qo, qm, qc, q, qv, qk, rfl, hq, oq, b3⟩
      have Oq : Hid (SmallOut x a1 q qv qk) := oq
      clear oq
      have A3 : Hid (Below w.heap.size w w3) := chain A2.out b3
      have Xx3 : Hid (RowAt w3 xo xm xc x) := Xx2.out.below b3
      have Xq3 : Hid (RowAt w3 qo qm qc q) := hq
      clear b3 A2 Xx2 hq
      obtain ⟨hk, hq, -⟩ := Oq.out.is_fine Mx.out.1 HB0.out.1
      have HQ : Hid (Num q (val x / a1)) := hq
      have HMQ : Hid (May q) := hq.may.2 (by have h1 := Int.ediv_le_self a1 (val_bd Mx.out.2).1; have h2 := Mx.out.1.lt Mx.out.2; omega)
      subst hk
      clear hq Oq
      go_wp2_with fail
      refine (qsmall_any _ _ _ q a2 _ Xq3.out HC0.out.2.1 HC0.out.2.2).mono ?_
      rintro e w4 ⟨po, pm, pc, p, pv, pk, rfl, hp, op, b4⟩
      have Op : Hid (SmallOut q a2 p pv pk) := op
      clear op
      have A4 : Hid (Below w.heap.size w w4) := chain A3.out b4
      have Xx4 : Hid (RowAt w4 xo xm xc x) := Xx3.out.below b4
      have Xq4 : Hid (RowAt w4 qo qm qc q) := Xq3.out.below b4
      have Xp4 : Hid (RowAt w4 po pm pc p) := hp
      clear b4 A3 Xx3 Xq3 hp
      obtain ⟨hk, hp, -⟩ := Op.out.is_fine HMQ.out HC0.out.1
      rw [HQ.out.val] at hp
      have HP : Hid (Num p (val x / a1 / a2)) := hp
      subst hk
      clear hp Op
      clear Xq4
      have hs4 : w.heap.size ≤ w4.heap.size := A4.out.size
      have I1 : Hid (Below w4.heap.size w4 ((w4.alloc (Obj.cells #[.int .u64 a1] 24)).alloc (Obj.cells #[.int .u64 a2] 24))) := ((Below.refl _ _).alloc (Nat.le_refl _) _).alloc (by simp) _
      have J1 : Hid (RowAt ((w4.alloc (Obj.cells #[.int .u64 a1] 24)).alloc (Obj.cells #[.int .u64 a2] 24)) (some ⟨w4.heap.size, 0, none⟩) 1 1 [a1]) := (one_row w4 a1 HB0.out.2.1 HB0.out.2.2).below ((Below.refl _ _).alloc (Nat.le_refl _) _)
      have J2 : Hid (RowAt ((w4.alloc (Obj.cells #[.int .u64 a1] 24)).alloc (Obj.cells #[.int .u64 a2] 24)) (some ⟨w4.heap.size + 1, 0, none⟩) 1 1 [a2]) := by
        show RowAt ((w4.alloc (Obj.cells #[.int .u64 a1] 24)).alloc (Obj.cells #[.int .u64 a2] 24)) (some ⟨w4.heap.size + 1, 0, none⟩) 1 1 [a2]
        have h := one_row (w4.alloc (Obj.cells #[.int .u64 a1] 24)) a2 HC0.out.2.1 HC0.out.2.2
        simpa using h
      go_wp2_with fail
      refine (rmul_any _ _ _ _ _ _ [a1] [a2] _ J1.out J2.out (by omega) (by omega)).mono ?_
      rintro e w5 ⟨vo, vm, vc, v, rfl, hv, nv, b0⟩
      have b5 := I1.out.trans (b0.mono I1.out.size)
      rw [show val [a1] = a1 by simp [val], show val [a2] = a2 by simp [val]] at nv
      have NV : Hid (Num v (a1 * a2)) := nv
      clear nv b0 I1 J1 J2 hs4
      have A5 : Hid (Below w.heap.size w w5) := chain A4.out b5
      have Xx5 : Hid (RowAt w5 xo xm xc x) := Xx4.out.below b5
      have Xp5 : Hid (RowAt w5 po pm pc p) := Xp4.out.below b5
      have Xv5 : Hid (RowAt w5 vo vm vc v) := hv
      clear b5 A4 Xx4 Xp4 hv
      have hvp : a1 * a2 ≠ 0 := Int.mul_ne_zero HB0.out.1 HC0.out.1
      have hvB : a1 * a2 < Big := by
        have h1 := Int.mul_lt_mul HB0.out.2.2 (Int.le_of_lt HC0.out.2.2) (by have := HC0.out; omega) (Int.le_of_lt BB_pos)
        have h2 := pw_le (show 2 ≤ 8 by omega)
        rw [show BB ^ 2 = BB * BB by rw [Int.pow_succ, Int.pow_succ, Int.pow_zero, Int.one_mul]] at h2
        unfold Big
        omega
      have HMV : Hid (May v) := NV.out.may.2 hvB
      have HVZ : Hid (val v ≠ 0) := by
        show val v ≠ 0
        rw [NV.out.val]; exact hvp
      clear hvp hvB
      go_wp2_with fail
      refine (qdiv_any _ _ _ _ _ _ x v _ Xx5.out Xv5.out).mono ?_
      rintro e w6 ⟨uo, um, uc, u, ro, rm, rc, r, uk, rfl, hu, hr, ou, b6⟩
      have Ou : Hid (DivOut x v u r uk) := ou
      clear ou
      have A6 : Hid (Below w.heap.size w w6) := chain A5.out b6
      have Xx6 : Hid (RowAt w6 xo xm xc x) := Xx5.out.below b6
      have Xp6 : Hid (RowAt w6 po pm pc p) := Xp5.out.below b6
      have Xv6 : Hid (RowAt w6 vo vm vc v) := Xv5.out.below b6
      have Xu6 : Hid (RowAt w6 uo um uc u) := hu
      have Xr6 : Hid (RowAt w6 ro rm rc r) := hr
      clear b6 A5 Xx5 Xp5 Xv5 hu hr
      obtain ⟨hk, hu, -⟩ := Ou.out.is_fine ⟨Mx.out.1, HMV.out⟩ HVZ.out
      rw [NV.out.val, ← Int.ediv_ediv_of_nonneg HB0.out.2.1] at hu
      have HE : Hid (p = u) := HP.out.one hu
      subst hk
      clear hu Ou
      go_wp2_with fail
      refine (rnsame_yes _ _ _ _ _ _ p u _ Xp6.out Xu6.out HE.out).mono ?_
      rintro e w7 ⟨rfl, b7⟩
      have A7 : Hid (Below w.heap.size w w7) := chain A6.out b7
      have Xx7 : Hid (RowAt w7 xo xm xc x) := Xx6.out.below b7
      have Xp7 : Hid (RowAt w7 po pm pc p) := Xp6.out.below b7
      have Xv7 : Hid (RowAt w7 vo vm vc v) := Xv6.out.below b7
      have Xu7 : Hid (RowAt w7 uo um uc u) := Xu6.out.below b7
      have Xr7 : Hid (RowAt w7 ro rm rc r) := Xr6.out.below b7
      clear b7 A6 Xx6 Xp6 Xv6 Xu6 Xr6
      go_wp2
      go_ret
      exact ⟨rfl, A7.out⟩

set_option maxRecDepth 100000 in
theorem lifted (os : Os) (started : os.Started) (H : Type) (enc : TypeId × Value → H) :
    ReturnsInHanded {} Try.checked os 8 .any (Rows.quotChainSpec.pre6 enc Try.prog Try.f8 Rows.quotChainRow.domain false) (Rows.quotChainSpec.post enc Try.prog Try.f8 false true false false) := by
  refine returnsInHanded_of_change (C := Try.checked) own started (by kernel_rfl) Try.func8
    (ChangeSpec.witness6 (enc := enc) (C := Try.checked) false ⟨#[], #[.slice none 0 0, .int .u64 0, .int .u64 0], []⟩ 8 (by kernel_rfl) (by kernel_rfl) (by kernel_rfl) (by kernel_rfl)) ?_
  intro W base args ds gs before hval0 hW hcnd _
  have hval : ∀ (j : Nat) t v, Try.f8.params[j]? = some t → args[j]? = some v → Value.okWide Try.prog W .any base t v := hval0
  have hW' := hW
  obtain ⟨p, q, hA0, hV, rfl, hfz, hnd⟩ := hW
  have hA : DataW.TrodAll enc Try.prog W 0 (fun _ => true) true Try.f8.params.toList args.toList ds p := hA0
  rw [Try.params8] at hA hval
  obtain ⟨v0, vs0, d0, ds0, p0, q0, hargs, rfl, rfl, h0, r0⟩ := trodAll_cons hA
  obtain ⟨v1, vs1, d1, ds1, p1, q1, rfl, rfl, rfl, h1, r1⟩ := trodAll_cons r0
  obtain ⟨v2, vs2, d2, ds2, p2, q2, rfl, rfl, rfl, h2, r2⟩ := trodAll_cons r1
  obtain ⟨rfl, rfl, rfl⟩ := trodAll_nil r2
  obtain rfl : args = #[v0, v1, v2] := by cases args; simp_all
  obtain ⟨rfl, rfl⟩ := trodVars_none hV
  obtain ⟨a0, len0, cap0, rfl⟩ := okWide_slice Try.underlying22 (hval 0 22 v0 rfl rfl)
  have k0 := h0
  have lt0 : ∀ x ∈ p0, x.block < W.heap.size := by obtain ⟨m, hm⟩ := k0; exact DataW.trod_lt m _ _ _ hm
  obtain ⟨z0, w0⟩ : ∃ zs, IsRow .u64 W a0 len0 cap0 zs := by
    obtain ⟨fuel, hf⟩ := h0
    rcases open_ints Try.underlying22 Try.underlying24 (by kernel_rfl) hf with ⟨hcs, _⟩ | ⟨x, l, c, zs, hcs, _, hl, hm, hz, _, hcell, hwz⟩
    · simp [Value.cells] at hcs
      obtain ⟨rfl, rfl, rfl⟩ := hcs
      exact ⟨[], .inl ⟨rfl, rfl, rfl, rfl⟩⟩
    · simp [Value.cells] at hcs
      obtain ⟨rfl, rfl, rfl⟩ := hcs
      exact ⟨zs, .inr ⟨_, rfl, hl, hm, by simpa using hz, hcell, hwz⟩⟩
  obtain ⟨a1, rfl, rfl, rfl, w1⟩ := open_int Try.underlying24 (hval 1 24 v1 rfl rfl) h1
  obtain ⟨a2, rfl, rfl, rfl, w2⟩ := open_int Try.underlying24 (hval 2 24 v2 rfl rfl) h2
  clear hA0 hval0
  refine (walk a0 len0 cap0 z0 a1 a2 W w0 w1 w2).mono fun e W' ⟨he, bel⟩ => ?_
  subst he
  exact ⟨_, rfl, _, _, _, [], _, [], hW', trodAll_mk1 (shut_bool Try.underlying4 _), (trodAll_cons_mk (Below.trod laidOut (by kernel_rfl) (of_decide_eq_true (by kernel_rfl)) k0 bel lt0) (trodAll_cons_mk (shut_int Try.underlying24 w1) (trodAll_cons_mk (shut_int Try.underlying24 w2) trodAll_mk0))), rfl, bel.frame _, fun h => by cases h⟩

theorem over : Rows.quotChainRow.holds Try.pinned (OpenSpec.ofChange Rows.quotChainSpec) :=
  OpenClaim.holds_of_wide 8 Try.f8 rfl rfl rfl rfl rfl rfl rfl ⟨rfl, rfl, rfl, rfl, rfl⟩ rfl rfl rfl rfl rfl (by kernel_rfl) Try.func8 (by kernel_rfl)
    (of_decide_eq_true (by kernel_rfl)) (by unfold Func.isWrapper; first | (rw [if_pos (by decide +kernel)]; kernel_rfl) | (rw [if_neg (by decide +kernel)]; exact ⟨rfl, rfl⟩))
    (fun os started H enc _ => lifted os started H enc)

theorem proved : Rows.QuotChainSaid := over
#print axioms proved
end Go.Proofs.Yteobmomoaekadaa.quotChain
