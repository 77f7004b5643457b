/-
  Proved here: for every input QuotBack returns true, and leaves its arguments as they were. No condition.
-/
import Derived.Test.YteobmomoaekadaaRQuot
import Derived.Test.YteobmomoaekadaaCame
namespace Go.Proofs.Yteobmomoaekadaa.quotBack
open Go.ChangeShapes Go.WideShapes Go.ChangeAt Go.RowKit
open Go.ChangeMaps (open_string shut_string)
set_option linter.unusedVariables false

set_option maxRecDepth 100000 in
set_option maxHeartbeats 4000000 in
theorem walk (a0 : Option Addr) (len0 cap0 : Nat) (z0 : List Int) (a1 : Option Addr) (len1 cap1 : Nat) (z1 : List Int) (w : World) (w0 : IsRow .u64 w a0 len0 cap0 z0) (w1 : IsRow .u64 w a1 len1 cap1 z1) :
    Calls Try.prog 5 #[.slice a0 len0 cap0, .slice a1 len1 cap1] w fun e w' => e = .returned (.bool true) ∧ Below w.heap.size w w' := by
  have r0 := w0.row
  have r1 := w1.row
  generalize z0.take len0 = xs at r0
  generalize z1.take len1 = ys at r1
  have m0 : len0 ≤ maxLen := Nat.le_trans r0.fits r0.most
  have m1 : len1 ≤ maxLen := Nat.le_trans r1.fits r1.most
  clear w0 w1
  have R0 : Hid (RowAt w a0 len0 cap0 xs) := r0
  have R1 : Hid (RowAt w a1 len1 cap1 ys) := r1
  clear r0 r1
  clear m0 m1
  go_enter Try.func5, Try.ntmps5
  go_wp2_with fail
  refine (lheld_any _ _ _ xs _ R0.out).mono ?_
  rintro e w1 ⟨xo, xm, xc, x, rfl, hx, mx, lx, b1⟩
  have Mx : Hid (May x ∧ Limbs x) := mx
  clear mx
  have A1 : Hid (Below w.heap.size w w1) := b1
  have Xx1 : Hid (RowAt w1 xo xm xc x) := hx
  clear b1 hx
  go_wp2_with fail
  refine (lheld_any _ _ _ ys _ (R1.out.below A1.out)).mono ?_
  rintro e w2 ⟨yo, ym, yc, y, rfl, hy, my, ly, b2⟩
  have My : Hid (May y ∧ Limbs y) := my
  clear my
  have A2 : Hid (Below w.heap.size w w2) := chain A1.out b2
  have Xx2 : Hid (RowAt w2 xo xm xc x) := Xx1.out.below b2
  have Xy2 : Hid (RowAt w2 yo ym yc y) := hy
  clear b2 A1 Xx1 hy
  go_wp2_with fail
  refine (qdiv_any _ _ _ _ _ _ x y _ Xx2.out Xy2.out).mono ?_
  rintro e w3 ⟨qo, qm, qc, q, ro, rm, rc, r, qk, rfl, hq, hr, oq, b3⟩
  have Oq : Hid (DivOut x y q r qk) := oq
  clear oq
  have A3 : Hid (Below w.heap.size w w3) := chain A2.out b3
  have Xx3 : Hid (RowAt w3 xo xm xc x) := Xx2.out.below b3
  have Xy3 : Hid (RowAt w3 yo ym yc y) := Xy2.out.below b3
  have Xq3 : Hid (RowAt w3 qo qm qc q) := hq
  have Xr3 : Hid (RowAt w3 ro rm rc r) := hr
  clear b3 A2 Xx2 Xy2 hq hr
  have hz := val_zero My.out.2 My.out.1 Xy3.out.len
  by_cases h0 : ym = 0
  · obtain ⟨hk, hq, hr⟩ := Oq.out.is_zero ⟨Mx.out.1, My.out.1⟩ (hz.1 h0)
    have eqm : qm = 0 := by have h := Xq3.out.len; rw [hq] at h; exact h.symm
    have erm : rm = 0 := by have h := Xr3.out.len; rw [hr] at h; exact h.symm
    subst hk
    subst eqm
    subst erm
    subst h0
    clear hz hq hr Oq
    clear Xx3
    clear Xy3
    clear Xq3
    clear Xr3
    go_wp2_with fail
    refine (qshown_any _).mono ?_
    rintro e w4 ⟨rfl, b4⟩
    have A4 : Hid (Below w.heap.size w w4) := chain A3.out b4
    clear b4 A3
    go_wp2
    go_ret
    exact ⟨rfl, A4.out⟩
  · have HZ : Hid (val y ≠ 0) := fun e => h0 (hz.2 e)
    have hyb : ((ym : Int) == 0) = false := by rw [beq_eq_false_iff_ne]; omega
    obtain ⟨hk, hq, hr⟩ := Oq.out.is_fine ⟨Mx.out.1, My.out.1⟩ HZ.out
    have hx0 := (val_bd Mx.out.2).1
    have hy0 := (val_bd My.out.2).1
    have hyp : 0 < val y := by have := HZ.out; omega
    have hqb := Int.ediv_le_self (val y) hx0
    have hrb := Int.emod_lt_of_pos (val x) hyp
    have hxB := Mx.out.1.lt Mx.out.2
    have hyB := My.out.1.lt My.out.2
    have lq : qm ≤ 8 := by have h := (hq.may.2 (by omega)).1; have := Xq3.out.len; omega
    have lr : rm ≤ 8 := by have h := (hr.may.2 (by omega)).1; have := Xr3.out.len; omega
    have HQ : Hid (Num q (val x / val y)) := hq
    have HR : Hid (Num r (val x % val y)) := hr
    have HC : Hid ((-1 : Int) = cmpI (val r) (val y)) := by
      show (-1 : Int) = cmpI (val r) (val y)
      rw [hr.val, cmpI_lt hrb]
    subst hk
    clear hz hq hr Oq hx0 hy0 hyp hqb hrb hxB hyB
    go_wp2_with fail
    refine (rcmp_val _ _ _ _ _ _ r y _ Xr3.out Xy3.out (by omega) (by omega) (-1) HC.out).mono ?_
    rintro e w4 ⟨rfl, b4⟩
    have A4 : Hid (Below w.heap.size w w4) := chain A3.out b4
    have Xx4 : Hid (RowAt w4 xo xm xc x) := Xx3.out.below b4
    have Xy4 : Hid (RowAt w4 yo ym yc y) := Xy3.out.below b4
    have Xq4 : Hid (RowAt w4 qo qm qc q) := Xq3.out.below b4
    have Xr4 : Hid (RowAt w4 ro rm rc r) := Xr3.out.below b4
    clear b4 A3 Xx3 Xy3 Xq3 Xr3
    go_wp2_with fail
    refine (rmul_any _ _ _ _ _ _ q y _ Xq4.out Xy4.out (by omega) (by omega)).mono ?_
    rintro e w5 ⟨vo, vm, vc, v, rfl, hv, nv, b5⟩
    have Nv : Hid (Num v _) := nv
    clear nv
    have A5 : Hid (Below w.heap.size w w5) := chain A4.out b5
    have Xx5 : Hid (RowAt w5 xo xm xc x) := Xx4.out.below b5
    have Xy5 : Hid (RowAt w5 yo ym yc y) := Xy4.out.below b5
    have Xq5 : Hid (RowAt w5 qo qm qc q) := Xq4.out.below b5
    have Xr5 : Hid (RowAt w5 ro rm rc r) := Xr4.out.below b5
    have Xv5 : Hid (RowAt w5 vo vm vc v) := hv
    clear b5 A4 Xx4 Xy4 Xq4 Xr4 hv
    have lv : vm ≤ 1000 := by
      have h1 := Xv5.out.len
      have h2 := Nv.out.few (V := Big) (n := 8) ?_ (Int.le_refl _)
      omega
      rw [HQ.out.val]
      have h3 := Int.ediv_mul_le (val x) HZ.out
      have h4 := Mx.out.1.lt Mx.out.2
      omega
    go_wp2_with fail
    refine (radd_any _ _ _ _ _ _ v r _ Xv5.out Xr5.out (by omega) (by omega)).mono ?_
    rintro e w6 ⟨uo, um, uc, u, rfl, hu, nu, b6⟩
    have Nu : Hid (Num u _) := nu
    clear nu
    have A6 : Hid (Below w.heap.size w w6) := chain A5.out b6
    have Xx6 : Hid (RowAt w6 xo xm xc x) := Xx5.out.below b6
    have Xy6 : Hid (RowAt w6 yo ym yc y) := Xy5.out.below b6
    have Xq6 : Hid (RowAt w6 qo qm qc q) := Xq5.out.below b6
    have Xr6 : Hid (RowAt w6 ro rm rc r) := Xr5.out.below b6
    have Xv6 : Hid (RowAt w6 vo vm vc v) := Xv5.out.below b6
    have Xu6 : Hid (RowAt w6 uo um uc u) := hu
    clear b6 A5 Xx5 Xy5 Xq5 Xr5 Xv5 hu
    have HE : Hid (u = x) := by
      have h := Nu.out
      rw [Nv.out.val, HQ.out.val, HR.out.val, show val x / val y * val y + val x % val y = val x by rw [Int.mul_comm]; exact Int.mul_ediv_add_emod _ _] at h
      exact h.one (num_self Mx.out.2 Mx.out.1)
    go_wp2_with fail
    refine (rnsame_yes _ _ _ _ _ _ u x _ Xu6.out Xx6.out HE.out).mono ?_
    rintro e w7 ⟨rfl, b7⟩
    have A7 : Hid (Below w.heap.size w w7) := chain A6.out b7
    have Xx7 : Hid (RowAt w7 xo xm xc x) := Xx6.out.below b7
    have Xy7 : Hid (RowAt w7 yo ym yc y) := Xy6.out.below b7
    have Xq7 : Hid (RowAt w7 qo qm qc q) := Xq6.out.below b7
    have Xr7 : Hid (RowAt w7 ro rm rc r) := Xr6.out.below b7
    have Xv7 : Hid (RowAt w7 vo vm vc v) := Xv6.out.below b7
    have Xu7 : Hid (RowAt w7 uo um uc u) := Xu6.out.below b7
    clear b7 A6 Xx6 Xy6 Xq6 Xr6 Xv6 Xu6
    clear Xx7
    clear Xy7
    clear Xq7
    clear Xr7
    clear Xv7
    clear Xu7
    go_wp2_with fail
    refine (qshown_any _).mono ?_
    rintro e w8 ⟨rfl, b8⟩
    have A8 : Hid (Below w.heap.size w w8) := chain A7.out b8
    clear b8 A7
    go_wp2
    go_ret
    exact ⟨rfl, A8.out⟩

set_option maxRecDepth 100000 in
theorem lifted (os : Os) (started : os.Started) (H : Type) (enc : TypeId × Value → H) :
    ReturnsInHanded {} Try.checked os 5 .any (Rows.quotBackSpec.pre6 enc Try.prog Try.f5 Rows.quotBackRow.domain false) (Rows.quotBackSpec.post enc Try.prog Try.f5 false true false false) := by
  refine returnsInHanded_of_change (C := Try.checked) own started (by kernel_rfl) Try.func5
    (ChangeSpec.witness6 (enc := enc) (C := Try.checked) false ⟨#[], #[.slice none 0 0, .slice none 0 0], []⟩ 8 (by kernel_rfl) (by kernel_rfl) (by kernel_rfl) (by kernel_rfl)) ?_
  intro W base args ds gs before hval0 hW hcnd _
  have hval : ∀ (j : Nat) t v, Try.f5.params[j]? = some t → args[j]? = some v → Value.okWide Try.prog W .any base t v := hval0
  have hW' := hW
  obtain ⟨p, q, hA0, hV, rfl, hfz, hnd⟩ := hW
  have hA : DataW.TrodAll enc Try.prog W 0 (fun _ => true) true Try.f5.params.toList args.toList ds p := hA0
  rw [Try.params5] at hA hval
  obtain ⟨v0, vs0, d0, ds0, p0, q0, hargs, rfl, rfl, h0, r0⟩ := trodAll_cons hA
  obtain ⟨v1, vs1, d1, ds1, p1, q1, rfl, rfl, rfl, h1, r1⟩ := trodAll_cons r0
  obtain ⟨rfl, rfl, rfl⟩ := trodAll_nil r1
  obtain rfl : args = #[v0, v1] := by cases args; simp_all
  obtain ⟨rfl, rfl⟩ := trodVars_none hV
  obtain ⟨a0, len0, cap0, rfl⟩ := okWide_slice Try.underlying22 (hval 0 22 v0 rfl rfl)
  have k0 := h0
  have lt0 : ∀ x ∈ p0, x.block < W.heap.size := by obtain ⟨m, hm⟩ := k0; exact DataW.trod_lt m _ _ _ hm
  obtain ⟨z0, w0⟩ : ∃ zs, IsRow .u64 W a0 len0 cap0 zs := by
    obtain ⟨fuel, hf⟩ := h0
    rcases open_ints Try.underlying22 Try.underlying24 (by kernel_rfl) hf with ⟨hcs, _⟩ | ⟨x, l, c, zs, hcs, _, hl, hm, hz, _, hcell, hwz⟩
    · simp [Value.cells] at hcs
      obtain ⟨rfl, rfl, rfl⟩ := hcs
      exact ⟨[], .inl ⟨rfl, rfl, rfl, rfl⟩⟩
    · simp [Value.cells] at hcs
      obtain ⟨rfl, rfl, rfl⟩ := hcs
      exact ⟨zs, .inr ⟨_, rfl, hl, hm, by simpa using hz, hcell, hwz⟩⟩
  obtain ⟨a1, len1, cap1, rfl⟩ := okWide_slice Try.underlying22 (hval 1 22 v1 rfl rfl)
  have k1 := h1
  have lt1 : ∀ x ∈ p1, x.block < W.heap.size := by obtain ⟨m, hm⟩ := k1; exact DataW.trod_lt m _ _ _ hm
  obtain ⟨z1, w1⟩ : ∃ zs, IsRow .u64 W a1 len1 cap1 zs := by
    obtain ⟨fuel, hf⟩ := h1
    rcases open_ints Try.underlying22 Try.underlying24 (by kernel_rfl) hf with ⟨hcs, _⟩ | ⟨x, l, c, zs, hcs, _, hl, hm, hz, _, hcell, hwz⟩
    · simp [Value.cells] at hcs
      obtain ⟨rfl, rfl, rfl⟩ := hcs
      exact ⟨[], .inl ⟨rfl, rfl, rfl, rfl⟩⟩
    · simp [Value.cells] at hcs
      obtain ⟨rfl, rfl, rfl⟩ := hcs
      exact ⟨zs, .inr ⟨_, rfl, hl, hm, by simpa using hz, hcell, hwz⟩⟩
  clear hA0 hval0
  refine (walk a0 len0 cap0 z0 a1 len1 cap1 z1 W w0 w1).mono fun e W' ⟨he, bel⟩ => ?_
  subst he
  exact ⟨_, rfl, _, _, _, [], _, [], hW', trodAll_mk1 (shut_bool Try.underlying4 _), (trodAll_cons_mk (Below.trod laidOut (by kernel_rfl) (of_decide_eq_true (by kernel_rfl)) k0 bel lt0) (trodAll_cons_mk (Below.trod laidOut (by kernel_rfl) (of_decide_eq_true (by kernel_rfl)) k1 bel lt1) trodAll_mk0)), rfl, bel.frame _, fun h => by cases h⟩

theorem over : Rows.quotBackRow.holds Try.pinned (OpenSpec.ofChange Rows.quotBackSpec) :=
  OpenClaim.holds_of_wide 5 Try.f5 rfl rfl rfl rfl rfl rfl rfl ⟨rfl, rfl, rfl, rfl, rfl⟩ rfl rfl rfl rfl rfl (by kernel_rfl) Try.func5 (by kernel_rfl)
    (of_decide_eq_true (by kernel_rfl)) (by unfold Func.isWrapper; first | (rw [if_pos (by decide +kernel)]; kernel_rfl) | (rw [if_neg (by decide +kernel)]; exact ⟨rfl, rfl⟩))
    (fun os started H enc _ => lifted os started H enc)

theorem proved : Rows.QuotBackSaid := over
#print axioms proved
end Go.Proofs.Yteobmomoaekadaa.quotBack
