/-
  Proved here: for every input QuotTimes returns true, and leaves its arguments as they were. No condition.
-/
import Derived.Test.YteobmomoaekadaaRQuot
import Derived.Test.YteobmomoaekadaaCame
namespace Go.Proofs.Yteobmomoaekadaa.quotTimes
open Go.ChangeShapes Go.WideShapes Go.ChangeAt Go.RowKit
open Go.ChangeMaps (open_string shut_string)
set_option linter.unusedVariables false

theorem gcdI_mul {a b : Int} (ha : 0 ≤ a) (hb : 0 ≤ b) : gcdI (a * b) b = b := by
  obtain ⟨A, rfl⟩ := Int.eq_ofNat_of_zero_le ha
  obtain ⟨B, rfl⟩ := Int.eq_ofNat_of_zero_le hb
  unfold gcdI
  rw [← Int.natCast_mul, Int.toNat_natCast, Int.toNat_natCast, Nat.gcd_comm, Nat.gcd_mul_left_right]

set_option maxRecDepth 100000 in
set_option maxHeartbeats 4000000 in
theorem walk (a0 : Option Addr) (len0 cap0 : Nat) (z0 : List Int) (a1 : Option Addr) (len1 cap1 : Nat) (z1 : List Int) (w : World) (w0 : IsRow .u64 w a0 len0 cap0 z0) (w1 : IsRow .u64 w a1 len1 cap1 z1) :
    Calls Try.prog 7 #[.slice a0 len0 cap0, .slice a1 len1 cap1] w fun e w' => e = .returned (.bool true) ∧ Below w.heap.size w w' := by
  have r0 := w0.row
  have r1 := w1.row
  generalize z0.take len0 = xs at r0
  generalize z1.take len1 = ys at r1
  have m0 : len0 ≤ maxLen := Nat.le_trans r0.fits r0.most
  have m1 : len1 ≤ maxLen := Nat.le_trans r1.fits r1.most
  clear w0 w1
  have R0 : Hid (RowAt w a0 len0 cap0 xs) := r0
  have R1 : Hid (RowAt w a1 len1 cap1 ys) := r1
  clear r0 r1
  clear m0 m1
  go_enter Try.func7, Try.ntmps7
  go_wp2_with fail
  refine (lheld_any _ _ _ xs _ R0.out).mono ?_
  rintro e w1 ⟨xo, xm, xc, x, rfl, hx, mx, lx, b1⟩
  have Mx : Hid (May x ∧ Limbs x) := mx
  clear mx
  have A1 : Hid (Below w.heap.size w w1) := b1
  have Xx1 : Hid (RowAt w1 xo xm xc x) := hx
  clear b1 hx
  go_wp2_with fail
  refine (lheld_any _ _ _ ys _ (R1.out.below A1.out)).mono ?_
  rintro e w2 ⟨yo, ym, yc, y, rfl, hy, my, ly, b2⟩
  have My : Hid (May y ∧ Limbs y) := my
  clear my
  have A2 : Hid (Below w.heap.size w w2) := chain A1.out b2
  have Xx2 : Hid (RowAt w2 xo xm xc x) := Xx1.out.below b2
  have Xy2 : Hid (RowAt w2 yo ym yc y) := hy
  clear b2 A1 Xx1 hy
  go_wp2_with fail
  refine (rmul_any _ _ _ _ _ _ x y _ Xx2.out Xy2.out (by omega) (by omega)).mono ?_
  rintro e w3 ⟨po, pm, pc, p, rfl, hp, np, b3⟩
  have Np : Hid (Num p _) := np
  clear np
  have A3 : Hid (Below w.heap.size w w3) := chain A2.out b3
  have Xx3 : Hid (RowAt w3 xo xm xc x) := Xx2.out.below b3
  have Xy3 : Hid (RowAt w3 yo ym yc y) := Xy2.out.below b3
  have Xp3 : Hid (RowAt w3 po pm pc p) := hp
  clear b3 A2 Xx2 Xy2 hp
  have hz := val_zero My.out.2 My.out.1 Xy3.out.len
  have h8 := Np.out.le8
  rw [Xp3.out.len] at h8
  have hmost : pm ≤ maxLen := Nat.le_trans Xp3.out.fits Xp3.out.most
  unfold maxLen at hmost
  by_cases hp8 : 8 < pm
  · have hp8' : (8 : Int) < (pm : Int) := by omega
    clear hz h8
    clear Xx3
    clear Xy3
    clear Xp3
    go_wp2_with fail
    refine (qshown_any _).mono ?_
    rintro e w4 ⟨rfl, b4⟩
    have A4 : Hid (Below w.heap.size w w4) := chain A3.out b4
    clear b4 A3
    go_wp2
    go_ret
    exact ⟨rfl, A4.out⟩
  · have hp8' : ¬ (8 : Int) < (pm : Int) := by omega
    by_cases h0 : ym = 0
    · subst h0
      clear hz h8
      clear Xx3
      clear Xy3
      clear Xp3
      go_wp2_with fail
      refine (qshown_any _).mono ?_
      rintro e w4 ⟨rfl, b4⟩
      have A4 : Hid (Below w.heap.size w w4) := chain A3.out b4
      clear b4 A3
      go_wp2
      go_ret
      exact ⟨rfl, A4.out⟩
    · have HZ : Hid (val y ≠ 0) := fun e => h0 (hz.2 e)
      have hyb : ((ym : Int) == 0) = false := by rw [beq_eq_false_iff_ne]; omega
      have HB : Hid (val x * val y < Big) := h8.1 (by omega)
      clear hz h8
      go_wp2_with fail
      refine (qshown_any _).mono ?_
      rintro e w4 ⟨rfl, b4⟩
      have A4 : Hid (Below w.heap.size w w4) := chain A3.out b4
      have Xx4 : Hid (RowAt w4 xo xm xc x) := Xx3.out.below b4
      have Xy4 : Hid (RowAt w4 yo ym yc y) := Xy3.out.below b4
      have Xp4 : Hid (RowAt w4 po pm pc p) := Xp3.out.below b4
      clear b4 A3 Xx3 Xy3 Xp3
      go_wp2_with fail
      refine (qdiv_any _ _ _ _ _ _ p y _ Xp4.out Xy4.out).mono ?_
      rintro e w5 ⟨qo, qm, qc, q, ro, rm, rc, r, qk, rfl, hq, hr, oq, b5⟩
      have Oq : Hid (DivOut p y q r qk) := oq
      clear oq
      have A5 : Hid (Below w.heap.size w w5) := chain A4.out b5
      have Xx5 : Hid (RowAt w5 xo xm xc x) := Xx4.out.below b5
      have Xy5 : Hid (RowAt w5 yo ym yc y) := Xy4.out.below b5
      have Xp5 : Hid (RowAt w5 po pm pc p) := Xp4.out.below b5
      have Xq5 : Hid (RowAt w5 qo qm qc q) := hq
      have Xr5 : Hid (RowAt w5 ro rm rc r) := hr
      clear b5 A4 Xx4 Xy4 Xp4 hq hr
      obtain ⟨hk, hq, hr⟩ := Oq.out.is_fine ⟨Np.out.may.2 HB.out, My.out.1⟩ HZ.out
      rw [Np.out.val] at hq hr
      rw [Int.mul_ediv_cancel _ HZ.out] at hq
      rw [Int.mul_emod_left] at hr
      have HQ : Hid (q = x) := hq.one (num_self Mx.out.2 Mx.out.1)
      have hr0 : r = [] := zero_of_val hr.limbs hr.trim hr.val
      have erm : rm = 0 := by have h := Xr5.out.len; rw [hr0] at h; exact h.symm
      subst hk
      subst erm
      clear hq hr hr0 Oq
      clear Xr5
      go_wp2_with fail
      refine (qgcd_any _ _ _ _ _ _ p y _ Xp5.out Xy5.out).mono ?_
      rintro e w6 ⟨ao, am, ac, a, ak, rfl, ha, oa, b6⟩
      have Oa : Hid _ := oa
      clear oa
      have A6 : Hid (Below w.heap.size w w6) := chain A5.out b6
      have Xx6 : Hid (RowAt w6 xo xm xc x) := Xx5.out.below b6
      have Xy6 : Hid (RowAt w6 yo ym yc y) := Xy5.out.below b6
      have Xp6 : Hid (RowAt w6 po pm pc p) := Xp5.out.below b6
      have Xq6 : Hid (RowAt w6 qo qm qc q) := Xq5.out.below b6
      have Xa6 : Hid (RowAt w6 ao am ac a) := ha
      clear b6 A5 Xx5 Xy5 Xp5 Xq5 ha
      have hgv : gcdI (val p) (val y) = val y := by
        rw [Np.out.val]
        exact gcdI_mul (val_bd Mx.out.2).1 (val_bd My.out.2).1
      obtain ⟨hk, hn⟩ := Oa.out.ok_num ⟨Np.out.may.2 HB.out, My.out.1⟩ (fun f => f) (by rw [hgv]; exact My.out.1.lt My.out.2)
      rw [hgv] at hn
      have HA : Hid (a = y) := hn.one (num_self My.out.2 My.out.1)
      subst hk
      clear hgv hn Oa
      go_wp2_with fail
      refine (rnsame_yes _ _ _ _ _ _ q x _ Xq6.out Xx6.out HQ.out).mono ?_
      rintro e w7 ⟨rfl, b7⟩
      have A7 : Hid (Below w.heap.size w w7) := chain A6.out b7
      have Xx7 : Hid (RowAt w7 xo xm xc x) := Xx6.out.below b7
      have Xy7 : Hid (RowAt w7 yo ym yc y) := Xy6.out.below b7
      have Xp7 : Hid (RowAt w7 po pm pc p) := Xp6.out.below b7
      have Xq7 : Hid (RowAt w7 qo qm qc q) := Xq6.out.below b7
      have Xa7 : Hid (RowAt w7 ao am ac a) := Xa6.out.below b7
      clear b7 A6 Xx6 Xy6 Xp6 Xq6 Xa6
      clear Xq7
      clear Xx7
      clear Xp7
      go_wp2_with fail
      refine (rnsame_yes _ _ _ _ _ _ a y _ Xa7.out Xy7.out HA.out).mono ?_
      rintro e w8 ⟨rfl, b8⟩
      have A8 : Hid (Below w.heap.size w w8) := chain A7.out b8
      have Xy8 : Hid (RowAt w8 yo ym yc y) := Xy7.out.below b8
      have Xa8 : Hid (RowAt w8 ao am ac a) := Xa7.out.below b8
      clear b8 A7 Xy7 Xa7
      go_wp2
      go_ret
      exact ⟨rfl, A8.out⟩

set_option maxRecDepth 100000 in
theorem lifted (os : Os) (started : os.Started) (H : Type) (enc : TypeId × Value → H) :
    ReturnsInHanded {} Try.checked os 7 .any (Rows.quotTimesSpec.pre6 enc Try.prog Try.f7 Rows.quotTimesRow.domain false) (Rows.quotTimesSpec.post enc Try.prog Try.f7 false true false false) := by
  refine returnsInHanded_of_change (C := Try.checked) own started (by kernel_rfl) Try.func7
    (ChangeSpec.witness6 (enc := enc) (C := Try.checked) false ⟨#[], #[.slice none 0 0, .slice none 0 0], []⟩ 8 (by kernel_rfl) (by kernel_rfl) (by kernel_rfl) (by kernel_rfl)) ?_
  intro W base args ds gs before hval0 hW hcnd _
  have hval : ∀ (j : Nat) t v, Try.f7.params[j]? = some t → args[j]? = some v → Value.okWide Try.prog W .any base t v := hval0
  have hW' := hW
  obtain ⟨p, q, hA0, hV, rfl, hfz, hnd⟩ := hW
  have hA : DataW.TrodAll enc Try.prog W 0 (fun _ => true) true Try.f7.params.toList args.toList ds p := hA0
  rw [Try.params7] at hA hval
  obtain ⟨v0, vs0, d0, ds0, p0, q0, hargs, rfl, rfl, h0, r0⟩ := trodAll_cons hA
  obtain ⟨v1, vs1, d1, ds1, p1, q1, rfl, rfl, rfl, h1, r1⟩ := trodAll_cons r0
  obtain ⟨rfl, rfl, rfl⟩ := trodAll_nil r1
  obtain rfl : args = #[v0, v1] := by cases args; simp_all
  obtain ⟨rfl, rfl⟩ := trodVars_none hV
  obtain ⟨a0, len0, cap0, rfl⟩ := okWide_slice Try.underlying22 (hval 0 22 v0 rfl rfl)
  have k0 := h0
  have lt0 : ∀ x ∈ p0, x.block < W.heap.size := by obtain ⟨m, hm⟩ := k0; exact DataW.trod_lt m _ _ _ hm
  obtain ⟨z0, w0⟩ : ∃ zs, IsRow .u64 W a0 len0 cap0 zs := by
    obtain ⟨fuel, hf⟩ := h0
    rcases open_ints Try.underlying22 Try.underlying24 (by kernel_rfl) hf with ⟨hcs, _⟩ | ⟨x, l, c, zs, hcs, _, hl, hm, hz, _, hcell, hwz⟩
    · simp [Value.cells] at hcs
      obtain ⟨rfl, rfl, rfl⟩ := hcs
      exact ⟨[], .inl ⟨rfl, rfl, rfl, rfl⟩⟩
    · simp [Value.cells] at hcs
      obtain ⟨rfl, rfl, rfl⟩ := hcs
      exact ⟨zs, .inr ⟨_, rfl, hl, hm, by simpa using hz, hcell, hwz⟩⟩
  obtain ⟨a1, len1, cap1, rfl⟩ := okWide_slice Try.underlying22 (hval 1 22 v1 rfl rfl)
  have k1 := h1
  have lt1 : ∀ x ∈ p1, x.block < W.heap.size := by obtain ⟨m, hm⟩ := k1; exact DataW.trod_lt m _ _ _ hm
  obtain ⟨z1, w1⟩ : ∃ zs, IsRow .u64 W a1 len1 cap1 zs := by
    obtain ⟨fuel, hf⟩ := h1
    rcases open_ints Try.underlying22 Try.underlying24 (by kernel_rfl) hf with ⟨hcs, _⟩ | ⟨x, l, c, zs, hcs, _, hl, hm, hz, _, hcell, hwz⟩
    · simp [Value.cells] at hcs
      obtain ⟨rfl, rfl, rfl⟩ := hcs
      exact ⟨[], .inl ⟨rfl, rfl, rfl, rfl⟩⟩
    · simp [Value.cells] at hcs
      obtain ⟨rfl, rfl, rfl⟩ := hcs
      exact ⟨zs, .inr ⟨_, rfl, hl, hm, by simpa using hz, hcell, hwz⟩⟩
  clear hA0 hval0
  refine (walk a0 len0 cap0 z0 a1 len1 cap1 z1 W w0 w1).mono fun e W' ⟨he, bel⟩ => ?_
  subst he
  exact ⟨_, rfl, _, _, _, [], _, [], hW', trodAll_mk1 (shut_bool Try.underlying4 _), (trodAll_cons_mk (Below.trod laidOut (by kernel_rfl) (of_decide_eq_true (by kernel_rfl)) k0 bel lt0) (trodAll_cons_mk (Below.trod laidOut (by kernel_rfl) (of_decide_eq_true (by kernel_rfl)) k1 bel lt1) trodAll_mk0)), rfl, bel.frame _, fun h => by cases h⟩

theorem over : Rows.quotTimesRow.holds Try.pinned (OpenSpec.ofChange Rows.quotTimesSpec) :=
  OpenClaim.holds_of_wide 7 Try.f7 rfl rfl rfl rfl rfl rfl rfl ⟨rfl, rfl, rfl, rfl, rfl⟩ rfl rfl rfl rfl rfl (by kernel_rfl) Try.func7 (by kernel_rfl)
    (of_decide_eq_true (by kernel_rfl)) (by unfold Func.isWrapper; first | (rw [if_pos (by decide +kernel)]; kernel_rfl) | (rw [if_neg (by decide +kernel)]; exact ⟨rfl, rfl⟩))
    (fun os started H enc _ => lifted os started H enc)

theorem proved : Rows.QuotTimesSaid := over
#print axioms proved
end Go.Proofs.Yteobmomoaekadaa.quotTimes
