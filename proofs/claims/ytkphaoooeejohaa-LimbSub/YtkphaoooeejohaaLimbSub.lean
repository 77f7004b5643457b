/-
  Proved here: for every input LimbSub returns true, and leaves its arguments as they were. No condition.
-/
import Derived.Test.YtkphaoooeejohaaCame
import Derived.Test.YtkphaoooeejohaaSub
import Derived.Test.YtkphaoooeejohaaRTrim
import Derived.Test.YtkphaoooeejohaaCmp
namespace Go.Proofs.Ytkphaoooeejohaa.limbSub
open Go.ChangeShapes Go.WideShapes Go.ChangeAt Go.RowKit
open Go.ChangeMaps (open_string shut_string)
set_option linter.unusedVariables false

set_option maxHeartbeats 1000000 in
theorem walk (a0 : Option Addr) (len0 cap0 : Nat) (z0 : List Int) (a1 : Option Addr) (len1 cap1 : Nat) (z1 : List Int) (w : World) (w0 : IsRow .u64 w a0 len0 cap0 z0) (w1 : IsRow .u64 w a1 len1 cap1 z1) :
    Calls Try.prog 9 #[.slice a0 len0 cap0, .slice a1 len1 cap1] w fun e w' => e = .returned (.bool true) ∧ Below w.heap.size w w' := by
  have r0 := w0.row
  have r1 := w1.row
  generalize z0.take len0 = xs at r0
  generalize z1.take len1 = ys at r1
  have m0 : len0 ≤ maxLen := Nat.le_trans r0.fits r0.most
  have m1 : len1 ≤ maxLen := Nat.le_trans r1.fits r1.most
  clear w0 w1
  have R0 : Hid (RowAt w a0 len0 cap0 xs) := r0
  have R1 : Hid (RowAt w a1 len1 cap1 ys) := r1
  clear r0 r1
  by_cases h1 : 30 < len0 ∨ 30 < len1
  · clear R0 R1
    go_enter Try.func9, Try.ntmps9
    go_wp2_with fail
    refine (heavy_yes _ _ _ _ _ _ _ m0 m1 h1).mono ?_
    rintro e w' ⟨rfl, rfl⟩
    go_wp2_with fail
    refine (shown_any _).mono ?_
    rintro e w2 ⟨rfl, hb⟩
    go_wp2
    go_ret
    exact ⟨rfl, hb⟩
  · have k0 : len0 ≤ 30 := by omega
    have k1 : len1 ≤ 30 := by omega
    clear h1 m0 m1
    rcases Int.lt_trichotomy (val xs) (val ys) with hlt | heq | hgt
    · have HV : Hid (val xs < val ys) := hlt
      clear hlt
      go_enter Try.func9, Try.ntmps9
      go_wp2_with fail
      refine (heavy_no _ _ _ _ _ _ _ k0 k1).mono ?_
      rintro e w' ⟨rfl, rfl⟩
      go_wp2_with fail
      refine (shown_any _).mono ?_
      rintro e w1 ⟨rfl, b1⟩
      have A1 : Hid (Below w.heap.size w w1) := b1
      clear b1
      go_wp2_with fail
      refine (sub_no _ _ _ _ _ _ xs ys _ (R0.out.below A1.out) (R1.out.below A1.out) (by omega) (by omega) HV.out).mono ?_
      rintro e w2 ⟨po, pc, rfl, -, b2⟩
      have A2 : Hid (Below w.heap.size w w2) := chain A1.out b2
      clear b2 A1
      go_wp2_with fail
      refine (sub_ok _ _ _ _ _ _ ys xs _ (R1.out.below A2.out) (R0.out.below A2.out) (by omega) (by omega) (Int.le_of_lt HV.out)).mono ?_
      rintro e w3 ⟨qo, qm, qc, q, rfl, hq, nq, mq, b3⟩
      have Nq : Hid _ := nq
      clear nq
      have A3 : Hid (Below w.heap.size w w3) := chain A2.out b3
      have Xq3 : Hid (RowAt w3 qo qm qc q) := hq
      clear b3 A2 hq
      go_wp2_with fail
      refine (cmp_lt _ _ _ _ _ _ xs ys _ (R0.out.below A3.out) (R1.out.below A3.out) (by omega) (by omega) HV.out).mono ?_
      rintro e w4 ⟨rfl, b4⟩
      have A4 : Hid (Below w.heap.size w w4) := chain A3.out b4
      have Xq4 : Hid (RowAt w4 qo qm qc q) := Xq3.out.below b4
      clear b4 A3 Xq3
      go_wp2_with fail
      refine (add_any _ _ _ _ _ _ q xs _ Xq4.out (R0.out.below A4.out) (by omega) (by omega)).mono ?_
      rintro e w5 ⟨uo, um, uc, u, rfl, hu, nu, mu, b5⟩
      have Nu : Hid _ := nu
      clear nu
      have A5 : Hid (Below w.heap.size w w5) := chain A4.out b5
      have Xq5 : Hid (RowAt w5 qo qm qc q) := Xq4.out.below b5
      have Xu5 : Hid (RowAt w5 uo um uc u) := hu
      clear b5 A4 Xq4 hu
      go_wp2_with fail
      refine (rtrim_any _ _ _ ys _ (R1.out.below A5.out) (by omega)).mono ?_
      rintro e w6 ⟨to, tm, tc, t, rfl, ht, nt, mt, b6⟩
      have Nt : Hid _ := nt
      clear nt
      have A6 : Hid (Below w.heap.size w w6) := chain A5.out b6
      have Xq6 : Hid (RowAt w6 qo qm qc q) := Xq5.out.below b6
      have Xu6 : Hid (RowAt w6 uo um uc u) := Xu5.out.below b6
      have Xt6 : Hid (RowAt w6 to tm tc t) := ht
      clear b6 A5 Xq5 Xu5 ht
      go_wp2_with fail
      refine (same_yes _ _ _ _ _ _ u t _ Xu6.out Xt6.out (Nu.out.one (by rw [Nq.out.val, Int.sub_add_cancel]; exact Nt.out))).mono ?_
      rintro e w7 ⟨rfl, b7⟩
      have A7 : Hid (Below w.heap.size w w7) := chain A6.out b7
      have Xq7 : Hid (RowAt w7 qo qm qc q) := Xq6.out.below b7
      have Xu7 : Hid (RowAt w7 uo um uc u) := Xu6.out.below b7
      have Xt7 : Hid (RowAt w7 to tm tc t) := Xt6.out.below b7
      clear b7 A6 Xq6 Xu6 Xt6
      go_wp2
      go_ret
      exact ⟨rfl, A7.out⟩
    · have HV : Hid (val xs = val ys) := heq
      clear heq
      go_enter Try.func9, Try.ntmps9
      go_wp2_with fail
      refine (heavy_no _ _ _ _ _ _ _ k0 k1).mono ?_
      rintro e w' ⟨rfl, rfl⟩
      go_wp2_with fail
      refine (shown_any _).mono ?_
      rintro e w1 ⟨rfl, b1⟩
      have A1 : Hid (Below w.heap.size w w1) := b1
      clear b1
      go_wp2_with fail
      refine (sub_zero _ _ _ _ _ _ xs ys _ (R0.out.below A1.out) (R1.out.below A1.out) (by omega) (by omega) HV.out).mono ?_
      rintro e w2 ⟨po, pc, rfl, -, b2⟩
      have A2 : Hid (Below w.heap.size w w2) := chain A1.out b2
      clear b2 A1
      go_wp2_with fail
      refine (sub_zero _ _ _ _ _ _ ys xs _ (R1.out.below A2.out) (R0.out.below A2.out) (by omega) (by omega) HV.out.symm).mono ?_
      rintro e w3 ⟨qo, qc, rfl, -, b3⟩
      have A3 : Hid (Below w.heap.size w w3) := chain A2.out b3
      clear b3 A2
      go_wp2_with fail
      refine (cmp_eq _ _ _ _ _ _ xs ys _ (R0.out.below A3.out) (R1.out.below A3.out) (by omega) (by omega) HV.out).mono ?_
      rintro e w4 ⟨rfl, b4⟩
      have A4 : Hid (Below w.heap.size w w4) := chain A3.out b4
      clear b4 A3
      go_wp2
      go_ret
      exact ⟨rfl, A4.out⟩
    · have HV : Hid (val ys < val xs) := hgt
      clear hgt
      go_enter Try.func9, Try.ntmps9
      go_wp2_with fail
      refine (heavy_no _ _ _ _ _ _ _ k0 k1).mono ?_
      rintro e w' ⟨rfl, rfl⟩
      go_wp2_with fail
      refine (shown_any _).mono ?_
      rintro e w1 ⟨rfl, b1⟩
      have A1 : Hid (Below w.heap.size w w1) := b1
      clear b1
      go_wp2_with fail
      refine (sub_ok _ _ _ _ _ _ xs ys _ (R0.out.below A1.out) (R1.out.below A1.out) (by omega) (by omega) (Int.le_of_lt HV.out)).mono ?_
      rintro e w2 ⟨po, pm, pc, p, rfl, hp, np, mp, b2⟩
      have Np : Hid _ := np
      clear np
      have A2 : Hid (Below w.heap.size w w2) := chain A1.out b2
      have Xp2 : Hid (RowAt w2 po pm pc p) := hp
      clear b2 A1 hp
      go_wp2_with fail
      refine (sub_no _ _ _ _ _ _ ys xs _ (R1.out.below A2.out) (R0.out.below A2.out) (by omega) (by omega) HV.out).mono ?_
      rintro e w3 ⟨qo, qc, rfl, -, b3⟩
      have A3 : Hid (Below w.heap.size w w3) := chain A2.out b3
      have Xp3 : Hid (RowAt w3 po pm pc p) := Xp2.out.below b3
      clear b3 A2 Xp2
      go_wp2_with fail
      refine (cmp_gt _ _ _ _ _ _ xs ys _ (R0.out.below A3.out) (R1.out.below A3.out) (by omega) (by omega) HV.out).mono ?_
      rintro e w4 ⟨rfl, b4⟩
      have A4 : Hid (Below w.heap.size w w4) := chain A3.out b4
      have Xp4 : Hid (RowAt w4 po pm pc p) := Xp3.out.below b4
      clear b4 A3 Xp3
      go_wp2_with fail
      refine (add_any _ _ _ _ _ _ p ys _ Xp4.out (R1.out.below A4.out) (by omega) (by omega)).mono ?_
      rintro e w5 ⟨uo, um, uc, u, rfl, hu, nu, mu, b5⟩
      have Nu : Hid _ := nu
      clear nu
      have A5 : Hid (Below w.heap.size w w5) := chain A4.out b5
      have Xp5 : Hid (RowAt w5 po pm pc p) := Xp4.out.below b5
      have Xu5 : Hid (RowAt w5 uo um uc u) := hu
      clear b5 A4 Xp4 hu
      go_wp2_with fail
      refine (rtrim_any _ _ _ xs _ (R0.out.below A5.out) (by omega)).mono ?_
      rintro e w6 ⟨to, tm, tc, t, rfl, ht, nt, mt, b6⟩
      have Nt : Hid _ := nt
      clear nt
      have A6 : Hid (Below w.heap.size w w6) := chain A5.out b6
      have Xp6 : Hid (RowAt w6 po pm pc p) := Xp5.out.below b6
      have Xu6 : Hid (RowAt w6 uo um uc u) := Xu5.out.below b6
      have Xt6 : Hid (RowAt w6 to tm tc t) := ht
      clear b6 A5 Xp5 Xu5 ht
      go_wp2_with fail
      refine (same_yes _ _ _ _ _ _ u t _ Xu6.out Xt6.out (Nu.out.one (by rw [Np.out.val, Int.sub_add_cancel]; exact Nt.out))).mono ?_
      rintro e w7 ⟨rfl, b7⟩
      have A7 : Hid (Below w.heap.size w w7) := chain A6.out b7
      have Xp7 : Hid (RowAt w7 po pm pc p) := Xp6.out.below b7
      have Xu7 : Hid (RowAt w7 uo um uc u) := Xu6.out.below b7
      have Xt7 : Hid (RowAt w7 to tm tc t) := Xt6.out.below b7
      clear b7 A6 Xp6 Xu6 Xt6
      go_wp2
      go_ret
      exact ⟨rfl, A7.out⟩

set_option maxRecDepth 100000 in
theorem lifted (os : Os) (started : os.Started) (H : Type) (enc : TypeId × Value → H) :
    ReturnsInHanded {} Try.checked os 9 .any (Rows.limbSubSpec.pre6 enc Try.prog Try.f9 Rows.limbSubRow.domain false) (Rows.limbSubSpec.post enc Try.prog Try.f9 false true false false) := by
  refine returnsInHanded_of_change (C := Try.checked) own started (by kernel_rfl) Try.func9
    (ChangeSpec.witness6 (enc := enc) (C := Try.checked) false ⟨#[], #[.slice none 0 0, .slice none 0 0], []⟩ 8 (by kernel_rfl) (by kernel_rfl) (by kernel_rfl) (by kernel_rfl)) ?_
  intro W base args ds gs before hval0 hW hcnd _
  have hval : ∀ (j : Nat) t v, Try.f9.params[j]? = some t → args[j]? = some v → Value.okWide Try.prog W .any base t v := hval0
  have hW' := hW
  obtain ⟨p, q, hA0, hV, rfl, hfz, hnd⟩ := hW
  have hA : DataW.TrodAll enc Try.prog W 0 (fun _ => true) true Try.f9.params.toList args.toList ds p := hA0
  rw [Try.params9] at hA hval
  obtain ⟨v0, vs0, d0, ds0, p0, q0, hargs, rfl, rfl, h0, r0⟩ := trodAll_cons hA
  obtain ⟨v1, vs1, d1, ds1, p1, q1, rfl, rfl, rfl, h1, r1⟩ := trodAll_cons r0
  obtain ⟨rfl, rfl, rfl⟩ := trodAll_nil r1
  obtain rfl : args = #[v0, v1] := by cases args; simp_all
  obtain ⟨rfl, rfl⟩ := trodVars_none hV
  obtain ⟨a0, len0, cap0, rfl⟩ := okWide_slice Try.underlying22 (hval 0 22 v0 rfl rfl)
  have k0 := h0
  have lt0 : ∀ x ∈ p0, x.block < W.heap.size := by obtain ⟨m, hm⟩ := k0; exact DataW.trod_lt m _ _ _ hm
  obtain ⟨z0, w0⟩ : ∃ zs, IsRow .u64 W a0 len0 cap0 zs := by
    obtain ⟨fuel, hf⟩ := h0
    rcases open_ints Try.underlying22 Try.underlying36 (by kernel_rfl) hf with ⟨hcs, _⟩ | ⟨x, l, c, zs, hcs, _, hl, hm, hz, _, hcell, hwz⟩
    · simp [Value.cells] at hcs
      obtain ⟨rfl, rfl, rfl⟩ := hcs
      exact ⟨[], .inl ⟨rfl, rfl, rfl, rfl⟩⟩
    · simp [Value.cells] at hcs
      obtain ⟨rfl, rfl, rfl⟩ := hcs
      exact ⟨zs, .inr ⟨_, rfl, hl, hm, by simpa using hz, hcell, hwz⟩⟩
  obtain ⟨a1, len1, cap1, rfl⟩ := okWide_slice Try.underlying22 (hval 1 22 v1 rfl rfl)
  have k1 := h1
  have lt1 : ∀ x ∈ p1, x.block < W.heap.size := by obtain ⟨m, hm⟩ := k1; exact DataW.trod_lt m _ _ _ hm
  obtain ⟨z1, w1⟩ : ∃ zs, IsRow .u64 W a1 len1 cap1 zs := by
    obtain ⟨fuel, hf⟩ := h1
    rcases open_ints Try.underlying22 Try.underlying36 (by kernel_rfl) hf with ⟨hcs, _⟩ | ⟨x, l, c, zs, hcs, _, hl, hm, hz, _, hcell, hwz⟩
    · simp [Value.cells] at hcs
      obtain ⟨rfl, rfl, rfl⟩ := hcs
      exact ⟨[], .inl ⟨rfl, rfl, rfl, rfl⟩⟩
    · simp [Value.cells] at hcs
      obtain ⟨rfl, rfl, rfl⟩ := hcs
      exact ⟨zs, .inr ⟨_, rfl, hl, hm, by simpa using hz, hcell, hwz⟩⟩
  clear hA0 hval0
  refine (walk a0 len0 cap0 z0 a1 len1 cap1 z1 W w0 w1).mono fun e W' ⟨he, bel⟩ => ?_
  subst he
  exact ⟨_, rfl, _, _, _, [], _, [], hW', trodAll_mk1 (shut_bool Try.underlying4 _), (trodAll_cons_mk (Below.trod laidOut (by kernel_rfl) (of_decide_eq_true (by kernel_rfl)) k0 bel lt0) (trodAll_cons_mk (Below.trod laidOut (by kernel_rfl) (of_decide_eq_true (by kernel_rfl)) k1 bel lt1) trodAll_mk0)), rfl, bel.frame _, fun h => by cases h⟩

theorem over : Rows.limbSubRow.holds Try.pinned (OpenSpec.ofChange Rows.limbSubSpec) :=
  OpenClaim.holds_of_wide 9 Try.f9 rfl rfl rfl rfl rfl rfl rfl ⟨rfl, rfl, rfl, rfl, rfl⟩ rfl rfl rfl rfl rfl (by kernel_rfl) Try.func9 (by kernel_rfl)
    (of_decide_eq_true (by kernel_rfl)) (by unfold Func.isWrapper; first | (rw [if_pos (by decide +kernel)]; kernel_rfl) | (rw [if_neg (by decide +kernel)]; exact ⟨rfl, rfl⟩))
    (fun os started H enc _ => lifted os started H enc)

theorem proved : Rows.LimbSubSaid := over
#print axioms proved
end Go.Proofs.Ytkphaoooeejohaa.limbSub
