/-
  Proved here: for every input LimbShifts returns true, and leaves its arguments as they were. No condition.
-/
import Derived.Test.YtkphaoooeejohaaCame
import Derived.Test.YtkphaoooeejohaaRShift
namespace Go.Proofs.Ytkphaoooeejohaa.limbShifts
open Go.ChangeShapes Go.WideShapes Go.ChangeAt Go.RowKit
open Go.ChangeMaps (open_string shut_string)
set_option linter.unusedVariables false

theorem pow_far (L d e : Nat) (h : e = 64 * L + d) : BB ^ L ≤ (2 : Int) ^ e := by
  subst h
  rw [pow_split]
  have h3 : (1 : Int) ≤ 2 ^ d := two_pos _
  have := Int.mul_le_mul_of_nonneg_left h3 (Int.le_of_lt (pw_pos L))
  simpa using this

theorem far_zero {xs : List Int} (hx : Limbs xs) (hl : xs.length ≤ 30) : val xs / 2 ^ 100000 = 0 := by
  have vb := val_bd hx
  have h1 := pw_le hl
  have h2 := pow_far 30 98080 100000 rfl
  generalize (2 : Int) ^ 100000 = T at *
  exact Int.ediv_eq_zero_of_lt vb.1 (by omega)

set_option maxRecDepth 100000 in
set_option maxHeartbeats 1000000 in
theorem walk (a0 : Option Addr) (len0 cap0 : Nat) (z0 : List Int) (a1 : Int) (w : World) (w0 : IsRow .u64 w a0 len0 cap0 z0) (w1 : (Lit.int .i64 a1).wf = true) :
    Calls Try.prog 4 #[.slice a0 len0 cap0, .int .i64 a1] w fun e w' => e = .returned (.bool true) ∧ Below w.heap.size w w' := by
  have r0 := w0.row
  generalize z0.take len0 = xs at r0
  have m0 : len0 ≤ maxLen := Nat.le_trans r0.fits r0.most
  clear w0
  have R0 : Hid (RowAt w a0 len0 cap0 xs) := r0
  clear r0
  have hu := bounds_i64 w1
  clear w1
  have hu1 := hu.1
  have hu2 := hu.2
  clear hu
  have hnil : (0 : Nat) ≤ maxLen := Nat.zero_le _
  by_cases h1 : 30 < len0
  · clear R0
    go_enter Try.func4, Try.ntmps4
    go_wp2_with fail
    refine (heavy_yes _ _ _ _ _ _ _ m0 hnil (Or.inl h1)).mono ?_
    rintro e w' ⟨rfl, rfl⟩
    go_wp2_with fail
    refine (shown_any _).mono ?_
    rintro e w2 ⟨rfl, hb⟩
    go_wp2
    go_ret
    exact ⟨rfl, hb⟩
  · have k0 : len0 ≤ 30 := by omega
    clear h1 m0
    rcases Int.lt_or_le a1 (-100000) with hf | hf
    · go_enter Try.func4, Try.ntmps4
      go_wp2_with fail
      refine (heavy_no _ _ _ _ _ _ _ k0 (by omega)).mono ?_
      rintro e w' ⟨rfl, rfl⟩
      go_wp2_with fail
      refine (shown_any _).mono ?_
      rintro e w1 ⟨rfl, b1⟩
      have A1 : Hid (Below w.heap.size w w1) := b1
      clear b1
      go_wp2_with fail
      refine (shift_any _ _ _ _ xs _ (R0.out.below A1.out) (by omega) (by omega) (by omega)).mono ?_
      rintro e w2 ⟨so, sm, sc, s, rfl, hs, ns, ms, b2⟩
      have Ns : Hid _ := ns
      clear ns
      have A2 : Hid (Below w.heap.size w w2) := chain A1.out b2
      have Xs2 : Hid (RowAt w2 so sm sc s) := hs
      clear b2 A1 hs
      go_wp2_with fail
      refine (rshift_down _ _ _ 100000 _ xs _ (R0.out.below A2.out) (by omega) (by omega) (by omega) (by omega)).mono ?_
      rintro e w3 ⟨to, tm, tc, t, rfl, ht, nt, b3⟩
      have Nt : Hid _ := nt
      clear nt
      have A3 : Hid (Below w.heap.size w w3) := chain A2.out b3
      have Xs3 : Hid (RowAt w3 so sm sc s) := Xs2.out.below b3
      have Xt3 : Hid (RowAt w3 to tm tc t) := ht
      clear b3 A2 Xs2 ht
      go_wp2_with fail
      refine (same_yes _ _ _ _ _ _ s t _ Xs3.out Xt3.out (Ns.out.one (by have h := Nt.out; rw [far_zero R0.out.limbs (by rw [R0.out.len]; exact k0)] at h; rw [shiftI, if_pos hf]; exact h))).mono ?_
      rintro e w4 ⟨rfl, b4⟩
      have A4 : Hid (Below w.heap.size w w4) := chain A3.out b4
      have Xs4 : Hid (RowAt w4 so sm sc s) := Xs3.out.below b4
      have Xt4 : Hid (RowAt w4 to tm tc t) := Xt3.out.below b4
      clear b4 A3 Xs3 Xt3
      go_wp2
      go_ret
      exact ⟨rfl, A4.out⟩
    · rcases Int.lt_or_le a1 0 with hz | hz
      · obtain ⟨N, hN⟩ := Int.eq_ofNat_of_zero_le (show 0 ≤ -a1 by omega)
        have HN : Hid (-a1 = (N : Int)) := hN
        have hN0 : 0 < N := by omega
        have hN1 : N ≤ 100000 := by omega
        clear hN
        go_enter Try.func4, Try.ntmps4
        go_wp2_with fail
        refine (heavy_no _ _ _ _ _ _ _ k0 (by omega)).mono ?_
        rintro e w' ⟨rfl, rfl⟩
        go_wp2_with fail
        refine (shown_any _).mono ?_
        rintro e w1 ⟨rfl, b1⟩
        have A1 : Hid (Below w.heap.size w w1) := b1
        clear b1
        go_wp2_with fail
        refine (shift_any _ _ _ _ xs _ (R0.out.below A1.out) (by omega) (by omega) (by omega)).mono ?_
        rintro e w2 ⟨so, sm, sc, s, rfl, hs, ns, ms, b2⟩
        have Ns : Hid _ := ns
        clear ns
        have A2 : Hid (Below w.heap.size w w2) := chain A1.out b2
        have Xs2 : Hid (RowAt w2 so sm sc s) := hs
        clear b2 A1 hs
        go_wp2_with fail
        refine (rshift_down _ _ _ N _ xs _ (R0.out.below A2.out) (by omega) hN0 hN1 (by have := HN.out; omega)).mono ?_
        rintro e w3 ⟨to, tm, tc, t, rfl, ht, nt, b3⟩
        have Nt : Hid _ := nt
        clear nt
        have A3 : Hid (Below w.heap.size w w3) := chain A2.out b3
        have Xs3 : Hid (RowAt w3 so sm sc s) := Xs2.out.below b3
        have Xt3 : Hid (RowAt w3 to tm tc t) := ht
        clear b3 A2 Xs2 ht
        go_wp2_with fail
        refine (same_yes _ _ _ _ _ _ s t _ Xs3.out Xt3.out (Ns.out.one (by have h := Nt.out; rw [shiftI, if_neg (by omega), if_pos hz, show (-a1).toNat = N by have := HN.out; omega]; exact h))).mono ?_
        rintro e w4 ⟨rfl, b4⟩
        have A4 : Hid (Below w.heap.size w w4) := chain A3.out b4
        have Xs4 : Hid (RowAt w4 so sm sc s) := Xs3.out.below b4
        have Xt4 : Hid (RowAt w4 to tm tc t) := Xt3.out.below b4
        clear b4 A3 Xs3 Xt3
        go_wp2
        go_ret
        exact ⟨rfl, A4.out⟩
      · go_enter Try.func4, Try.ntmps4
        go_wp2_with fail
        refine (heavy_no _ _ _ _ _ _ _ k0 (by omega)).mono ?_
        rintro e w' ⟨rfl, rfl⟩
        go_wp2_with fail
        refine (shown_any _).mono ?_
        rintro e w1 ⟨rfl, b1⟩
        have A1 : Hid (Below w.heap.size w w1) := b1
        clear b1
        go_wp2_with fail
        refine (shift_any _ _ _ _ xs _ (R0.out.below A1.out) (by omega) (by omega) (by omega)).mono ?_
        rintro e w2 ⟨so, sm, sc, s, rfl, hs, ns, ms, b2⟩
        have Ns : Hid _ := ns
        clear ns
        have A2 : Hid (Below w.heap.size w w2) := chain A1.out b2
        have Xs2 : Hid (RowAt w2 so sm sc s) := hs
        clear b2 A1 hs
        go_wp2_with fail
        refine (rshift_up _ _ _ _ xs _ (R0.out.below A2.out) (by omega) (by omega) (by omega)).mono ?_
        rintro e w3 ⟨to, tm, tc, t, rfl, ht, nt, b3⟩
        have Nt : Hid _ := nt
        clear nt
        have A3 : Hid (Below w.heap.size w w3) := chain A2.out b3
        have Xs3 : Hid (RowAt w3 so sm sc s) := Xs2.out.below b3
        have Xt3 : Hid (RowAt w3 to tm tc t) := ht
        clear b3 A2 Xs2 ht
        go_wp2_with fail
        refine (same_yes _ _ _ _ _ _ s t _ Xs3.out Xt3.out (Ns.out.one Nt.out)).mono ?_
        rintro e w4 ⟨rfl, b4⟩
        have A4 : Hid (Below w.heap.size w w4) := chain A3.out b4
        have Xs4 : Hid (RowAt w4 so sm sc s) := Xs3.out.below b4
        have Xt4 : Hid (RowAt w4 to tm tc t) := Xt3.out.below b4
        clear b4 A3 Xs3 Xt3
        go_wp2
        go_ret
        exact ⟨rfl, A4.out⟩

set_option maxRecDepth 100000 in
theorem lifted (os : Os) (started : os.Started) (H : Type) (enc : TypeId × Value → H) :
    ReturnsInHanded {} Try.checked os 4 .any (Rows.limbShiftsSpec.pre6 enc Try.prog Try.f4 Rows.limbShiftsRow.domain false) (Rows.limbShiftsSpec.post enc Try.prog Try.f4 false true false false) := by
  refine returnsInHanded_of_change (C := Try.checked) own started (by kernel_rfl) Try.func4
    (ChangeSpec.witness6 (enc := enc) (C := Try.checked) false ⟨#[], #[.slice none 0 0, .int .i64 0], []⟩ 8 (by kernel_rfl) (by kernel_rfl) (by kernel_rfl) (by kernel_rfl)) ?_
  intro W base args ds gs before hval0 hW hcnd _
  have hval : ∀ (j : Nat) t v, Try.f4.params[j]? = some t → args[j]? = some v → Value.okWide Try.prog W .any base t v := hval0
  have hW' := hW
  obtain ⟨p, q, hA0, hV, rfl, hfz, hnd⟩ := hW
  have hA : DataW.TrodAll enc Try.prog W 0 (fun _ => true) true Try.f4.params.toList args.toList ds p := hA0
  rw [Try.params4] at hA hval
  obtain ⟨v0, vs0, d0, ds0, p0, q0, hargs, rfl, rfl, h0, r0⟩ := trodAll_cons hA
  obtain ⟨v1, vs1, d1, ds1, p1, q1, rfl, rfl, rfl, h1, r1⟩ := trodAll_cons r0
  obtain ⟨rfl, rfl, rfl⟩ := trodAll_nil r1
  obtain rfl : args = #[v0, v1] := by cases args; simp_all
  obtain ⟨rfl, rfl⟩ := trodVars_none hV
  obtain ⟨a0, len0, cap0, rfl⟩ := okWide_slice Try.underlying22 (hval 0 22 v0 rfl rfl)
  have k0 := h0
  have lt0 : ∀ x ∈ p0, x.block < W.heap.size := by obtain ⟨m, hm⟩ := k0; exact DataW.trod_lt m _ _ _ hm
  obtain ⟨z0, w0⟩ : ∃ zs, IsRow .u64 W a0 len0 cap0 zs := by
    obtain ⟨fuel, hf⟩ := h0
    rcases open_ints Try.underlying22 Try.underlying36 (by kernel_rfl) hf with ⟨hcs, _⟩ | ⟨x, l, c, zs, hcs, _, hl, hm, hz, _, hcell, hwz⟩
    · simp [Value.cells] at hcs
      obtain ⟨rfl, rfl, rfl⟩ := hcs
      exact ⟨[], .inl ⟨rfl, rfl, rfl, rfl⟩⟩
    · simp [Value.cells] at hcs
      obtain ⟨rfl, rfl, rfl⟩ := hcs
      exact ⟨zs, .inr ⟨_, rfl, hl, hm, by simpa using hz, hcell, hwz⟩⟩
  obtain ⟨a1, rfl, rfl, rfl, w1⟩ := open_int Try.underlying3 (hval 1 3 v1 rfl rfl) h1
  clear hA0 hval0
  refine (walk a0 len0 cap0 z0 a1 W w0 w1).mono fun e W' ⟨he, bel⟩ => ?_
  subst he
  exact ⟨_, rfl, _, _, _, [], _, [], hW', trodAll_mk1 (shut_bool Try.underlying4 _), (trodAll_cons_mk (Below.trod laidOut (by kernel_rfl) (of_decide_eq_true (by kernel_rfl)) k0 bel lt0) (trodAll_cons_mk (shut_int Try.underlying3 w1) trodAll_mk0)), rfl, bel.frame _, fun h => by cases h⟩

theorem over : Rows.limbShiftsRow.holds Try.pinned (OpenSpec.ofChange Rows.limbShiftsSpec) :=
  OpenClaim.holds_of_wide 4 Try.f4 rfl rfl rfl rfl rfl rfl rfl ⟨rfl, rfl, rfl, rfl, rfl⟩ rfl rfl rfl rfl rfl (by kernel_rfl) Try.func4 (by kernel_rfl)
    (of_decide_eq_true (by kernel_rfl)) (by unfold Func.isWrapper; first | (rw [if_pos (by decide +kernel)]; kernel_rfl) | (rw [if_neg (by decide +kernel)]; exact ⟨rfl, rfl⟩))
    (fun os started H enc _ => lifted os started H enc)

theorem proved : Rows.LimbShiftsSaid := over
#print axioms proved
end Go.Proofs.Ytkphaoooeejohaa.limbShifts
