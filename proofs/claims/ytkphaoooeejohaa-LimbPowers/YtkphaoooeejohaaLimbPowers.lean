/-
  Proved here: for every input LimbPowers returns true, and leaves its arguments as they were. No condition.
-/
import Derived.Test.YtkphaoooeejohaaCame
import Derived.Test.YtkphaoooeejohaaRTrim
import Derived.Test.YtkphaoooeejohaaShift
import Derived.Test.YtkphaoooeejohaaBits
namespace Go.Proofs.Ytkphaoooeejohaa.limbPowers
open Go.ChangeShapes Go.WideShapes Go.ChangeAt Go.RowKit
open Go.ChangeMaps (open_string shut_string)
set_option linter.unusedVariables false

theorem shift_back (v k : Int) (h0 : 0 ≤ k) (h1 : k ≤ 1000) : shiftI (shiftI v k) (-k) = v := by
  obtain ⟨n, rfl⟩ := Int.eq_ofNat_of_zero_le h0
  have e1 : shiftI v n = v * 2 ^ n := by rw [shiftI, if_neg (by omega), if_neg (by omega), show (min (n : Int) 1000).toNat = n by omega]
  rw [e1]
  by_cases h : n = 0
  · subst h
    rw [shiftI, if_neg (by simp), if_neg (by simp)]
    have e2 : (min (-((0 : Nat) : Int)) 1000).toNat = 0 := by decide
    rw [e2]
    simp
  · rw [shiftI, if_neg (by omega), if_pos (by omega), show (-(-(n : Int))).toNat = n by omega, Int.mul_ediv_cancel _ (by have := two_pos n; omega)]

theorem bits_shift (v k : Int) (hv : 0 < v) (h0 : 0 ≤ k) (h1 : k ≤ 1000) : bitsI v + k = bitsI (shiftI v k) := by
  obtain ⟨n, rfl⟩ := Int.eq_ofNat_of_zero_le h0
  have e1 : shiftI v n = v * 2 ^ n := by rw [shiftI, if_neg (by omega), if_neg (by omega), show (min (n : Int) 1000).toNat = n by omega]
  have hp := two_pos n
  have e := bitLen_up (v * 2 ^ n) n (2 ^ n) (Int.mul_nonneg (by omega) (by omega)) rfl (by
    have h : (1 : Int) * 2 ^ n ≤ v * 2 ^ n := Int.mul_le_mul_of_nonneg_right (by omega) (by omega)
    rw [Int.one_mul] at h
    simpa using h)
  have hc : (((2 ^ n : Nat) : Int)) = 2 ^ n := by simp
  rw [hc, Int.mul_ediv_cancel _ (by omega)] at e
  rw [e1]
  unfold bitsI
  rw [e]
  omega

theorem bits_le {xs : List Int} (hx : Limbs xs) : bitsI (val xs) ≤ 64 * (xs.length : Int) := by
  have vb := val_bd hx
  generalize xs.length = L at *
  have h2 := bitLen_spec (val xs).toNat
  by_cases h0 : (val xs).toNat = 0
  · unfold bitsI
    rw [h0]
    simp [bitLen]
    omega
  · have h3 := h2.2 h0
    have hB2 : BB ^ L = ((2 ^ (64 * L) : Nat) : Int) := by rw [BB_pow, ← Int.pow_mul]; simp
    have h4 : (val xs).toNat < 2 ^ (64 * L) := by rw [hB2] at vb; omega
    have h5 : 2 ^ (bitLen (val xs).toNat - 1) < 2 ^ (64 * L) := Nat.lt_of_le_of_lt h3 h4
    have h6 := (Nat.pow_lt_pow_iff_right (by omega)).1 h5
    unfold bitsI
    omega

theorem bits_bd {xs : List Int} (hx : Limbs xs) (hl : xs.length ≤ 30) (h0 : val xs ≠ 0) : 0 < bitsI (val xs) ∧ bitsI (val xs) ≤ 2000 := by
  have h := bits_le hx
  have h2 := bitLen_spec (val xs).toNat
  have vb := val_bd hx
  have hne : (val xs).toNat ≠ 0 := by omega
  have h7 : bitLen (val xs).toNat ≠ 0 := by
    intro e
    have := h2.1
    rw [e] at this
    simp at this
    omega
  refine ⟨by unfold bitsI; omega, by omega⟩

set_option maxRecDepth 100000 in
set_option maxHeartbeats 1000000 in
theorem walk (a0 : Option Addr) (len0 cap0 : Nat) (z0 : List Int) (a1 : Int) (w : World) (w0 : IsRow .u64 w a0 len0 cap0 z0) (w1 : (Lit.int .u16 a1).wf = true) :
    Calls Try.prog 8 #[.slice a0 len0 cap0, .int .u16 a1] w fun e w' => e = .returned (.bool true) ∧ Below w.heap.size w w' := by
  have r0 := w0.row
  generalize z0.take len0 = xs at r0
  have m0 : len0 ≤ maxLen := Nat.le_trans r0.fits r0.most
  clear w0
  have R0 : Hid (RowAt w a0 len0 cap0 xs) := r0
  clear r0
  have hu := bounds_u16 w1
  clear w1
  have hu1 := hu.1
  have hu2 := hu.2
  clear hu
  have q0 : 0 ≤ a1 % 1001 := by omega
  have q1 : a1 % 1001 ≤ 1000 := by omega
  have hnil : (0 : Nat) ≤ maxLen := Nat.zero_le _
  by_cases h1 : 30 < len0
  · clear R0
    go_enter Try.func8, Try.ntmps8
    go_wp2_with fail
    refine (heavy_yes _ _ _ _ _ _ _ m0 hnil (Or.inl h1)).mono ?_
    rintro e w' ⟨rfl, rfl⟩
    go_wp2_with fail
    refine (shown_any _).mono ?_
    rintro e w2 ⟨rfl, hb⟩
    go_wp2
    go_ret
    exact ⟨rfl, hb⟩
  · have k0 : len0 ≤ 30 := by omega
    clear h1 m0
    by_cases hz : val xs = 0
    · have HZ : Hid (val xs = 0) := hz
      clear hz
      go_enter Try.func8, Try.ntmps8
      go_wp2_with fail
      refine (heavy_no _ _ _ _ _ _ _ k0 (by omega)).mono ?_
      rintro e w' ⟨rfl, rfl⟩
      go_wp2_with fail
      refine (shown_any _).mono ?_
      rintro e w1 ⟨rfl, b1⟩
      have A1 : Hid (Below w.heap.size w w1) := b1
      clear b1
      go_wp2_with fail
      refine (shift_any _ _ _ _ xs _ (R0.out.below A1.out) (by omega) (by omega) (by omega)).mono ?_
      rintro e w2 ⟨so, sm, sc, s, rfl, hs, ns, ms, b2⟩
      have Ns : Hid _ := ns
      clear ns
      have A2 : Hid (Below w.heap.size w w2) := chain A1.out b2
      have Xs2 : Hid (RowAt w2 so sm sc s) := hs
      clear b2 A1 hs
      go_wp2_with fail
      refine (bits_any _ _ _ xs _ (R0.out.below A2.out) (by omega) 0 (by rw [HZ.out]; rfl)).mono ?_
      rintro e w3 ⟨rfl, b3⟩
      have A3 : Hid (Below w.heap.size w w3) := chain A2.out b3
      have Xs3 : Hid (RowAt w3 so sm sc s) := Xs2.out.below b3
      clear b3 A2 Xs2
      go_wp2_with fail
      refine (shift_any _ _ _ _ s _ Xs3.out (by omega) (by omega) (by omega)).mono ?_
      rintro e w4 ⟨to, tm, tc, t, rfl, ht, nt, mt, b4⟩
      have Nt : Hid _ := nt
      clear nt
      have A4 : Hid (Below w.heap.size w w4) := chain A3.out b4
      have Xs4 : Hid (RowAt w4 so sm sc s) := Xs3.out.below b4
      have Xt4 : Hid (RowAt w4 to tm tc t) := ht
      clear b4 A3 Xs3 ht
      go_wp2_with fail
      refine (rtrim_any _ _ _ xs _ (R0.out.below A4.out) (by omega)).mono ?_
      rintro e w5 ⟨uo, um, uc, u, rfl, hu, nu, mu, b5⟩
      have Nu : Hid _ := nu
      clear nu
      have A5 : Hid (Below w.heap.size w w5) := chain A4.out b5
      have Xs5 : Hid (RowAt w5 so sm sc s) := Xs4.out.below b5
      have Xt5 : Hid (RowAt w5 to tm tc t) := Xt4.out.below b5
      have Xu5 : Hid (RowAt w5 uo um uc u) := hu
      clear b5 A4 Xs4 Xt4 hu
      go_wp2_with fail
      refine (same_yes _ _ _ _ _ _ t u _ Xt5.out Xu5.out (Nt.out.one (by rw [Ns.out.val, shift_back _ _ q0 q1]; exact Nu.out))).mono ?_
      rintro e w6 ⟨rfl, b6⟩
      have A6 : Hid (Below w.heap.size w w6) := chain A5.out b6
      have Xs6 : Hid (RowAt w6 so sm sc s) := Xs5.out.below b6
      have Xt6 : Hid (RowAt w6 to tm tc t) := Xt5.out.below b6
      have Xu6 : Hid (RowAt w6 uo um uc u) := Xu5.out.below b6
      clear b6 A5 Xs5 Xt5 Xu5
      go_wp2_with fail
      refine (bits_any _ _ _ s _ Xs6.out (by omega) 0 (by rw [Ns.out.val, HZ.out, shiftI, if_neg (by omega), if_neg (by omega), Int.zero_mul]; rfl)).mono ?_
      rintro e w7 ⟨rfl, b7⟩
      have A7 : Hid (Below w.heap.size w w7) := chain A6.out b7
      have Xs7 : Hid (RowAt w7 so sm sc s) := Xs6.out.below b7
      have Xt7 : Hid (RowAt w7 to tm tc t) := Xt6.out.below b7
      have Xu7 : Hid (RowAt w7 uo um uc u) := Xu6.out.below b7
      clear b7 A6 Xs6 Xt6 Xu6
      go_wp2
      go_ret
      exact ⟨rfl, A7.out⟩
    · have HZ : Hid (¬ val xs = 0) := hz
      clear hz
      have hbd := bits_bd R0.out.limbs (by rw [R0.out.len]; exact k0) HZ.out
      obtain ⟨v, hv⟩ : ∃ v, v = bitsI (val xs) := ⟨_, rfl⟩
      rw [← hv] at hbd
      have hb1 := hbd.1
      have hb2 := hbd.2
      have HV : Hid (v = bitsI (val xs)) := hv
      have VP : Hid (0 < val xs) := by have h := (val_bd R0.out.limbs).1; have h2 := HZ.out; show 0 < val xs; omega
      clear hv hbd
      go_enter Try.func8, Try.ntmps8
      go_wp2_with fail
      refine (heavy_no _ _ _ _ _ _ _ k0 (by omega)).mono ?_
      rintro e w' ⟨rfl, rfl⟩
      go_wp2_with fail
      refine (shown_any _).mono ?_
      rintro e w1 ⟨rfl, b1⟩
      have A1 : Hid (Below w.heap.size w w1) := b1
      clear b1
      go_wp2_with fail
      refine (shift_any _ _ _ _ xs _ (R0.out.below A1.out) (by omega) (by omega) (by omega)).mono ?_
      rintro e w2 ⟨so, sm, sc, s, rfl, hs, ns, ms, b2⟩
      have Ns : Hid _ := ns
      clear ns
      have A2 : Hid (Below w.heap.size w w2) := chain A1.out b2
      have Xs2 : Hid (RowAt w2 so sm sc s) := hs
      clear b2 A1 hs
      go_wp2_with fail
      refine (bits_any _ _ _ xs _ (R0.out.below A2.out) (by omega) v HV.out).mono ?_
      rintro e w3 ⟨rfl, b3⟩
      have A3 : Hid (Below w.heap.size w w3) := chain A2.out b3
      have Xs3 : Hid (RowAt w3 so sm sc s) := Xs2.out.below b3
      clear b3 A2 Xs2
      go_wp2_with fail
      refine (shift_any _ _ _ _ s _ Xs3.out (by omega) (by omega) (by omega)).mono ?_
      rintro e w4 ⟨to, tm, tc, t, rfl, ht, nt, mt, b4⟩
      have Nt : Hid _ := nt
      clear nt
      have A4 : Hid (Below w.heap.size w w4) := chain A3.out b4
      have Xs4 : Hid (RowAt w4 so sm sc s) := Xs3.out.below b4
      have Xt4 : Hid (RowAt w4 to tm tc t) := ht
      clear b4 A3 Xs3 ht
      go_wp2_with fail
      refine (rtrim_any _ _ _ xs _ (R0.out.below A4.out) (by omega)).mono ?_
      rintro e w5 ⟨uo, um, uc, u, rfl, hu, nu, mu, b5⟩
      have Nu : Hid _ := nu
      clear nu
      have A5 : Hid (Below w.heap.size w w5) := chain A4.out b5
      have Xs5 : Hid (RowAt w5 so sm sc s) := Xs4.out.below b5
      have Xt5 : Hid (RowAt w5 to tm tc t) := Xt4.out.below b5
      have Xu5 : Hid (RowAt w5 uo um uc u) := hu
      clear b5 A4 Xs4 Xt4 hu
      go_wp2_with fail
      refine (same_yes _ _ _ _ _ _ t u _ Xt5.out Xu5.out (Nt.out.one (by rw [Ns.out.val, shift_back _ _ q0 q1]; exact Nu.out))).mono ?_
      rintro e w6 ⟨rfl, b6⟩
      have A6 : Hid (Below w.heap.size w w6) := chain A5.out b6
      have Xs6 : Hid (RowAt w6 so sm sc s) := Xs5.out.below b6
      have Xt6 : Hid (RowAt w6 to tm tc t) := Xt5.out.below b6
      have Xu6 : Hid (RowAt w6 uo um uc u) := Xu5.out.below b6
      clear b6 A5 Xs5 Xt5 Xu5
      go_wp2_with fail
      refine (bits_any _ _ _ s _ Xs6.out (by omega) (v + a1 % 1001) (by rw [Ns.out.val, HV.out]; exact bits_shift _ _ VP.out q0 q1)).mono ?_
      rintro e w7 ⟨rfl, b7⟩
      have A7 : Hid (Below w.heap.size w w7) := chain A6.out b7
      have Xs7 : Hid (RowAt w7 so sm sc s) := Xs6.out.below b7
      have Xt7 : Hid (RowAt w7 to tm tc t) := Xt6.out.below b7
      have Xu7 : Hid (RowAt w7 uo um uc u) := Xu6.out.below b7
      clear b7 A6 Xs6 Xt6 Xu6
      go_wp2
      go_ret
      exact ⟨rfl, A7.out⟩

set_option maxRecDepth 100000 in
theorem lifted (os : Os) (started : os.Started) (H : Type) (enc : TypeId × Value → H) :
    ReturnsInHanded {} Try.checked os 8 .any (Rows.limbPowersSpec.pre6 enc Try.prog Try.f8 Rows.limbPowersRow.domain false) (Rows.limbPowersSpec.post enc Try.prog Try.f8 false true false false) := by
  refine returnsInHanded_of_change (C := Try.checked) own started (by kernel_rfl) Try.func8
    (ChangeSpec.witness6 (enc := enc) (C := Try.checked) false ⟨#[], #[.slice none 0 0, .int .u16 0], []⟩ 8 (by kernel_rfl) (by kernel_rfl) (by kernel_rfl) (by kernel_rfl)) ?_
  intro W base args ds gs before hval0 hW hcnd _
  have hval : ∀ (j : Nat) t v, Try.f8.params[j]? = some t → args[j]? = some v → Value.okWide Try.prog W .any base t v := hval0
  have hW' := hW
  obtain ⟨p, q, hA0, hV, rfl, hfz, hnd⟩ := hW
  have hA : DataW.TrodAll enc Try.prog W 0 (fun _ => true) true Try.f8.params.toList args.toList ds p := hA0
  rw [Try.params8] at hA hval
  obtain ⟨v0, vs0, d0, ds0, p0, q0, hargs, rfl, rfl, h0, r0⟩ := trodAll_cons hA
  obtain ⟨v1, vs1, d1, ds1, p1, q1, rfl, rfl, rfl, h1, r1⟩ := trodAll_cons r0
  obtain ⟨rfl, rfl, rfl⟩ := trodAll_nil r1
  obtain rfl : args = #[v0, v1] := by cases args; simp_all
  obtain ⟨rfl, rfl⟩ := trodVars_none hV
  obtain ⟨a0, len0, cap0, rfl⟩ := okWide_slice Try.underlying22 (hval 0 22 v0 rfl rfl)
  have k0 := h0
  have lt0 : ∀ x ∈ p0, x.block < W.heap.size := by obtain ⟨m, hm⟩ := k0; exact DataW.trod_lt m _ _ _ hm
  obtain ⟨z0, w0⟩ : ∃ zs, IsRow .u64 W a0 len0 cap0 zs := by
    obtain ⟨fuel, hf⟩ := h0
    rcases open_ints Try.underlying22 Try.underlying36 (by kernel_rfl) hf with ⟨hcs, _⟩ | ⟨x, l, c, zs, hcs, _, hl, hm, hz, _, hcell, hwz⟩
    · simp [Value.cells] at hcs
      obtain ⟨rfl, rfl, rfl⟩ := hcs
      exact ⟨[], .inl ⟨rfl, rfl, rfl, rfl⟩⟩
    · simp [Value.cells] at hcs
      obtain ⟨rfl, rfl, rfl⟩ := hcs
      exact ⟨zs, .inr ⟨_, rfl, hl, hm, by simpa using hz, hcell, hwz⟩⟩
  obtain ⟨a1, rfl, rfl, rfl, w1⟩ := open_int Try.underlying34 (hval 1 34 v1 rfl rfl) h1
  clear hA0 hval0
  refine (walk a0 len0 cap0 z0 a1 W w0 w1).mono fun e W' ⟨he, bel⟩ => ?_
  subst he
  exact ⟨_, rfl, _, _, _, [], _, [], hW', trodAll_mk1 (shut_bool Try.underlying4 _), (trodAll_cons_mk (Below.trod laidOut (by kernel_rfl) (of_decide_eq_true (by kernel_rfl)) k0 bel lt0) (trodAll_cons_mk (shut_int Try.underlying34 w1) trodAll_mk0)), rfl, bel.frame _, fun h => by cases h⟩

theorem over : Rows.limbPowersRow.holds Try.pinned (OpenSpec.ofChange Rows.limbPowersSpec) :=
  OpenClaim.holds_of_wide 8 Try.f8 rfl rfl rfl rfl rfl rfl rfl ⟨rfl, rfl, rfl, rfl, rfl⟩ rfl rfl rfl rfl rfl (by kernel_rfl) Try.func8 (by kernel_rfl)
    (of_decide_eq_true (by kernel_rfl)) (by unfold Func.isWrapper; first | (rw [if_pos (by decide +kernel)]; kernel_rfl) | (rw [if_neg (by decide +kernel)]; exact ⟨rfl, rfl⟩))
    (fun os started H enc _ => lifted os started H enc)

theorem proved : Rows.LimbPowersSaid := over
#print axioms proved
end Go.Proofs.Ytkphaoooeejohaa.limbPowers
