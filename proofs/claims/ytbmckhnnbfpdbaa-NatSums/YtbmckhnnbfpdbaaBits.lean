/-
  limb.Bits and limb.Trim.
-/
import Derived.Test.YtbmckhnnbfpdbaaLen64
import Derived.Test.YtbmckhnnbfpdbaaMul
import Derived.Test.YtbmckhnnbfpdbaaShiftMath
namespace Go.Proofs.Ytbmckhnnbfpdbaa
open Go.RowKit

/-- How many bits a number has. -/
def bitsI (v : Int) : Int := ((bitLen v.toNat : Nat) : Int)

theorem bits_top {xs : List Int} (hx : Limbs xs) {m : Nat} (ht : Tl xs (m + 1)) : bitsI (val xs) = ((m * 64 + bitLen (lim xs m).toNat : Nat) : Int) := by
  have hv : val xs = pv xs m + lim xs m * BB ^ m := by rw [← ht.val, val_take_pv xs _ ht.1, pv]
  have hb := pv_bd hx m
  have hl := lim_bd hx m
  have hne : lim xs m ≠ 0 := by have := ht.2.2 (by omega); rw [lim_nat]; simpa using this
  have hd : val xs / BB ^ m = lim xs m := by
    rw [hv, Int.add_mul_ediv_right _ _ (by have := pw_pos m; omega), Int.ediv_eq_zero_of_lt hb.1 hb.2]; omega
  have hle : BB ^ m ≤ val xs := by
    have h1 : (1 : Int) * BB ^ m ≤ lim xs m * BB ^ m := Int.mul_le_mul_of_nonneg_right (by omega) (Int.le_of_lt (pw_pos m))
    omega
  have hBm : BB ^ m = ((2 ^ (64 * m) : Nat) : Int) := by
    rw [BB_pow, ← Int.pow_mul]; simp
  have e := bitLen_up (val xs) (64 * m) (2 ^ (64 * m)) (by have := pw_pos m; omega) rfl (by rw [← hBm]; exact hle)
  rw [← hBm, hd] at e
  unfold bitsI
  rw [e]
  omega

set_option maxHeartbeats 400000 in
theorem bits_any (ao : Option Addr) (na ca : Nat) (xs : List Int) (w : World) (ha : RowAt w ao na ca xs) (hna : na ≤ 900000) (v : Int) (hv : v = bitsI (val xs)) :
    Calls Try.prog 41 #[.slice ao na ca] w fun e w' => e = .returned (.int .i64 v) ∧ Below w.heap.size w w' := by
  obtain ⟨m, t1⟩ := tl_ex xs
  have hm : m ≤ na := by have := t1.1; have := ha.len; omega
  have HA : Hid (RowAt w ao na ca xs) := ha
  have HT : Hid (Tl xs m) := t1
  have HV : Hid (v = bitsI (val xs)) := hv
  clear ha t1 hv
  cases m with
  | zero =>
    go_enter Try.func41, Try.ntmps41
    go_wp2_with fail
    refine (trimLen_q _ _ _ 0 xs _ HA.out HT.out).mono ?_
    rintro e w1 ⟨rfl, hw⟩
    subst hw
    go_wp2_with fail
    go_ret
    refine ⟨ret_int ?_, Below.refl _ _⟩
    have h := HT.out.val
    simp [val] at h
    rw [HV.out, ← h]
    rfl
  | succ k =>
    obtain ⟨b, off, rfl, hlt, hc⟩ := HA.out.cells (by intro e; have := HA.out.len; rw [e] at this; simp at this; omega)
    have hck := hc k (by have := HA.out.len; omega)
    rw [← lim_nat] at hck
    have hl := lim_bd HA.out.limbs k
    obtain ⟨x, hx⟩ : ∃ x, x = lim xs k := ⟨_, rfl⟩
    rw [← hx] at hck hl
    have HX : Hid (x = lim xs k) := hx
    have HL : Hid (0 ≤ x ∧ x < BB) := hl
    have hle : bitLen x.toNat ≤ 64 := by
      have h1 := (bitLen_spec x.toNat).2
      by_cases h0 : x.toNat = 0
      · rw [h0]; decide
      · have h2 := h1 h0
        have h3 : x.toNat < 2 ^ 64 := by have := hl.2; unfold BB at this; omega
        have h4 : 2 ^ (bitLen x.toNat - 1) < 2 ^ 64 := Nat.lt_of_le_of_lt h2 h3
        have h5 := (Nat.pow_lt_pow_iff_right (by omega)).1 h4
        omega
    have hkz : (((k + 1 : Nat) : Int) == 0) = false := by rw [beq_eq_false_iff_ne]; omega
    clear hc hx hl
    go_enter Try.func41, Try.ntmps41
    go_wp2_with fail
    refine (trimLen_q _ _ _ (k + 1) xs _ HA.out HT.out).mono ?_
    rintro e w1 ⟨rfl, hw⟩
    subst hw
    go_wp2_with fail
    refine (len64_any _ _ HL.out.1 HL.out.2).mono ?_
    rintro e w2 ⟨rfl, hw⟩
    subst hw
    go_wp2_with fail
    go_ret
    refine ⟨ret_int ?_, Below.refl _ _⟩
    rw [HV.out, bits_top HA.out.limbs HT.out, ← HX.out]
    omega
end Go.Proofs.Ytbmckhnnbfpdbaa
