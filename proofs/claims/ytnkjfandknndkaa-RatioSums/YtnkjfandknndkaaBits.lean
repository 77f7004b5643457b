/-
  limb.Bits and limb.Trim.
-/
import Derived.Test.YtnkjfandknndkaaLen64
import Derived.Test.YtnkjfandknndkaaMul
import Derived.Test.YtnkjfandknndkaaShiftMath
namespace Go.Proofs.Ytnkjfandknndkaa
open Go.RowKit

/-- How many bits a number has. -/
def bitsI (v : Int) : Int := ((bitLen v.toNat : Nat) : Int)

theorem bits_top {xs : List Int} (hx : Limbs xs) {m : Nat} (ht : Tl xs (m + 1)) : bitsI (val xs) = ((m * 64 + bitLen (lim xs m).toNat : Nat) : Int) := by
  have hv : val xs = pv xs m + lim xs m * BB ^ m := by rw [← ht.val, val_take_pv xs _ ht.1, pv]
  have hb := pv_bd hx m
  have hl := lim_bd hx m
  have hne : lim xs m ≠ 0 := by have := ht.2.2 (by omega); rw [lim_nat]; simpa using this
  have hd : val xs / BB ^ m = lim xs m := by
    rw [hv, Int.add_mul_ediv_right _ _ (by have := pw_pos m; omega), Int.ediv_eq_zero_of_lt hb.1 hb.2]; omega
  have hle : BB ^ m ≤ val xs := by
    have h1 : (1 : Int) * BB ^ m ≤ lim xs m * BB ^ m := Int.mul_le_mul_of_nonneg_right (by omega) (Int.le_of_lt (pw_pos m))
    omega
  have hBm : BB ^ m = ((2 ^ (64 * m) : Nat) : Int) := by
    rw [BB_pow, ← Int.pow_mul]; simp
  have e := bitLen_up (val xs) (64 * m) (2 ^ (64 * m)) (by have := pw_pos m; omega) rfl (by rw [← hBm]; exact hle)
  rw [← hBm, hd] at e
  unfold bitsI
  rw [e]
  omega

end Go.Proofs.Ytnkjfandknndkaa
