/-
  limb.Cmp: below, the same, or above.
-/
import Derived.Test.YtmmbgfbliekkgaaBase
namespace Go.Proofs.Ytmmbgfbliekkgaa
open Go.RowKit

/-- -1, 0 or 1, as a is below b, the same, or above. -/
def cmpI (a b : Int) : Int := if a < b then -1 else if a = b then 0 else 1

theorem pv_alike {xs ys : List Int} {m : Nat} (h : ∀ j : Nat, m ≤ j → lim xs j = lim ys j) (n : Nat) (hn : m ≤ n) : pv xs n - pv xs m = pv ys n - pv ys m := by
  induction n with
  | zero => obtain rfl : m = 0 := by omega
            rfl
  | succ n ih =>
    by_cases e : m = n + 1
    · rw [e]; omega
    · have := ih (by omega)
      rw [pv, pv, h n (by omega)]
      omega

theorem pv_less {xs ys : List Int} (hx : Limbs xs) (hy : Limbs ys) {m : Nat} (h : ∀ j : Nat, m + 1 ≤ j → lim xs j = lim ys j) (hlt : lim xs m < lim ys m) : val xs < val ys := by
  have h1 := pv_alike h (max (max xs.length ys.length) (m + 1)) (by omega)
  rw [pv_val xs _ (by omega), pv_val ys _ (by omega), pv, pv] at h1
  have b1 := pv_bd hx m
  have b2 := pv_bd hy m
  have h2 : lim xs m + 1 ≤ lim ys m := hlt
  have h3 := Int.mul_le_mul_of_nonneg_right h2 (Int.le_of_lt (pw_pos m))
  rw [Int.add_mul, Int.one_mul] at h3
  omega

theorem val_alike {xs ys : List Int} (h : ∀ j : Nat, lim xs j = lim ys j) : val xs = val ys := by
  have h1 := pv_alike (m := 0) (fun j _ => h j) (max xs.length ys.length) (Nat.zero_le _)
  rw [pv_val xs _ (by omega), pv_val ys _ (by omega)] at h1
  simp [pv] at h1
  exact h1

end Go.Proofs.Ytmmbgfbliekkgaa
