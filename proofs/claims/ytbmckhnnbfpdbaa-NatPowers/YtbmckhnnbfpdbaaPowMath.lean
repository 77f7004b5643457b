/-
  Powers of naturals: plain arithmetic.
-/
import Derived.Test.YtbmckhnnbfpdbaaNatMath
import Derived.Test.YtbmckhnnbfpdbaaBits
namespace Go.Proofs.Ytbmckhnnbfpdbaa
open Go.RowKit

theorem pow_nonneg' {v : Int} (h : 0 ≤ v) (n : Nat) : 0 ≤ v ^ n := by
  induction n with
  | zero => simp
  | succ n ih => rw [Int.pow_succ]; exact Int.mul_nonneg ih h
theorem pow_mono {v : Int} (h : 1 ≤ v) {i n : Nat} (hi : i ≤ n) : v ^ i ≤ v ^ n := by
  obtain ⟨d, rfl⟩ := Nat.le.dest hi
  induction d with
  | zero => exact Int.le_refl _
  | succ d ih =>
    have h0 := pow_nonneg' (show 0 ≤ v by omega) (i + d)
    have h1 := Int.mul_le_mul_of_nonneg_left h h0
    rw [Int.mul_one] at h1
    rw [show i + (d + 1) = i + d + 1 by omega, Int.pow_succ]
    have := ih (by omega)
    omega
theorem pow_zero_low (n : Nat) : (0 : Int) ^ n ≤ 1 := by
  cases n with
  | zero => simp
  | succ n => rw [Int.pow_succ]; simp
/-- What is too great on the way is too great in the end. -/
theorem pow_big {v : Int} (h : 0 ≤ v) {i n : Nat} (hi : i ≤ n) (hb : Big ≤ v ^ i) : Big ≤ v ^ n := by
  rcases Int.lt_or_eq_of_le h with h' | h'
  · exact Int.le_trans hb (pow_mono h' hi)
  · subst h'
    have := pow_zero_low i
    have := Big_one
    omega
theorem pow_of_one (n : Nat) : (1 : Int) ^ n = 1 := by
  induction n with
  | zero => simp
  | succ n ih => rw [Int.pow_succ, ih]; simp
/-- 0 and 1 stay what they are. -/
theorem pow_low {v : Int} (h : 0 ≤ v) (h1 : v ≤ 1) {n : Nat} (hn : 1 ≤ n) : v ^ n = v := by
  rcases (show v = 0 ∨ v = 1 by omega) with e | e
  · subst e
    obtain ⟨m, rfl⟩ : ∃ m, n = m + 1 := ⟨n - 1, by omega⟩
    rw [Int.pow_succ]; simp
  · subst e; exact pow_of_one n

theorem bits_low {v : Int} (h : 0 ≤ v) : bitsI v ≤ 1 ↔ v ≤ 1 := by
  unfold bitsI
  constructor
  · intro hb
    have h1 := (bitLen_spec v.toNat).2
    have h2 : 2 ^ bitLen v.toNat ≤ 2 ^ 1 := Nat.pow_le_pow_right (by omega) (by omega)
    have h3 := (bitLen_spec v.toNat).1
    omega
  · intro hv
    rcases (show v = 0 ∨ v = 1 by omega) with e | e
    · subst e; decide
    · subst e; decide

end Go.Proofs.Ytbmckhnnbfpdbaa
