/-
  math/bits.LeadingZeros64: how many bits a limb lacks.
-/
import Derived.Test.YtnkjfandknndkaaLen64
namespace Go.Proofs.Ytnkjfandknndkaa
open Go.RowKit

theorem bitLen_le64 {x : Int} (h0 : 0 ≤ x) (h1 : x < BB) : bitLen x.toNat ≤ 64 := by
  have h2 := (bitLen_spec x.toNat).2
  by_cases h3 : x.toNat = 0
  · rw [h3]; decide
  · have h4 := h2 h3
    have h5 : x.toNat < 2 ^ 64 := by unfold BB at h1; omega
    have h6 : 2 ^ (bitLen x.toNat - 1) < 2 ^ 64 := Nat.lt_of_le_of_lt h4 h5
    have h7 := (Nat.pow_lt_pow_iff_right (by omega)).1 h6
    omega

/-- By how many bits a limb that is not 0 must be shifted so that its highest bit is set. -/
theorem lead_up {x : Int} (h0 : 0 < x) (h1 : x < BB) : 9223372036854775808 ≤ x * 2 ^ (64 - bitLen x.toNat) ∧ (x + 1) * 2 ^ (64 - bitLen x.toNat) ≤ BB ∧ 64 - bitLen x.toNat ≤ 63 := by
  have hl := bitLen_le64 (Int.le_of_lt h0) h1
  have hs := bitLen_spec x.toNat
  have hn : x.toNat ≠ 0 := by omega
  have hlow := hs.2 hn
  have hup := hs.1
  obtain ⟨X, rfl⟩ := Int.eq_ofNat_of_zero_le (Int.le_of_lt h0)
  rw [Int.toNat_natCast] at *
  generalize bitLen X = k at *
  have hk : k ≠ 0 := by
    intro e
    subst e
    simp at hup
    omega
  obtain ⟨j, rfl⟩ : ∃ j, k = j + 1 := ⟨k - 1, by omega⟩
  have e1 : (2 : Nat) ^ (64 - (j + 1)) * 2 ^ (j + 1) = 2 ^ 64 := by rw [← Nat.pow_add]; congr 1; omega
  have e2 : (2 : Nat) ^ (64 - (j + 1)) * 2 ^ j = 2 ^ 63 := by rw [← Nat.pow_add]; congr 1; omega
  have m1 := Nat.mul_le_mul_left (2 ^ (64 - (j + 1))) (show 2 ^ j ≤ X by simpa using hlow)
  have m2 := Nat.mul_le_mul_left (2 ^ (64 - (j + 1))) (show X + 1 ≤ 2 ^ (j + 1) by omega)
  rw [e2, Nat.mul_comm] at m1
  rw [e1, Nat.mul_comm] at m2
  refine ⟨?_, ?_, by omega⟩
  · have : ((2 ^ 63 : Nat) : Int) ≤ ((X * 2 ^ (64 - (j + 1)) : Nat) : Int) := by exact_mod_cast m1
    simpa using this
  · have : (((X + 1) * 2 ^ (64 - (j + 1)) : Nat) : Int) ≤ ((2 ^ 64 : Nat) : Int) := by exact_mod_cast m2
    simpa [BB] using this

set_option maxHeartbeats 400000 in
theorem lead_any (x : Int) (w : World) (h0 : 0 ≤ x) (h1 : x < BB) :
    Calls Try.prog 79 #[.int .u64 x] w fun e w' => e = .returned (.int .i64 ((64 - bitLen x.toNat : Nat) : Int)) ∧ w' = w := by
  have hl := bitLen_le64 h0 h1
  have H1 : Hid (x < BB) := h1
  clear h1
  obtain ⟨k, hk⟩ : ∃ k, k = bitLen x.toNat := ⟨_, rfl⟩
  have HK : Hid (k = bitLen x.toNat) := hk
  rw [← hk] at hl ⊢
  clear hk
  go_enter Try.func79, Try.ntmps79
  go_wp2_with fail
  refine (len64_any x _ h0 H1.out).mono ?_
  rintro e w1 ⟨rfl, rfl⟩
  rw [← HK.out]
  go_wp2
  go_ret
  exact ⟨ret_int (by omega), rfl⟩

theorem lead_top (x : Int) (w : World) (h0 : 9223372036854775808 ≤ x) (h1 : x < BB) :
    Calls Try.prog 79 #[.int .u64 x] w fun e w' => e = .returned (.int .i64 0) ∧ w' = w := by
  refine (lead_any x w (by omega) h1).mono ?_
  rintro e w' ⟨rfl, rfl⟩
  have h := lead_up (by omega) h1
  have : 64 - bitLen x.toNat = 0 := by
    rcases Nat.eq_zero_or_pos (64 - bitLen x.toNat) with e | e
    · exact e
    · exfalso
      have h2 := h.2.1
      have h3 : (2 : Int) ^ 1 ≤ 2 ^ (64 - bitLen x.toNat) := by
        have := Nat.pow_le_pow_right (show 0 < 2 by omega) e
        exact_mod_cast this
      have h4 := Int.mul_le_mul_of_nonneg_left h3 (show 0 ≤ x + 1 by omega)
      unfold BB at h2
      omega
  rw [this]
  exact ⟨rfl, rfl⟩

end Go.Proofs.Ytnkjfandknndkaa
