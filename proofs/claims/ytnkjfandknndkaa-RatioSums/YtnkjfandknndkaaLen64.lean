/-
  math/bits.Len64: how many bits a limb has.
-/
import Derived.Test.YtnkjfandknndkaaBase
namespace Go.Proofs.Ytnkjfandknndkaa
open Go.RowKit
set_option linter.unusedVariables false

theorem wrap_two (k a n : Nat) (h : k ≤ 100) (ha : a ≤ 8) (hn : n = k + a) : wrap64 ((k : Int) + wrap64 (a : Int)) = (n : Int) := by unfold wrap64; omega
theorem wrap_zero (a : Nat) (ha : a ≤ 8) : wrap64 (wrap64 (a : Int)) = (a : Int) := by unfold wrap64; omega

theorem bitLen_up (x : Int) (b d : Nat) (hx : 0 ≤ x) (hd : d = 2 ^ b) (h : (d : Int) ≤ x) : bitLen x.toNat = b + bitLen (x / d).toNat := by
  obtain ⟨X, rfl⟩ := Int.eq_ofNat_of_zero_le hx
  subst hd
  have e : ((X : Int) / ((2 ^ b : Nat) : Int)).toNat = X / 2 ^ b := by rw [← Int.natCast_ediv]; rfl
  rw [e, Int.toNat_natCast]
  exact bitLen_shift X b (by have := Nat.div_pos (show 2 ^ b ≤ X by omega) (Nat.two_pow_pos b); omega)

theorem way7 (x : Int) (hx : 0 ≤ x) (hB : x < BB) (h0 : 4294967296 ≤ x) (h1 : 65536 ≤ x / 4294967296) (h2 : 256 ≤ x / 4294967296 / 65536) : wrap64 (56 + wrap64 ((bitLen (x / 4294967296 / 65536 / 256).toNat : Nat) : Int)) = ((bitLen x.toNat : Nat) : Int) := by
  unfold BB at hB
  refine wrap_two 56 _ _ (by omega) (bitLen_le8 _ (by omega)) ?_
  have e0 := bitLen_up (x) 32 4294967296 (by omega) (by decide) h0
  have e1 := bitLen_up (x / 4294967296) 16 65536 (by omega) (by decide) h1
  have e2 := bitLen_up (x / 4294967296 / 65536) 8 256 (by omega) (by decide) h2
  simp only [Int.cast_ofNat_Int] at e0 e1 e2
  omega
theorem way6 (x : Int) (hx : 0 ≤ x) (hB : x < BB) (h0 : 4294967296 ≤ x) (h1 : 65536 ≤ x / 4294967296) (h2 : x / 4294967296 / 65536 < 256) : wrap64 (48 + wrap64 ((bitLen (x / 4294967296 / 65536).toNat : Nat) : Int)) = ((bitLen x.toNat : Nat) : Int) := by
  unfold BB at hB
  refine wrap_two 48 _ _ (by omega) (bitLen_le8 _ (by omega)) ?_
  have e0 := bitLen_up (x) 32 4294967296 (by omega) (by decide) h0
  have e1 := bitLen_up (x / 4294967296) 16 65536 (by omega) (by decide) h1
  simp only [Int.cast_ofNat_Int] at e0 e1
  omega
theorem way5 (x : Int) (hx : 0 ≤ x) (hB : x < BB) (h0 : 4294967296 ≤ x) (h1 : x / 4294967296 < 65536) (h2 : 256 ≤ x / 4294967296) : wrap64 (40 + wrap64 ((bitLen (x / 4294967296 / 256).toNat : Nat) : Int)) = ((bitLen x.toNat : Nat) : Int) := by
  unfold BB at hB
  refine wrap_two 40 _ _ (by omega) (bitLen_le8 _ (by omega)) ?_
  have e0 := bitLen_up (x) 32 4294967296 (by omega) (by decide) h0
  have e1 := bitLen_up (x / 4294967296) 8 256 (by omega) (by decide) h2
  simp only [Int.cast_ofNat_Int] at e0 e1
  omega
theorem way4 (x : Int) (hx : 0 ≤ x) (hB : x < BB) (h0 : 4294967296 ≤ x) (h1 : x / 4294967296 < 65536) (h2 : x / 4294967296 < 256) : wrap64 (32 + wrap64 ((bitLen (x / 4294967296).toNat : Nat) : Int)) = ((bitLen x.toNat : Nat) : Int) := by
  unfold BB at hB
  refine wrap_two 32 _ _ (by omega) (bitLen_le8 _ (by omega)) ?_
  have e0 := bitLen_up (x) 32 4294967296 (by omega) (by decide) h0
  simp only [Int.cast_ofNat_Int] at e0
  omega
theorem way3 (x : Int) (hx : 0 ≤ x) (hB : x < BB) (h0 : x < 4294967296) (h1 : 65536 ≤ x) (h2 : 256 ≤ x / 65536) : wrap64 (24 + wrap64 ((bitLen (x / 65536 / 256).toNat : Nat) : Int)) = ((bitLen x.toNat : Nat) : Int) := by
  unfold BB at hB
  refine wrap_two 24 _ _ (by omega) (bitLen_le8 _ (by omega)) ?_
  have e0 := bitLen_up (x) 16 65536 (by omega) (by decide) h1
  have e1 := bitLen_up (x / 65536) 8 256 (by omega) (by decide) h2
  simp only [Int.cast_ofNat_Int] at e0 e1
  omega
theorem way2 (x : Int) (hx : 0 ≤ x) (hB : x < BB) (h0 : x < 4294967296) (h1 : 65536 ≤ x) (h2 : x / 65536 < 256) : wrap64 (16 + wrap64 ((bitLen (x / 65536).toNat : Nat) : Int)) = ((bitLen x.toNat : Nat) : Int) := by
  unfold BB at hB
  refine wrap_two 16 _ _ (by omega) (bitLen_le8 _ (by omega)) ?_
  have e0 := bitLen_up (x) 16 65536 (by omega) (by decide) h1
  simp only [Int.cast_ofNat_Int] at e0
  omega
theorem way1 (x : Int) (hx : 0 ≤ x) (hB : x < BB) (h0 : x < 4294967296) (h1 : x < 65536) (h2 : 256 ≤ x) : wrap64 (8 + wrap64 ((bitLen (x / 256).toNat : Nat) : Int)) = ((bitLen x.toNat : Nat) : Int) := by
  unfold BB at hB
  refine wrap_two 8 _ _ (by omega) (bitLen_le8 _ (by omega)) ?_
  have e0 := bitLen_up (x) 8 256 (by omega) (by decide) h2
  simp only [Int.cast_ofNat_Int] at e0
  omega
theorem way0 (x : Int) (hx : 0 ≤ x) (_h0 : x < 4294967296) (_h1 : x < 65536) (h2 : x < 256) : wrap64 (wrap64 ((bitLen x.toNat : Nat) : Int)) = ((bitLen x.toNat : Nat) : Int) := wrap_zero _ (bitLen_le8 _ (by omega))

set_option maxRecDepth 100000 in
set_option maxHeartbeats 1000000 in
theorem len64_any (x : Int) (w : World) (hx : 0 ≤ x) (hB : x < BB) :
    Calls Try.prog 93 #[.int .u64 x] w fun e w' => e = .returned (.int .i64 ((bitLen x.toNat : Nat) : Int)) ∧ w' = w := by
  have h0 : x ≤ 18446744073709551615 := by unfold BB at hB; omega
  have HB : Hid (x < BB) := hB
  clear hB
  go_enter Try.func93, Try.ntmps93
  go_wp2_with fail
  all_goals
    go_ret
    refine ⟨ret_int ?_, rfl⟩
    rw [len8tab_get]
    first
      | exact way7 x hx HB.out (by assumption) (by assumption) (by assumption)
      | exact way6 x hx HB.out (by assumption) (by assumption) (by assumption)
      | exact way5 x hx HB.out (by assumption) (by assumption) (by assumption)
      | exact way4 x hx HB.out (by assumption) (by assumption) (by assumption)
      | exact way3 x hx HB.out (by assumption) (by assumption) (by assumption)
      | exact way2 x hx HB.out (by assumption) (by assumption) (by assumption)
      | exact way1 x hx HB.out (by assumption) (by assumption) (by assumption)
      | exact way0 x hx (by assumption) (by assumption) (by assumption)
end Go.Proofs.Ytnkjfandknndkaa
