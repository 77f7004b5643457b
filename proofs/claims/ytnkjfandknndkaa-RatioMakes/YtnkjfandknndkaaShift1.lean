/-
  The closures of limb.shiftUp and limb.shiftDown: one limb of a row that is shifted.
-/
import Derived.Test.YtnkjfandknndkaaShiftMath
import Derived.Test.YtnkjfandknndkaaMul64
import Derived.Test.YtnkjfandknndkaaSame
namespace Go.Proofs.Ytnkjfandknndkaa
open Go.RowKit

/-- What has no bits in common is added. -/
theorem or_add {a b : Int} {i : Nat} (ha : 0 ≤ a) (haB : a < BB) (hb : 0 ≤ b) (hbB : b < BB) (h1 : a % 2 ^ i = 0) (h2 : b < 2 ^ i) : bits .or .u64 a b = a + b := by
  obtain ⟨A, rfl⟩ := Int.eq_ofNat_of_zero_le ha
  obtain ⟨B, rfl⟩ := Int.eq_ofNat_of_zero_le hb
  unfold BB at haB hbB
  rw [u64_or_nat A B (by omega) (by omega), nat_join i A B (by exact_mod_cast h1) (by exact_mod_cast h2)]
  rfl
theorem or_add' {a b : Int} {i : Nat} (ha : 0 ≤ a) (haB : a < BB) (hb : 0 ≤ b) (hbB : b < BB) (h1 : b % 2 ^ i = 0) (h2 : a < 2 ^ i) : bits .or .u64 a b = a + b := by
  obtain ⟨A, rfl⟩ := Int.eq_ofNat_of_zero_le ha
  obtain ⟨B, rfl⟩ := Int.eq_ofNat_of_zero_le hb
  unfold BB at haB hbB
  rw [u64_or_nat A B (by omega) (by omega), Nat.or_comm, nat_join i B A (by exact_mod_cast h1) (by exact_mod_cast h2), Nat.add_comm]
  rfl

theorem pow_le_BB {r : Nat} (h : r ≤ 64) : (2 : Int) ^ r ≤ BB := by
  rw [← split_BB h]
  have h1 : (1 : Int) ≤ 2 ^ (64 - r) := two_pos _
  have := Int.mul_le_mul_of_nonneg_left h1 (Int.le_of_lt (two_pos r))
  simpa using this

set_option maxHeartbeats 1000000 in
theorem up1_any (ao : Option Addr) (na ca pa pl pr l r : Nat) (xs : List Int) (i : Nat) (w : World) (hi : i ≤ 3000000) (hl : l ≤ 1000000) (hr : r ≤ 63)
    (ha : RowAt w ao na ca xs) (hpa : w.cell? ⟨pa, 0, none⟩ = some (.slice ao na ca)) (hpl : w.cell? ⟨pl, 0, none⟩ = some (.int .i64 l)) (hpr : w.cell? ⟨pr, 0, none⟩ = some (.int .i64 r)) :
    Calls Try.prog 98 #[.int .i64 i, .pointer (some ⟨pa, 0, none⟩), .pointer (some ⟨pl, 0, none⟩), .pointer (some ⟨pr, 0, none⟩)] w fun e w' =>
      e = .returned (.int .u64 (upv xs l r i)) ∧ Eqw w' w := by
  have hw1 : IntKind.i64.wrap ((i : Int) - (l : Int)) = (i : Int) - (l : Int) := IntWalk.i64_in _ ⟨by omega, by omega⟩
  have hw2 : IntKind.i64.wrap ((i : Int) - (l : Int) - 1) = (i : Int) - (l : Int) - 1 := IntWalk.i64_in _ ⟨by omega, by omega⟩
  have hw3 : IntKind.i64.wrap (64 - (r : Int)) = ((64 - r : Nat) : Int) := by rw [IntWalk.i64_in _ ⟨by omega, by omega⟩]; omega
  have g1 : (0 : Int) ≤ (r : Int) := by omega
  have g2 : (r : Int) ≤ 64 := by omega
  have g3 : (0 : Int) ≤ ((64 - r : Nat) : Int) := by omega
  have g4 : ((64 - r : Nat) : Int) ≤ 64 := by omega
  have lx := lim_bd ha.limbs (i - l)
  have ly := lim_bd ha.limbs (i - l - 1)
  have hu := upv_bd ha.limbs l hr i
  have HA : Hid (RowAt w ao na ca xs) := ha
  have HU : Hid _ := hu
  clear ha hu
  go_enter Try.func98, Try.ntmps98
  go_wp2
  go_quiet ((go_at_call 74; exact Calls.quiet_of_same (at_any _ _ _ xs _ _ (HA.out.drewN _) (by omega) (by omega))))
  go_wp2
  go_ret
  have h := HU.out
  refine ⟨ret_int ?_, (Eqw.refl w).drewN _⟩
  rw [wrapU, or_add (i := r) (mod_bd _).1 (mod_bd _).2 h.2.2.2.1 (by have := pow_le_BB (show r ≤ 64 by omega); omega) h.2.2.1 h.2.2.2.2]
  rfl

set_option maxHeartbeats 1000000 in
theorem dn1_any (ao : Option Addr) (na ca pa pl pr l r : Nat) (xs : List Int) (i : Nat) (w : World) (hi : i ≤ 3000000) (hl : l ≤ 1000000) (hr : r ≤ 63)
    (ha : RowAt w ao na ca xs) (hpa : w.cell? ⟨pa, 0, none⟩ = some (.slice ao na ca)) (hpl : w.cell? ⟨pl, 0, none⟩ = some (.int .i64 l)) (hpr : w.cell? ⟨pr, 0, none⟩ = some (.int .i64 r)) :
    Calls Try.prog 97 #[.int .i64 i, .pointer (some ⟨pa, 0, none⟩), .pointer (some ⟨pl, 0, none⟩), .pointer (some ⟨pr, 0, none⟩)] w fun e w' =>
      e = .returned (.int .u64 (dnv xs l r i)) ∧ Eqw w' w := by
  have hw1 : IntKind.i64.wrap ((i : Int) + (l : Int)) = (i : Int) + (l : Int) := IntWalk.i64_in _ ⟨by omega, by omega⟩
  have hw2 : IntKind.i64.wrap ((i : Int) + (l : Int) + 1) = (i : Int) + (l : Int) + 1 := IntWalk.i64_in _ ⟨by omega, by omega⟩
  have hw3 : IntKind.i64.wrap (64 - (r : Int)) = ((64 - r : Nat) : Int) := by rw [IntWalk.i64_in _ ⟨by omega, by omega⟩]; omega
  have g1 : (0 : Int) ≤ (r : Int) := by omega
  have g2 : (r : Int) ≤ 64 := by omega
  have g3 : (0 : Int) ≤ ((64 - r : Nat) : Int) := by omega
  have g4 : ((64 - r : Nat) : Int) ≤ 64 := by omega
  have lx := lim_bd ha.limbs (i + l)
  have ly := lim_bd ha.limbs (i + l + 1)
  have hu := dnv_bd ha.limbs l hr i
  have HA : Hid (RowAt w ao na ca xs) := ha
  have HU : Hid _ := hu
  clear ha hu
  go_enter Try.func97, Try.ntmps97
  go_wp2
  go_quiet ((go_at_call 74; exact Calls.quiet_of_same (at_any _ _ _ xs _ _ (HA.out.drewN _) (by omega) (by omega))))
  go_wp2
  go_ret
  have h := HU.out
  refine ⟨ret_int ?_, (Eqw.refl w).drewN _⟩
  rw [wrapU, or_add' (i := 64 - r) h.2.2.2.1 (by have := pow_le_BB (show 64 - r ≤ 64 by omega); omega) (mod_bd _).1 (mod_bd _).2 h.2.2.1 h.2.2.2.2]
  rfl
end Go.Proofs.Ytnkjfandknndkaa
