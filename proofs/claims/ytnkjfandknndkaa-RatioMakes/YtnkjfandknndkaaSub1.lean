/-
  The closure of limb.Sub: one limb of a difference, and what it borrows.
-/
import Derived.Test.YtnkjfandknndkaaBuild
import Derived.Deep.RegionHeld3
import Derived.Deep.DrawnRows
namespace Go.Proofs.Ytnkjfandknndkaa
open Go.RowKit
attribute [local go_sem ↓] Go.wp_at_zero Go.wp_at_succ

/-- What a difference of limbs borrows. -/
def bor (x y b : Int) : Int := if x < y + b then 1 else 0

theorem sub64_any (x y b : Int) (w : World) (hx : 0 ≤ x) (hy : 0 ≤ y) (hb0 : 0 ≤ b) (hb : b ≤ 1) (hxB : x < BB) (hyB : y < BB) :
    (callFunc 89 #[.int .u64 x, .int .u64 y, .int .u64 b]).run Try.prog w = .ok (.value (.tuple #[.int .u64 ((x - y - b) % BB), .int .u64 (bor x y b)])) w := by
  obtain ⟨X, rfl⟩ := Int.eq_ofNat_of_zero_le hx
  obtain ⟨Y, rfl⟩ := Int.eq_ofNat_of_zero_le hy
  have fin : ∀ k : Nat, k ≤ 1 → Value.tuple #[.int .u64 (((X + 18446744073709551616 - Y - k) % 18446744073709551616 : Nat) : Int), .int .u64 (((if X < Y + k then 1 else 0) : Nat) : Int)] = .tuple #[.int .u64 (((X : Int) - Y - k) % BB), .int .u64 (bor X Y k)] := by
    intro k hk
    have e1 : (((X + 18446744073709551616 - Y - k) % 18446744073709551616 : Nat) : Int) = ((X : Int) - Y - k) % BB := by
      unfold BB at *
      omega
    have e2 : (((if X < Y + k then 1 else 0) : Nat) : Int) = bor X Y k := by
      unfold bor
      by_cases h : X < Y + k
      · rw [if_pos h, if_pos (by omega)]; rfl
      · rw [if_neg h, if_neg (by omega)]; rfl
    rw [e1, e2]
  rcases (show b = ((0 : Nat) : Int) ∨ b = ((1 : Nat) : Int) by omega) with rfl | rfl
  · rw [← fin 0 (by omega), run_callFunc_extern Try.func89 (by kernel_rfl) rfl rfl rfl]
    rfl
  · rw [← fin 1 (by omega), run_callFunc_extern Try.func89 (by kernel_rfl) rfl rfl rfl]
    rfl


set_option maxHeartbeats 4000000 in
theorem sub1_any (ao bo : Option Addr) (na ca nb cb pa pb pc : Nat) (xs ys : List Int) (i : Nat) (c : Int) (w : World) (hi : i ≤ 1000000)
    (ha : RowAt w ao na ca xs) (hb : RowAt w bo nb cb ys) (hpa : w.cell? ⟨pa, 0, none⟩ = some (.slice ao na ca)) (hpb : w.cell? ⟨pb, 0, none⟩ = some (.slice bo nb cb))
    (hpc : w.cell? ⟨pc, 0, none⟩ = some (.int .u64 c)) (hfc : w.frozen? ⟨pc, 0, none⟩ = false) (hc0 : 0 ≤ c) (hc1 : c ≤ 1) :
    Calls Try.prog 88 #[.int .i64 i, .pointer (some ⟨pa, 0, none⟩), .pointer (some ⟨pb, 0, none⟩), .pointer (some ⟨pc, 0, none⟩)] w fun e w' =>
      e = .returned (.int .u64 ((lim xs i - lim ys i - c) % BB)) ∧ Eqw w' (w.setCell ⟨pc, 0, none⟩ (.int .u64 (bor (lim xs i) (lim ys i) c))) := by
  have lx := lim_bd ha.limbs i
  have ly := lim_bd hb.limbs i
  have hadd := fun w => sub64_any (lim xs i) (lim ys i) c w lx.1 ly.1 hc0 hc1 lx.2 ly.2
  clear lx ly
  go_enter Try.func88, Try.ntmps88
  go_wp2
  go_region_with (first
    | (go_at_call_of 74 (Value.slice ao na ca); refine (at_any _ _ _ xs _ _ ?_ ?_ ?_).mono ?_; exact ha.drew; omega; omega; rintro e w1 ⟨rfl, rfl⟩)
    | (go_at_call_of 74 (Value.slice bo nb cb); refine (at_any _ _ _ ys _ _ ?_ ?_ ?_).mono ?_; exact hb.drew; omega; omega; rintro e w1 ⟨rfl, rfl⟩))
  all_goals (go_wp2; go_ret; exact ⟨rfl, rfl, rfl, rfl, rfl⟩)

end Go.Proofs.Ytnkjfandknndkaa
