/-
  The closure of limb.scale: one limb of a product by a limb, and the carry that it leaves.
-/
import Derived.Test.YtnkjfandknndkaaMul64
import Derived.Test.YtnkjfandknndkaaAdd1
namespace Go.Proofs.Ytnkjfandknndkaa
open Go.RowKit

theorem scale_c (P c : Int) (h0 : 0 ≤ P) (hP : P ≤ (BB - 1) * (BB - 1)) (hc0 : 0 ≤ c) (hc : c < BB) : IntKind.u64.wrap (P / BB + (P % BB + c) / BB) = (P + c) / BB := by
  rw [wrapU]
  unfold BB at *
  omega
theorem scale_bd (P c : Int) (h0 : 0 ≤ P) (hP : P ≤ (BB - 1) * (BB - 1)) (hc0 : 0 ≤ c) (hc : c < BB) : 0 ≤ (P + c) / BB ∧ (P + c) / BB < BB := by
  unfold BB at *
  omega
theorem limb_mul_le {x y : Int} (hx : 0 ≤ x) (hy : 0 ≤ y) (hxB : x < BB) (hyB : y < BB) : 0 ≤ x * y ∧ x * y ≤ (BB - 1) * (BB - 1) :=
  ⟨Int.mul_nonneg hx hy, Int.mul_le_mul (by omega) (by omega) hy (by have := BB_pos; omega)⟩

theorem mul64_q (x y : Int) (w : World) (hx : 0 ≤ x) (hy : 0 ≤ y) (hxB : x < BB) (hyB : y < BB) :
    Calls Try.prog 91 #[.int .u64 x, .int .u64 y] w fun e w' => e = .returned (.tuple #[.int .u64 (x * y / BB), .int .u64 (x * y % BB)]) ∧ w' = w :=
  (mul64_any x y w hx hy hxB hyB).mono fun _ _ h => ⟨h.1, h.2.symm⟩

set_option maxHeartbeats 1000000 in
theorem scale1_any (ao : Option Addr) (na ca pa pp px pc p : Nat) (xs : List Int) (x : Int) (i : Nat) (c : Int) (w : World) (hi : i ≤ 3000000) (hp : p ≤ 1000000) (hx0 : 0 ≤ x) (hx1 : x < BB)
    (ha : RowAt w ao na ca xs) (hpa : w.cell? ⟨pa, 0, none⟩ = some (.slice ao na ca)) (hpp : w.cell? ⟨pp, 0, none⟩ = some (.int .i64 p)) (hpx : w.cell? ⟨px, 0, none⟩ = some (.int .u64 x))
    (hpc : w.cell? ⟨pc, 0, none⟩ = some (.int .u64 c)) (hfc : w.frozen? ⟨pc, 0, none⟩ = false) (hc0 : 0 ≤ c) (hc1 : c < BB) :
    Calls Try.prog 90 #[.int .i64 i, .pointer (some ⟨pa, 0, none⟩), .pointer (some ⟨pp, 0, none⟩), .pointer (some ⟨px, 0, none⟩), .pointer (some ⟨pc, 0, none⟩)] w fun e w' =>
      e = .returned (.int .u64 ((lim xs (i - p) * x + c) % BB)) ∧ Eqw w' (w.setCell ⟨pc, 0, none⟩ (.int .u64 ((lim xs (i - p) * x + c) / BB))) := by
  have lx := lim_bd ha.limbs (i - p)
  have hm := limb_mul_le lx.1 hx0 lx.2 hx1
  have hlo := mod_bd (lim xs (i - p) * x)
  have hadd := fun w => add64_any (lim xs (i - p) * x % BB) c 0 w hlo.1 hc0 (Int.le_refl _) (by omega)
  have hw : IntKind.i64.wrap ((i : Int) - (p : Int)) = (i : Int) - (p : Int) := IntWalk.i64_in _ ⟨by omega, by omega⟩
  have HA : Hid (RowAt w ao na ca xs) := ha
  have LX : Hid (0 ≤ lim xs (i - p) ∧ lim xs (i - p) < BB) := lx
  have HX : Hid (0 ≤ x ∧ x < BB) := ⟨hx0, hx1⟩
  have HM : Hid (0 ≤ lim xs (i - p) * x ∧ lim xs (i - p) * x ≤ (BB - 1) * (BB - 1)) := hm
  have HC : Hid (c < BB) := hc1
  clear ha lx hm hlo hx0 hx1 hc1
  go_enter Try.func90, Try.ntmps90
  go_wp2
  go_quiet ((first | (go_at_call 74; exact Calls.quiet_of_same (at_any _ _ _ xs _ _ (HA.out.drewN _) (by omega) (by omega))) | (go_at_call 91; exact Calls.quiet_of_same (mul64_q _ _ _ LX.out.1 HX.out.1 LX.out.2 HX.out.2))))
  go_wp2
  go_ret
  have hcc := scale_c (lim xs (i - p) * x) c HM.out.1 HM.out.2 hc0 HC.out
  refine ⟨ret_int rfl, ?_⟩
  rw [← hcc]
  exact ⟨rfl, rfl, rfl, rfl⟩
end Go.Proofs.Ytnkjfandknndkaa
