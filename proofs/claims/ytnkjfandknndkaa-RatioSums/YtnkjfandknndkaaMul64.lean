/-
  math/bits.Mul64: both halves of a product of limbs.
-/
import Derived.Test.YtnkjfandknndkaaBase
namespace Go.Proofs.Ytnkjfandknndkaa
open Go.RowKit

theorem wrapU (n : Int) : IntKind.u64.wrap n = n % BB := by
  simp [IntKind.wrap, IntKind.signed, IntKind.bits, BB]

theorem ret_tup2 {a b c d : Int} (h1 : a = c) (h2 : b = d) : Ending.returned (.tuple #[.int .u64 a, .int .u64 b]) = .returned (.tuple #[.int .u64 c, .int .u64 d]) := by rw [h1, h2]

theorem low_of (z : Int) (h0 : 0 ≤ z) (h1 : z < BB) : bits .and .u64 z 4294967295 = z % 4294967296 := and_low32 z h0 (by unfold BB at h1; exact h1)
theorem mod_bd (n : Int) : 0 ≤ n % BB ∧ n % BB < BB := ⟨Int.emod_nonneg _ (by have := BB_pos; omega), Int.emod_lt_of_pos _ BB_pos⟩

theorem hi_eq (x y : Int) (hx : 0 ≤ x) (hy : 0 ≤ y) (hxB : x < BB) (hyB : y < BB) :
    IntKind.u64.wrap (IntKind.u64.wrap (IntKind.u64.wrap (x / 4294967296 * (y / 4294967296)) +
      IntKind.u64.wrap (IntKind.u64.wrap (x / 4294967296 * bits .and .u64 y 4294967295) + IntKind.u64.wrap (bits .and .u64 x 4294967295 * bits .and .u64 y 4294967295) / 4294967296) / 4294967296) +
      IntKind.u64.wrap (bits .and .u64 (IntKind.u64.wrap (IntKind.u64.wrap (x / 4294967296 * bits .and .u64 y 4294967295) + IntKind.u64.wrap (bits .and .u64 x 4294967295 * bits .and .u64 y 4294967295) / 4294967296)) 4294967295 +
        IntKind.u64.wrap (bits .and .u64 x 4294967295 * (y / 4294967296))) / 4294967296) = x * y / BB := by
  rw [low_of x hx hxB, low_of y hy hyB]
  simp only [wrapU]
  rw [low_of _ (mod_bd _).1 (mod_bd _).2]
  have h := mul64_arith x y hx (by unfold BB at hxB; exact hxB) hy (by unfold BB at hyB; exact hyB)
  unfold BB
  exact h

set_option maxHeartbeats 400000 in
theorem mul64_any (x y : Int) (w : World) (hx : 0 ≤ x) (hy : 0 ≤ y) (hxB : x < BB) (hyB : y < BB) :
    Calls Try.prog 91 #[.int .u64 x, .int .u64 y] w fun e w' => e = .returned (.tuple #[.int .u64 (x * y / BB), .int .u64 (x * y % BB)]) ∧ w = w' := by
  have HX : Hid (x < BB) := hxB
  have HY : Hid (y < BB) := hyB
  clear hxB hyB
  go_enter Try.func91, Try.ntmps91
  go_wp2
  go_ret2
  exact ⟨ret_tup2 (hi_eq x y hx hy HX.out HY.out) (wrapU _), rfl⟩
end Go.Proofs.Ytnkjfandknndkaa
