/-
  The closure of limb.Add: one limb of a sum, and the carry that it leaves.
-/
import Derived.Test.YtnkjfandknndkaaBuild
import Derived.Deep.RegionHeld3
import Derived.Deep.DrawnRows
namespace Go.Proofs.Ytnkjfandknndkaa
open Go.RowKit
attribute [local go_sem ↓] Go.wp_at_zero Go.wp_at_succ

theorem add64_any (x y c : Int) (w : World) (hx : 0 ≤ x) (hy : 0 ≤ y) (hc0 : 0 ≤ c) (hc : c ≤ 1) :
    (callFunc 87 #[.int .u64 x, .int .u64 y, .int .u64 c]).run Try.prog w = .ok (.value (.tuple #[.int .u64 ((x + y + c) % BB), .int .u64 ((x + y + c) / BB)])) w := by
  rw [run_callFunc_extern (e := add64Entry) Try.func87 (by kernel_rfl) rfl rfl rfl, run_add64 x y c hx hy hc0 hc w]
  rfl

end Go.Proofs.Ytnkjfandknndkaa
