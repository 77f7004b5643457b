/-
  quot.guess: a limb of a quotient, by the highest limbs.
-/
import Derived.Test.YtnkjfandknndkaaDiv64
namespace Go.Proofs.Ytnkjfandknndkaa
open Go.RowKit

/-- The limb that the highest limbs ask for. -/
def guessI (high low d : Int) : Int := if d ≤ high then 18446744073709551615 else (high * BB + low) / d

set_option maxHeartbeats 400000 in
theorem guess_any (high low d : Int) (w : World) (h0 : 0 ≤ high) (l0 : 0 ≤ low) (l1 : low < BB) (d0 : 9223372036854775808 ≤ d) (d1 : d < BB) :
    Calls Try.prog 82 #[.int .u64 high, .int .u64 low, .int .u64 d] w fun e w' => e = .returned (.int .u64 (guessI high low d)) ∧ ∃ m, w' = w.drewN m := by
  have L1 : Hid (low < BB) := l1
  have D1 : Hid (d < BB) := d1
  clear l1 d1
  by_cases hg : d ≤ high
  · go_enter Try.func82, Try.ntmps82
    go_wp2
    go_ret
    exact ⟨ret_int (by rw [guessI, if_pos hg]), 0, rfl⟩
  · go_enter Try.func82, Try.ntmps82
    go_wp2_with fail
    refine (div64_any high low d _ h0 (by omega) l0 L1.out d0 D1.out).mono ?_
    rintro e w1 ⟨r, rfl, m, rfl⟩
    go_wp2
    go_ret
    exact ⟨ret_int (by rw [guessI, if_neg (by omega)]), m, rfl⟩

end Go.Proofs.Ytnkjfandknndkaa
