/-
  Monomials compared.
-/
import Derived.Test.YtjecibpeahjenaaMB
import Derived.DeepKeys
namespace Go.Proofs.Ytjecibpeahjenaa
open Go.RowKit

theorem Try.info3 : (Try.prog.info? 3).isSome = true := by kernel_rfl
theorem cells3 : Try.prog.cellsOf 3 = 1 := by kernel_rfl
theorem part0 (a b c d : Int) (w : World) : (part 3 #[.int .i64 a, .int .i64 b, .int .i64 c, .int .i64 d] 0).run Try.prog w = .ok (.int .i64 a) w := by kernel_rfl
theorem part1 (a b c d : Int) (w : World) : (part 3 #[.int .i64 a, .int .i64 b, .int .i64 c, .int .i64 d] 1).run Try.prog w = .ok (.int .i64 b) w := by kernel_rfl
theorem part2 (a b c d : Int) (w : World) : (part 3 #[.int .i64 a, .int .i64 b, .int .i64 c, .int .i64 d] 2).run Try.prog w = .ok (.int .i64 c) w := by kernel_rfl
theorem part3 (a b c d : Int) (w : World) : (part 3 #[.int .i64 a, .int .i64 b, .int .i64 c, .int .i64 d] 3).run Try.prog w = .ok (.int .i64 d) w := by kernel_rfl
theorem eq_int (k : Nat) (a p : Int) (w : World) : (Op.equalIn (k + 1) 3 (.int .i64 a) (.int .i64 p)).run Try.prog w = .ok (a == p) w := by
  simp [Op.equalIn, run_underlying Try.underlying3]

/-- Two monomials are the same. -/
def eqB (a b c d p q r s : Int) : Bool := (a == p) && (b == q) && (c == r) && (d == s)

theorem eq_m (a b c d p q r s : Int) (w : World) : (Op.equalIn 10000 23 (.agg #[.int .i64 a, .int .i64 b, .int .i64 c, .int .i64 d]) (.agg #[.int .i64 p, .int .i64 q, .int .i64 r, .int .i64 s])).run Try.prog w = .ok (eqB a b c d p q r s) w := by
  obtain ⟨i, hi⟩ := Option.isSome_iff_exists.1 Try.info3
  have e9 : ∀ (x y : Int) (v : World), (Op.equalIn 9999 3 (.int .i64 x) (.int .i64 y)).run Try.prog v = .ok (x == y) v := eq_int 9998
  rw [show (10000 : Nat) = 9999 + 1 from rfl, run_equalIn_array w 9999 _ _ Try.underlying23 hi, cells3]
  have r4 : List.range 4 = [0, 1, 2, 3] := rfl
  rw [r4]
  simp only [Op.eqItems, Sem.run_bind, Nat.mul_one, part0, Result.andThen_ok, e9, eqB]
  by_cases h1 : a = p <;> by_cases h2 : b = q <;> by_cases h3 : c = r <;> by_cases h4 : d = s <;> simp [part1, part2, part3, e9, h1, h2, h3, h4]

theorem eqB_iff (a b c d p q r s : Int) : eqB a b c d p q r s = true ↔ (a = p ∧ b = q ∧ c = r ∧ d = s) := by
  simp [eqB, and_assoc]

end Go.Proofs.Ytjecibpeahjenaa
