/-
  Monomials that may be; May, as the program and as the reference has it.
-/
import Derived.Test.YtbdldijgcmgfaaaGreatRows
import Derived.WalkKit
import Derived.WalkSpells
import Derived.WalkLawsBesides
import Derived.Deep.QuietTactic
import Derived.BigQuiet
import Derived.Deep.RegionWith
import Derived.Handy
namespace Go.Proofs.YtbdldijgcmgfaaaGreat.Mn
open Go.RowKit

/-- An exponent that may be. -/
structure Ex (a : Int) : Prop where
  lo : 0 ≤ a
  hi : a ≤ 40
/-- A monomial that may be. -/
structure May4 (a b c d : Int) : Prop where
  x : Ex a
  y : Ex b
  z : Ex c
  u : Ex d

theorem chain {w w1 w2 : World} (h : Below w.heap.size w w1) (h2 : Below w1.heap.size w1 w2) : Below w.heap.size w w2 := h.trans (h2.mono h.size)

theorem ix0 (a b c d : Int) (w : World) : (Instr.index 37 (.agg #[.int .i64 a, .int .i64 b, .int .i64 c, .int .i64 d]) (.int .i64 0)).run Tryz.prog w = .ok (.int .i64 a) w := by kernel_rfl
theorem ix1 (a b c d : Int) (w : World) : (Instr.index 37 (.agg #[.int .i64 a, .int .i64 b, .int .i64 c, .int .i64 d]) (.int .i64 1)).run Tryz.prog w = .ok (.int .i64 b) w := by kernel_rfl
theorem ix2 (a b c d : Int) (w : World) : (Instr.index 37 (.agg #[.int .i64 a, .int .i64 b, .int .i64 c, .int .i64 d]) (.int .i64 2)).run Tryz.prog w = .ok (.int .i64 c) w := by kernel_rfl
theorem ix3 (a b c d : Int) (w : World) : (Instr.index 37 (.agg #[.int .i64 a, .int .i64 b, .int .i64 c, .int .i64 d]) (.int .i64 3)).run Tryz.prog w = .ok (.int .i64 d) w := by kernel_rfl

/-- Which exponent is the first that may not be. -/
theorem not_may {a b c d : Int} (h : ¬ May4 a b c d) : (a < 0 ∨ 40 < a) ∨ ((0 ≤ a ∧ a ≤ 40) ∧ (b < 0 ∨ 40 < b)) ∨ ((0 ≤ a ∧ a ≤ 40) ∧ (0 ≤ b ∧ b ≤ 40) ∧ (c < 0 ∨ 40 < c)) ∨ ((0 ≤ a ∧ a ≤ 40) ∧ (0 ≤ b ∧ b ≤ 40) ∧ (0 ≤ c ∧ c ≤ 40) ∧ (d < 0 ∨ 40 < d)) := by
  by_cases ha : 0 ≤ a ∧ a ≤ 40
  · by_cases hb : 0 ≤ b ∧ b ≤ 40
    · by_cases hc : 0 ≤ c ∧ c ≤ 40
      · by_cases hd : 0 ≤ d ∧ d ≤ 40
        · exact absurd ⟨⟨ha.1, ha.2⟩, ⟨hb.1, hb.2⟩, ⟨hc.1, hc.2⟩, ⟨hd.1, hd.2⟩⟩ h
        · omega
      · omega
    · omega
  · omega

set_option maxHeartbeats 400000 in
theorem may_yes (a b c d : Int) (w : World) (h : May4 a b c d) :
    Calls Tryz.prog 58 #[.agg #[.int .i64 a, .int .i64 b, .int .i64 c, .int .i64 d]] w fun e w' => e = .returned (.bool true) ∧ Below w.heap.size w w' := by
  obtain ⟨⟨a0, a1⟩, ⟨b0, b1⟩, ⟨c0, c1⟩, ⟨d0, d1⟩⟩ := h
  have i0 := ix0 a b c d
  have i1 := ix1 a b c d
  have i2 := ix2 a b c d
  have i3 := ix3 a b c d
  go_enter Tryz.func58, Tryz.ntmps58
  go_wp2
  go_rounds 5
  go_ret
  exact ⟨rfl, (Below.refl _ _).alloc (Nat.le_refl _) _⟩

set_option maxHeartbeats 1000000 in
theorem may_no (a b c d : Int) (w : World) (h : ¬ May4 a b c d) :
    Calls Tryz.prog 58 #[.agg #[.int .i64 a, .int .i64 b, .int .i64 c, .int .i64 d]] w fun e w' => e = .returned (.bool false) ∧ Below w.heap.size w w' := by
  have i0 := ix0 a b c d
  have i1 := ix1 a b c d
  have i2 := ix2 a b c d
  have i3 := ix3 a b c d
  rcases not_may h with (h1 | h1) | ⟨⟨a0, a1⟩, h1 | h1⟩ | ⟨⟨a0, a1⟩, ⟨b0, b1⟩, h1 | h1⟩ | ⟨⟨a0, a1⟩, ⟨b0, b1⟩, ⟨c0, c1⟩, h1 | h1⟩
  all_goals
    clear h
    go_enter Tryz.func58, Tryz.ntmps58
    go_wp2
    go_rounds 5
    go_ret
    exact ⟨rfl, (Below.refl _ _).alloc (Nat.le_refl _) _⟩

set_option maxHeartbeats 400000 in
theorem rmay_yes (a b c d : Int) (w : World) (h : May4 a b c d) :
    Calls Tryz.prog 37 #[.agg #[.int .i64 a, .int .i64 b, .int .i64 c, .int .i64 d]] w fun e w' => e = .returned (.bool true) ∧ Below w.heap.size w w' := by
  obtain ⟨⟨a0, a1⟩, ⟨b0, b1⟩, ⟨c0, c1⟩, ⟨d0, d1⟩⟩ := h
  go_enter Tryz.func37, Tryz.ntmps37
  go_wp2
  go_rounds 5
  go_ret
  exact ⟨rfl, (Below.refl _ _).alloc (Nat.le_refl _) _⟩

set_option maxHeartbeats 1000000 in
theorem rmay_no (a b c d : Int) (w : World) (h : ¬ May4 a b c d) :
    Calls Tryz.prog 37 #[.agg #[.int .i64 a, .int .i64 b, .int .i64 c, .int .i64 d]] w fun e w' => e = .returned (.bool false) ∧ Below w.heap.size w w' := by
  rcases not_may h with (h1 | h1) | ⟨⟨a0, a1⟩, h1 | h1⟩ | ⟨⟨a0, a1⟩, ⟨b0, b1⟩, h1 | h1⟩ | ⟨⟨a0, a1⟩, ⟨b0, b1⟩, ⟨c0, c1⟩, h1 | h1⟩
  all_goals
    clear h
    go_enter Tryz.func37, Tryz.ntmps37
    go_wp2
    go_rounds 5
    go_ret
    exact ⟨rfl, (Below.refl _ _).alloc (Nat.le_refl _) _⟩

end Go.Proofs.YtbdldijgcmgfaaaGreat.Mn
