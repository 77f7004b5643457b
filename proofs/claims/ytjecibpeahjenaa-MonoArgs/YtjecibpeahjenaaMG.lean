/-
  The reference's Degree, sign, lex, Cmp.
-/
import Derived.Test.YtjecibpeahjenaaMD
namespace Go.Proofs.Ytjecibpeahjenaa
open Go.RowKit

set_option maxHeartbeats 400000 in
theorem rdeg_no (a b c d : Int) (w : World) (h : ¬ May4 a b c d) :
    Calls Try.prog 16 #[.agg #[.int .i64 a, .int .i64 b, .int .i64 c, .int .i64 d]] w fun e w' => e = .returned (.int .i64 0) ∧ Below w.heap.size w w' := by
  have H : Hid (¬ May4 a b c d) := h
  clear h
  go_enter Try.func16, Try.ntmps16
  go_wp2_with fail
  refine (rmay_no _ _ _ _ _ H.out).mono ?_
  rintro e w1 ⟨rfl, q1⟩
  have HB : Hid (Below w.heap.size w w1) := chain ((Below.refl _ _).alloc (Nat.le_refl _) _) q1
  clear q1
  go_wp2
  go_ret
  exact ⟨rfl, HB.out⟩

set_option maxHeartbeats 400000 in
theorem rdeg_ok (a b c d : Int) (w : World) (h : May4 a b c d) :
    Calls Try.prog 16 #[.agg #[.int .i64 a, .int .i64 b, .int .i64 c, .int .i64 d]] w fun e w' => e = .returned (.int .i64 (a + b + c + d)) ∧ Below w.heap.size w w' := by
  have H : Hid (May4 a b c d) := h
  obtain ⟨⟨a0, a1⟩, ⟨b0, b1⟩, ⟨c0, c1⟩, ⟨d0, d1⟩⟩ := h
  have X : Hid (MBox (w.alloc (.cells #[.int .i64 a, .int .i64 b, .int .i64 c, .int .i64 d] 23)) w.heap.size a b c d) := MBox.new w a b c d
  go_enter Try.func16, Try.ntmps16
  go_wp2_with fail
  refine (rmay_yes _ _ _ _ _ H.out).mono ?_
  rintro e w1 ⟨rfl, q1⟩
  have HB : Hid (Below w.heap.size w w1) := chain ((Below.refl _ _).alloc (Nat.le_refl _) _) q1
  have X1 := X.out.below q1
  have e0 := X1.c0
  have e1 := X1.c1
  have e2 := X1.c2
  have e3 := X1.c3
  clear q1 X1 X
  go_wp2
  go_rounds 5
  go_ret
  exact ⟨ret_int (by omega), HB.out⟩

set_option maxHeartbeats 400000 in
theorem sign_any (n : Int) (a b : Int) (w : World) (hn : n = a - b) : Calls Try.prog 33 #[.int .i64 n] w fun e w' => e = .returned (.int .i64 (cmpI a b)) ∧ w' = w := by
  have H : Hid (n = a - b) := hn
  clear hn
  rcases Int.lt_trichotomy n 0 with h | h | h
  · go_enter Try.func33, Try.ntmps33
    go_wp2
    go_ret
    exact ⟨ret_int (by have := H.out; unfold cmpI; rw [if_pos (by omega)]), rfl⟩
  · have h2 : ¬ n < 0 := by omega
    have h3 : ¬ 0 < n := by omega
    have HZ : Hid (n = 0) := h
    clear h
    go_enter Try.func33, Try.ntmps33
    go_wp2
    go_ret
    exact ⟨ret_int (by have := H.out; have := HZ.out; unfold cmpI; rw [if_neg (by omega), if_neg (by omega)]), rfl⟩
  · have h2 : ¬ n < 0 := by omega
    go_enter Try.func33, Try.ntmps33
    go_wp2
    go_ret
    exact ⟨ret_int (by have := H.out; unfold cmpI; rw [if_neg (by omega), if_pos (by omega)]), rfl⟩

end Go.Proofs.Ytjecibpeahjenaa
