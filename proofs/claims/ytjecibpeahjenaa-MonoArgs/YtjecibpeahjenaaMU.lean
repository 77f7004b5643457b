/-
  The reference's Coprime.
-/
import Derived.Test.YtjecibpeahjenaaMR
import Derived.Test.YtjecibpeahjenaaMQ
namespace Go.Proofs.Ytjecibpeahjenaa
open Go.RowKit

set_option maxHeartbeats 1000000 in
theorem rcop_arg (a b c d p q r s : Int) (w : World) (h : ¬ Both a b c d p q r s) :
    Calls Try.prog 20 #[.agg #[.int .i64 a, .int .i64 b, .int .i64 c, .int .i64 d], .agg #[.int .i64 p, .int .i64 q, .int .i64 r, .int .i64 s]] w fun e w' => e = .returned (.bool false) ∧ Below w.heap.size w w' := by
  have T : Hid (Two w ((w.alloc (.cells #[.int .i64 a, .int .i64 b, .int .i64 c, .int .i64 d] 23)).alloc (.cells #[.int .i64 p, .int .i64 q, .int .i64 r, .int .i64 s] 23)) a b c d p q r s) := Two.new w a b c d p q r s
  rcases not_both h with hn | ⟨hy, hn⟩
  · have H : Hid (¬ May4 a b c d) := hn
    clear h hn
    go_enter Try.func20, Try.ntmps20
    go_wp2_with fail
    refine (rmay_no _ _ _ _ _ H.out).mono ?_
    rintro e w1 ⟨rfl, q1⟩
    have T1 : Hid (Two w w1 a b c d p q r s) := T.out.below q1
    clear q1 T
    go_wp2
    go_ret
    exact ⟨rfl, T1.out.bel⟩
  · have H : Hid (May4 a b c d ∧ ¬ May4 p q r s) := ⟨hy, hn⟩
    clear h hn hy
    go_enter Try.func20, Try.ntmps20
    go_wp2_with fail
    refine (rmay_yes _ _ _ _ _ H.out.1).mono ?_
    rintro e w1 ⟨rfl, q1⟩
    have T1 : Hid (Two w w1 a b c d p q r s) := T.out.below q1
    clear q1 T
    have yc0 := T1.out.y.c0
    have yc1 := T1.out.y.c1
    have yc2 := T1.out.y.c2
    have yc3 := T1.out.y.c3
    go_wp2_with fail
    refine (rmay_no _ _ _ _ _ H.out.2).mono ?_
    rintro e w2 ⟨rfl, q2⟩
    have HB : Hid (Below w.heap.size w w2) := chain T1.out.bel q2
    clear q2 T1 yc0 yc1 yc2 yc3
    go_wp2
    go_ret
    exact ⟨rfl, HB.out⟩

set_option maxHeartbeats 8000000 in
theorem rcop_0 (a b c d p q r s : Int) (w : World) (h : Both a b c d p q r s) (g0 : 0 < a) (f0 : 0 < p) :
    Calls Try.prog 20 #[.agg #[.int .i64 a, .int .i64 b, .int .i64 c, .int .i64 d], .agg #[.int .i64 p, .int .i64 q, .int .i64 r, .int .i64 s]] w fun e w' => e = .returned (.bool false) ∧ Below w.heap.size w w' := by
  have T : Hid (Two w ((w.alloc (.cells #[.int .i64 a, .int .i64 b, .int .i64 c, .int .i64 d] 23)).alloc (.cells #[.int .i64 p, .int .i64 q, .int .i64 r, .int .i64 s] 23)) a b c d p q r s) := Two.new w a b c d p q r s
  have H : Hid (Both a b c d p q r s) := h
  clear h
  all_goals
    go_enter Try.func20, Try.ntmps20
    go_wp2_with fail
    refine (rmay_yes _ _ _ _ _ H.out.a).mono ?_
    rintro e w1 ⟨rfl, x1⟩
    have T1 : Hid (Two w w1 a b c d p q r s) := T.out.below x1
    clear x1 T
    have yc0 := T1.out.y.c0
    have yc1 := T1.out.y.c1
    have yc2 := T1.out.y.c2
    have yc3 := T1.out.y.c3
    go_wp2_with fail
    refine (rmay_yes _ _ _ _ _ H.out.b).mono ?_
    rintro e w2 ⟨rfl, x2⟩
    have T2 : Hid (Two w w2 a b c d p q r s) := T1.out.below x2
    clear x2 T1 yc0 yc1 yc2 yc3
    have xc0 := T2.out.x.c0
    have xc1 := T2.out.x.c1
    have xc2 := T2.out.x.c2
    have xc3 := T2.out.x.c3
    have yc0 := T2.out.y.c0
    have yc1 := T2.out.y.c1
    have yc2 := T2.out.y.c2
    have yc3 := T2.out.y.c3
    go_wp2
    go_rounds 5
    go_ret
    exact ⟨rfl, T2.out.bel⟩

set_option maxHeartbeats 8000000 in
theorem rcop_1 (a b c d p q r s : Int) (w : World) (h : Both a b c d p q r s) (g0 : ¬ (0 : Int) < a ∨ ((0 : Int) < a ∧ ¬ (0 : Int) < p)) (g1 : 0 < b) (f1 : 0 < q) :
    Calls Try.prog 20 #[.agg #[.int .i64 a, .int .i64 b, .int .i64 c, .int .i64 d], .agg #[.int .i64 p, .int .i64 q, .int .i64 r, .int .i64 s]] w fun e w' => e = .returned (.bool false) ∧ Below w.heap.size w w' := by
  have T : Hid (Two w ((w.alloc (.cells #[.int .i64 a, .int .i64 b, .int .i64 c, .int .i64 d] 23)).alloc (.cells #[.int .i64 p, .int .i64 q, .int .i64 r, .int .i64 s] 23)) a b c d p q r s) := Two.new w a b c d p q r s
  have H : Hid (Both a b c d p q r s) := h
  clear h
  rcases g0 with g0 | ⟨g0, f0⟩
  all_goals
    go_enter Try.func20, Try.ntmps20
    go_wp2_with fail
    refine (rmay_yes _ _ _ _ _ H.out.a).mono ?_
    rintro e w1 ⟨rfl, x1⟩
    have T1 : Hid (Two w w1 a b c d p q r s) := T.out.below x1
    clear x1 T
    have yc0 := T1.out.y.c0
    have yc1 := T1.out.y.c1
    have yc2 := T1.out.y.c2
    have yc3 := T1.out.y.c3
    go_wp2_with fail
    refine (rmay_yes _ _ _ _ _ H.out.b).mono ?_
    rintro e w2 ⟨rfl, x2⟩
    have T2 : Hid (Two w w2 a b c d p q r s) := T1.out.below x2
    clear x2 T1 yc0 yc1 yc2 yc3
    have xc0 := T2.out.x.c0
    have xc1 := T2.out.x.c1
    have xc2 := T2.out.x.c2
    have xc3 := T2.out.x.c3
    have yc0 := T2.out.y.c0
    have yc1 := T2.out.y.c1
    have yc2 := T2.out.y.c2
    have yc3 := T2.out.y.c3
    go_wp2
    go_rounds 5
    go_ret
    exact ⟨rfl, T2.out.bel⟩

set_option maxHeartbeats 8000000 in
theorem rcop_2 (a b c d p q r s : Int) (w : World) (h : Both a b c d p q r s) (g0 : ¬ (0 : Int) < a ∨ ((0 : Int) < a ∧ ¬ (0 : Int) < p)) (g1 : ¬ (0 : Int) < b ∨ ((0 : Int) < b ∧ ¬ (0 : Int) < q)) (g2 : 0 < c) (f2 : 0 < r) :
    Calls Try.prog 20 #[.agg #[.int .i64 a, .int .i64 b, .int .i64 c, .int .i64 d], .agg #[.int .i64 p, .int .i64 q, .int .i64 r, .int .i64 s]] w fun e w' => e = .returned (.bool false) ∧ Below w.heap.size w w' := by
  have T : Hid (Two w ((w.alloc (.cells #[.int .i64 a, .int .i64 b, .int .i64 c, .int .i64 d] 23)).alloc (.cells #[.int .i64 p, .int .i64 q, .int .i64 r, .int .i64 s] 23)) a b c d p q r s) := Two.new w a b c d p q r s
  have H : Hid (Both a b c d p q r s) := h
  clear h
  rcases g0 with g0 | ⟨g0, f0⟩ <;> rcases g1 with g1 | ⟨g1, f1⟩
  all_goals
    go_enter Try.func20, Try.ntmps20
    go_wp2_with fail
    refine (rmay_yes _ _ _ _ _ H.out.a).mono ?_
    rintro e w1 ⟨rfl, x1⟩
    have T1 : Hid (Two w w1 a b c d p q r s) := T.out.below x1
    clear x1 T
    have yc0 := T1.out.y.c0
    have yc1 := T1.out.y.c1
    have yc2 := T1.out.y.c2
    have yc3 := T1.out.y.c3
    go_wp2_with fail
    refine (rmay_yes _ _ _ _ _ H.out.b).mono ?_
    rintro e w2 ⟨rfl, x2⟩
    have T2 : Hid (Two w w2 a b c d p q r s) := T1.out.below x2
    clear x2 T1 yc0 yc1 yc2 yc3
    have xc0 := T2.out.x.c0
    have xc1 := T2.out.x.c1
    have xc2 := T2.out.x.c2
    have xc3 := T2.out.x.c3
    have yc0 := T2.out.y.c0
    have yc1 := T2.out.y.c1
    have yc2 := T2.out.y.c2
    have yc3 := T2.out.y.c3
    go_wp2
    go_rounds 5
    go_ret
    exact ⟨rfl, T2.out.bel⟩

set_option maxHeartbeats 8000000 in
theorem rcop_3 (a b c d p q r s : Int) (w : World) (h : Both a b c d p q r s) (g0 : ¬ (0 : Int) < a ∨ ((0 : Int) < a ∧ ¬ (0 : Int) < p)) (g1 : ¬ (0 : Int) < b ∨ ((0 : Int) < b ∧ ¬ (0 : Int) < q)) (g2 : ¬ (0 : Int) < c ∨ ((0 : Int) < c ∧ ¬ (0 : Int) < r)) (g3 : 0 < d) (f3 : 0 < s) :
    Calls Try.prog 20 #[.agg #[.int .i64 a, .int .i64 b, .int .i64 c, .int .i64 d], .agg #[.int .i64 p, .int .i64 q, .int .i64 r, .int .i64 s]] w fun e w' => e = .returned (.bool false) ∧ Below w.heap.size w w' := by
  have T : Hid (Two w ((w.alloc (.cells #[.int .i64 a, .int .i64 b, .int .i64 c, .int .i64 d] 23)).alloc (.cells #[.int .i64 p, .int .i64 q, .int .i64 r, .int .i64 s] 23)) a b c d p q r s) := Two.new w a b c d p q r s
  have H : Hid (Both a b c d p q r s) := h
  clear h
  rcases g0 with g0 | ⟨g0, f0⟩ <;> rcases g1 with g1 | ⟨g1, f1⟩ <;> rcases g2 with g2 | ⟨g2, f2⟩
  all_goals
    go_enter Try.func20, Try.ntmps20
    go_wp2_with fail
    refine (rmay_yes _ _ _ _ _ H.out.a).mono ?_
    rintro e w1 ⟨rfl, x1⟩
    have T1 : Hid (Two w w1 a b c d p q r s) := T.out.below x1
    clear x1 T
    have yc0 := T1.out.y.c0
    have yc1 := T1.out.y.c1
    have yc2 := T1.out.y.c2
    have yc3 := T1.out.y.c3
    go_wp2_with fail
    refine (rmay_yes _ _ _ _ _ H.out.b).mono ?_
    rintro e w2 ⟨rfl, x2⟩
    have T2 : Hid (Two w w2 a b c d p q r s) := T1.out.below x2
    clear x2 T1 yc0 yc1 yc2 yc3
    have xc0 := T2.out.x.c0
    have xc1 := T2.out.x.c1
    have xc2 := T2.out.x.c2
    have xc3 := T2.out.x.c3
    have yc0 := T2.out.y.c0
    have yc1 := T2.out.y.c1
    have yc2 := T2.out.y.c2
    have yc3 := T2.out.y.c3
    go_wp2
    go_rounds 5
    go_ret
    exact ⟨rfl, T2.out.bel⟩

set_option maxHeartbeats 8000000 in
theorem rcop_4 (a b c d p q r s : Int) (w : World) (h : Both a b c d p q r s) (g0 : ¬ (0 : Int) < a ∨ ((0 : Int) < a ∧ ¬ (0 : Int) < p)) (g1 : ¬ (0 : Int) < b ∨ ((0 : Int) < b ∧ ¬ (0 : Int) < q)) (g2 : ¬ (0 : Int) < c ∨ ((0 : Int) < c ∧ ¬ (0 : Int) < r)) (g3 : ¬ (0 : Int) < d ∨ ((0 : Int) < d ∧ ¬ (0 : Int) < s)) :
    Calls Try.prog 20 #[.agg #[.int .i64 a, .int .i64 b, .int .i64 c, .int .i64 d], .agg #[.int .i64 p, .int .i64 q, .int .i64 r, .int .i64 s]] w fun e w' => e = .returned (.bool true) ∧ Below w.heap.size w w' := by
  have T : Hid (Two w ((w.alloc (.cells #[.int .i64 a, .int .i64 b, .int .i64 c, .int .i64 d] 23)).alloc (.cells #[.int .i64 p, .int .i64 q, .int .i64 r, .int .i64 s] 23)) a b c d p q r s) := Two.new w a b c d p q r s
  have H : Hid (Both a b c d p q r s) := h
  clear h
  rcases g0 with g0 | ⟨g0, f0⟩ <;> rcases g1 with g1 | ⟨g1, f1⟩ <;> rcases g2 with g2 | ⟨g2, f2⟩ <;> rcases g3 with g3 | ⟨g3, f3⟩
  all_goals
    go_enter Try.func20, Try.ntmps20
    go_wp2_with fail
    refine (rmay_yes _ _ _ _ _ H.out.a).mono ?_
    rintro e w1 ⟨rfl, x1⟩
    have T1 : Hid (Two w w1 a b c d p q r s) := T.out.below x1
    clear x1 T
    have yc0 := T1.out.y.c0
    have yc1 := T1.out.y.c1
    have yc2 := T1.out.y.c2
    have yc3 := T1.out.y.c3
    go_wp2_with fail
    refine (rmay_yes _ _ _ _ _ H.out.b).mono ?_
    rintro e w2 ⟨rfl, x2⟩
    have T2 : Hid (Two w w2 a b c d p q r s) := T1.out.below x2
    clear x2 T1 yc0 yc1 yc2 yc3
    have xc0 := T2.out.x.c0
    have xc1 := T2.out.x.c1
    have xc2 := T2.out.x.c2
    have xc3 := T2.out.x.c3
    have yc0 := T2.out.y.c0
    have yc1 := T2.out.y.c1
    have yc2 := T2.out.y.c2
    have yc3 := T2.out.y.c3
    go_wp2
    go_rounds 5
    go_ret
    exact ⟨rfl, T2.out.bel⟩

end Go.Proofs.Ytjecibpeahjenaa
