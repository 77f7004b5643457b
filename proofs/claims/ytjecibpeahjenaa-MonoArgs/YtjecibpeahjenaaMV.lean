/-
  The reference's lex and Cmp.
-/
import Derived.Test.YtjecibpeahjenaaMR
import Derived.Test.YtjecibpeahjenaaMG
import Derived.Test.YtjecibpeahjenaaMQ
namespace Go.Proofs.Ytjecibpeahjenaa
open Go.RowKit

set_option maxHeartbeats 1000000 in
theorem rlex_0 (a b c d p q r s : Int) (w : World) (h : Both a b c d p q r s) (ea : a ≠ p) :
    Calls Try.prog 32 #[.agg #[.int .i64 a, .int .i64 b, .int .i64 c, .int .i64 d], .agg #[.int .i64 p, .int .i64 q, .int .i64 r, .int .i64 s]] w fun e w' => e = .returned (.int .i64 (cmpI a p)) ∧ Below w.heap.size w w' := by
  have T : Hid (Two w ((w.alloc (.cells #[.int .i64 a, .int .i64 b, .int .i64 c, .int .i64 d] 23)).alloc (.cells #[.int .i64 p, .int .i64 q, .int .i64 r, .int .i64 s] 23)) a b c d p q r s) := Two.new w a b c d p q r s
  obtain ⟨⟨⟨a0, a1⟩, ⟨b0, b1⟩, ⟨c0, c1⟩, ⟨d0, d1⟩⟩, ⟨p0, p1⟩, ⟨q0, q1⟩, ⟨r0, r1⟩, ⟨s0, s1⟩⟩ := h
  have ga : (a == p) = false := by simp [ea]
  clear ea
  go_enter Try.func32, Try.ntmps32
  go_wp2
  obtain ⟨W, hW⟩ : ∃ W, W = ((w.alloc (.cells #[.int .i64 a, .int .i64 b, .int .i64 c, .int .i64 d] 23)).alloc (.cells #[.int .i64 p, .int .i64 q, .int .i64 r, .int .i64 s] 23)) := ⟨_, rfl⟩
  rw [← hW] at T
  rw [← hW]
  clear hW
  have xc0 := T.out.x.c0
  have yc0 := T.out.y.c0
  have xc1 := T.out.x.c1
  have yc1 := T.out.y.c1
  have xc2 := T.out.x.c2
  have yc2 := T.out.y.c2
  have xc3 := T.out.x.c3
  have yc3 := T.out.y.c3
  refine wp_loop_rounds 5 ?_
  rw [rounds_succ]
  go_wp2
  go_quiet (fail)
  go_wp2
  go_quiet ((go_at_call 33; exact (sign_any _ a p _ rfl).mono fun _ _ ⟨he, hw⟩ => ⟨he, _, hw⟩))
  go_wp2
  go_ret
  refine ⟨rfl, ?_⟩
  repeat (first | exact T.out.bel | refine below_drewN ?_ _)

set_option maxHeartbeats 1000000 in
theorem rlex_1 (a b c d p q r s : Int) (w : World) (h : Both a b c d p q r s) (ea : a = p) (eb : b ≠ q) :
    Calls Try.prog 32 #[.agg #[.int .i64 a, .int .i64 b, .int .i64 c, .int .i64 d], .agg #[.int .i64 p, .int .i64 q, .int .i64 r, .int .i64 s]] w fun e w' => e = .returned (.int .i64 (cmpI b q)) ∧ Below w.heap.size w w' := by
  have T : Hid (Two w ((w.alloc (.cells #[.int .i64 a, .int .i64 b, .int .i64 c, .int .i64 d] 23)).alloc (.cells #[.int .i64 p, .int .i64 q, .int .i64 r, .int .i64 s] 23)) a b c d p q r s) := Two.new w a b c d p q r s
  obtain ⟨⟨⟨a0, a1⟩, ⟨b0, b1⟩, ⟨c0, c1⟩, ⟨d0, d1⟩⟩, ⟨p0, p1⟩, ⟨q0, q1⟩, ⟨r0, r1⟩, ⟨s0, s1⟩⟩ := h
  have ga : (a == p) = true := by simp [ea]
  have gb : (b == q) = false := by simp [eb]
  clear ea eb
  go_enter Try.func32, Try.ntmps32
  go_wp2
  obtain ⟨W, hW⟩ : ∃ W, W = ((w.alloc (.cells #[.int .i64 a, .int .i64 b, .int .i64 c, .int .i64 d] 23)).alloc (.cells #[.int .i64 p, .int .i64 q, .int .i64 r, .int .i64 s] 23)) := ⟨_, rfl⟩
  rw [← hW] at T
  rw [← hW]
  clear hW
  have xc0 := T.out.x.c0
  have yc0 := T.out.y.c0
  have xc1 := T.out.x.c1
  have yc1 := T.out.y.c1
  have xc2 := T.out.x.c2
  have yc2 := T.out.y.c2
  have xc3 := T.out.x.c3
  have yc3 := T.out.y.c3
  refine wp_loop_rounds 5 ?_
  rw [rounds_succ]
  go_wp2
  go_quiet (fail)
  go_wp2
  rw [rounds_succ]
  go_wp2
  go_quiet (fail)
  go_wp2
  go_quiet ((go_at_call 33; exact (sign_any _ b q _ rfl).mono fun _ _ ⟨he, hw⟩ => ⟨he, _, hw⟩))
  go_wp2
  go_ret
  refine ⟨rfl, ?_⟩
  repeat (first | exact T.out.bel | refine below_drewN ?_ _)

set_option maxHeartbeats 1000000 in
theorem rlex_2 (a b c d p q r s : Int) (w : World) (h : Both a b c d p q r s) (ea : a = p) (eb : b = q) (ec : c ≠ r) :
    Calls Try.prog 32 #[.agg #[.int .i64 a, .int .i64 b, .int .i64 c, .int .i64 d], .agg #[.int .i64 p, .int .i64 q, .int .i64 r, .int .i64 s]] w fun e w' => e = .returned (.int .i64 (cmpI c r)) ∧ Below w.heap.size w w' := by
  have T : Hid (Two w ((w.alloc (.cells #[.int .i64 a, .int .i64 b, .int .i64 c, .int .i64 d] 23)).alloc (.cells #[.int .i64 p, .int .i64 q, .int .i64 r, .int .i64 s] 23)) a b c d p q r s) := Two.new w a b c d p q r s
  obtain ⟨⟨⟨a0, a1⟩, ⟨b0, b1⟩, ⟨c0, c1⟩, ⟨d0, d1⟩⟩, ⟨p0, p1⟩, ⟨q0, q1⟩, ⟨r0, r1⟩, ⟨s0, s1⟩⟩ := h
  have ga : (a == p) = true := by simp [ea]
  have gb : (b == q) = true := by simp [eb]
  have gc : (c == r) = false := by simp [ec]
  clear ea eb ec
  go_enter Try.func32, Try.ntmps32
  go_wp2
  obtain ⟨W, hW⟩ : ∃ W, W = ((w.alloc (.cells #[.int .i64 a, .int .i64 b, .int .i64 c, .int .i64 d] 23)).alloc (.cells #[.int .i64 p, .int .i64 q, .int .i64 r, .int .i64 s] 23)) := ⟨_, rfl⟩
  rw [← hW] at T
  rw [← hW]
  clear hW
  have xc0 := T.out.x.c0
  have yc0 := T.out.y.c0
  have xc1 := T.out.x.c1
  have yc1 := T.out.y.c1
  have xc2 := T.out.x.c2
  have yc2 := T.out.y.c2
  have xc3 := T.out.x.c3
  have yc3 := T.out.y.c3
  refine wp_loop_rounds 5 ?_
  rw [rounds_succ]
  go_wp2
  go_quiet (fail)
  go_wp2
  rw [rounds_succ]
  go_wp2
  go_quiet (fail)
  go_wp2
  rw [rounds_succ]
  go_wp2
  go_quiet (fail)
  go_wp2
  go_quiet ((go_at_call 33; exact (sign_any _ c r _ rfl).mono fun _ _ ⟨he, hw⟩ => ⟨he, _, hw⟩))
  go_wp2
  go_ret
  refine ⟨rfl, ?_⟩
  repeat (first | exact T.out.bel | refine below_drewN ?_ _)

set_option maxHeartbeats 1000000 in
theorem rlex_3 (a b c d p q r s : Int) (w : World) (h : Both a b c d p q r s) (ea : a = p) (eb : b = q) (ec : c = r) (ed : d ≠ s) :
    Calls Try.prog 32 #[.agg #[.int .i64 a, .int .i64 b, .int .i64 c, .int .i64 d], .agg #[.int .i64 p, .int .i64 q, .int .i64 r, .int .i64 s]] w fun e w' => e = .returned (.int .i64 (cmpI d s)) ∧ Below w.heap.size w w' := by
  have T : Hid (Two w ((w.alloc (.cells #[.int .i64 a, .int .i64 b, .int .i64 c, .int .i64 d] 23)).alloc (.cells #[.int .i64 p, .int .i64 q, .int .i64 r, .int .i64 s] 23)) a b c d p q r s) := Two.new w a b c d p q r s
  obtain ⟨⟨⟨a0, a1⟩, ⟨b0, b1⟩, ⟨c0, c1⟩, ⟨d0, d1⟩⟩, ⟨p0, p1⟩, ⟨q0, q1⟩, ⟨r0, r1⟩, ⟨s0, s1⟩⟩ := h
  have ga : (a == p) = true := by simp [ea]
  have gb : (b == q) = true := by simp [eb]
  have gc : (c == r) = true := by simp [ec]
  have gd : (d == s) = false := by simp [ed]
  clear ea eb ec ed
  go_enter Try.func32, Try.ntmps32
  go_wp2
  obtain ⟨W, hW⟩ : ∃ W, W = ((w.alloc (.cells #[.int .i64 a, .int .i64 b, .int .i64 c, .int .i64 d] 23)).alloc (.cells #[.int .i64 p, .int .i64 q, .int .i64 r, .int .i64 s] 23)) := ⟨_, rfl⟩
  rw [← hW] at T
  rw [← hW]
  clear hW
  have xc0 := T.out.x.c0
  have yc0 := T.out.y.c0
  have xc1 := T.out.x.c1
  have yc1 := T.out.y.c1
  have xc2 := T.out.x.c2
  have yc2 := T.out.y.c2
  have xc3 := T.out.x.c3
  have yc3 := T.out.y.c3
  refine wp_loop_rounds 5 ?_
  rw [rounds_succ]
  go_wp2
  go_quiet (fail)
  go_wp2
  rw [rounds_succ]
  go_wp2
  go_quiet (fail)
  go_wp2
  rw [rounds_succ]
  go_wp2
  go_quiet (fail)
  go_wp2
  rw [rounds_succ]
  go_wp2
  go_quiet (fail)
  go_wp2
  go_quiet ((go_at_call 33; exact (sign_any _ d s _ rfl).mono fun _ _ ⟨he, hw⟩ => ⟨he, _, hw⟩))
  go_wp2
  go_ret
  refine ⟨rfl, ?_⟩
  repeat (first | exact T.out.bel | refine below_drewN ?_ _)

set_option maxHeartbeats 1000000 in
theorem rlex_4 (a b c d p q r s : Int) (w : World) (h : Both a b c d p q r s) (ea : a = p) (eb : b = q) (ec : c = r) (ed : d = s) :
    Calls Try.prog 32 #[.agg #[.int .i64 a, .int .i64 b, .int .i64 c, .int .i64 d], .agg #[.int .i64 p, .int .i64 q, .int .i64 r, .int .i64 s]] w fun e w' => e = .returned (.int .i64 (0)) ∧ Below w.heap.size w w' := by
  have T : Hid (Two w ((w.alloc (.cells #[.int .i64 a, .int .i64 b, .int .i64 c, .int .i64 d] 23)).alloc (.cells #[.int .i64 p, .int .i64 q, .int .i64 r, .int .i64 s] 23)) a b c d p q r s) := Two.new w a b c d p q r s
  obtain ⟨⟨⟨a0, a1⟩, ⟨b0, b1⟩, ⟨c0, c1⟩, ⟨d0, d1⟩⟩, ⟨p0, p1⟩, ⟨q0, q1⟩, ⟨r0, r1⟩, ⟨s0, s1⟩⟩ := h
  have ga : (a == p) = true := by simp [ea]
  have gb : (b == q) = true := by simp [eb]
  have gc : (c == r) = true := by simp [ec]
  have gd : (d == s) = true := by simp [ed]
  clear ea eb ec ed
  go_enter Try.func32, Try.ntmps32
  go_wp2
  obtain ⟨W, hW⟩ : ∃ W, W = ((w.alloc (.cells #[.int .i64 a, .int .i64 b, .int .i64 c, .int .i64 d] 23)).alloc (.cells #[.int .i64 p, .int .i64 q, .int .i64 r, .int .i64 s] 23)) := ⟨_, rfl⟩
  rw [← hW] at T
  rw [← hW]
  clear hW
  have xc0 := T.out.x.c0
  have yc0 := T.out.y.c0
  have xc1 := T.out.x.c1
  have yc1 := T.out.y.c1
  have xc2 := T.out.x.c2
  have yc2 := T.out.y.c2
  have xc3 := T.out.x.c3
  have yc3 := T.out.y.c3
  refine wp_loop_rounds 5 ?_
  rw [rounds_succ]
  go_wp2
  go_quiet (fail)
  go_wp2
  rw [rounds_succ]
  go_wp2
  go_quiet (fail)
  go_wp2
  rw [rounds_succ]
  go_wp2
  go_quiet (fail)
  go_wp2
  rw [rounds_succ]
  go_wp2
  go_quiet (fail)
  go_wp2
  rw [rounds_succ]
  go_wp2
  go_ret
  refine ⟨rfl, ?_⟩
  repeat (first | exact T.out.bel | refine below_drewN ?_ _)

theorem rlex_any (a b c d p q r s : Int) (w : World) (h : Both a b c d p q r s) : Calls Try.prog 32 #[.agg #[.int .i64 a, .int .i64 b, .int .i64 c, .int .i64 d], .agg #[.int .i64 p, .int .i64 q, .int .i64 r, .int .i64 s]] w fun e w' => e = .returned (.int .i64 (lexI a b c d p q r s)) ∧ Below w.heap.size w w' := by
  by_cases ea : a = p
  · by_cases eb : b = q
    · by_cases ec : c = r
      · by_cases ed : d = s
        · have g := rlex_4 a b c d p q r s w h ea eb ec ed
          rwa [show (0 : Int) = lexI a b c d p q r s by simp [lexI, cmpI, ea, eb, ec, ed]] at g
        · have g := rlex_3 a b c d p q r s w h ea eb ec ed
          rwa [show cmpI d s = lexI a b c d p q r s by simp [lexI, ea, eb, ec]] at g
      · have g := rlex_2 a b c d p q r s w h ea eb ec
        rwa [show cmpI c r = lexI a b c d p q r s by simp [lexI, ea, eb, ec]] at g
    · have g := rlex_1 a b c d p q r s w h ea eb
      rwa [show cmpI b q = lexI a b c d p q r s by simp [lexI, ea, eb]] at g
  · have g := rlex_0 a b c d p q r s w h ea
    rwa [show cmpI a p = lexI a b c d p q r s by simp [lexI, ea]] at g

set_option maxHeartbeats 2000000 in
theorem rcmp_arg (o a b c d p q r s : Int) (w : World) (h : ¬ Both a b c d p q r s) :
    Calls Try.prog 22 #[.int .i64 o, .agg #[.int .i64 a, .int .i64 b, .int .i64 c, .int .i64 d], .agg #[.int .i64 p, .int .i64 q, .int .i64 r, .int .i64 s]] w fun e w' => e = .returned (.int .i64 0) ∧ Below w.heap.size w w' := by
  have T : Hid (Two w ((w.alloc (.cells #[.int .i64 a, .int .i64 b, .int .i64 c, .int .i64 d] 23)).alloc (.cells #[.int .i64 p, .int .i64 q, .int .i64 r, .int .i64 s] 23)) a b c d p q r s) := Two.new w a b c d p q r s
  rcases not_both h with hn | ⟨hy, hn⟩
  · have H : Hid (¬ May4 a b c d) := hn
    clear h hn
    go_enter Try.func22, Try.ntmps22
    go_wp2_with fail
    refine (rmay_no _ _ _ _ _ H.out).mono ?_
    rintro e w1 ⟨rfl, g1⟩
    have T1 : Hid (Two w w1 a b c d p q r s) := T.out.below g1
    clear g1 T
    go_wp2
    go_ret
    exact ⟨rfl, T1.out.bel⟩
  · have H : Hid (May4 a b c d ∧ ¬ May4 p q r s) := ⟨hy, hn⟩
    clear h hn hy
    go_enter Try.func22, Try.ntmps22
    go_wp2_with fail
    refine (rmay_yes _ _ _ _ _ H.out.1).mono ?_
    rintro e w1 ⟨rfl, g1⟩
    have T1 : Hid (Two w w1 a b c d p q r s) := T.out.below g1
    clear g1 T
    have yc0 := T1.out.y.c0
    have yc1 := T1.out.y.c1
    have yc2 := T1.out.y.c2
    have yc3 := T1.out.y.c3
    go_wp2_with fail
    refine (rmay_no _ _ _ _ _ H.out.2).mono ?_
    rintro e w2 ⟨rfl, g2⟩
    have HB : Hid (Below w.heap.size w w2) := chain T1.out.bel g2
    clear g2 T1 yc0 yc1 yc2 yc3
    go_wp2
    go_ret
    exact ⟨rfl, HB.out⟩

set_option maxHeartbeats 2000000 in
theorem rcmp_out (o a b c d p q r s : Int) (w : World) (h : Both a b c d p q r s) (ho : o < 0 ∨ 2 < o) :
    Calls Try.prog 22 #[.int .i64 o, .agg #[.int .i64 a, .int .i64 b, .int .i64 c, .int .i64 d], .agg #[.int .i64 p, .int .i64 q, .int .i64 r, .int .i64 s]] w fun e w' => e = .returned (.int .i64 0) ∧ Below w.heap.size w w' := by
  have T : Hid (Two w ((w.alloc (.cells #[.int .i64 a, .int .i64 b, .int .i64 c, .int .i64 d] 23)).alloc (.cells #[.int .i64 p, .int .i64 q, .int .i64 r, .int .i64 s] 23)) a b c d p q r s) := Two.new w a b c d p q r s
  have H : Hid (Both a b c d p q r s) := h
  clear h
  rcases ho with ho | ho
  · go_enter Try.func22, Try.ntmps22
    go_wp2_with fail
    refine (rmay_yes _ _ _ _ _ H.out.a).mono ?_
    rintro e w1 ⟨rfl, g1⟩
    have T1 : Hid (Two w w1 a b c d p q r s) := T.out.below g1
    clear g1 T
    have yc0 := T1.out.y.c0
    have yc1 := T1.out.y.c1
    have yc2 := T1.out.y.c2
    have yc3 := T1.out.y.c3
    go_wp2_with fail
    refine (rmay_yes _ _ _ _ _ H.out.b).mono ?_
    rintro e w2 ⟨rfl, g2⟩
    have HB : Hid (Below w.heap.size w w2) := chain T1.out.bel g2
    clear g2 T1 yc0 yc1 yc2 yc3
    go_wp2
    go_ret
    exact ⟨rfl, HB.out⟩
  · have ho' : ¬ o < 0 := by omega
    go_enter Try.func22, Try.ntmps22
    go_wp2_with fail
    refine (rmay_yes _ _ _ _ _ H.out.a).mono ?_
    rintro e w1 ⟨rfl, g1⟩
    have T1 : Hid (Two w w1 a b c d p q r s) := T.out.below g1
    clear g1 T
    have yc0 := T1.out.y.c0
    have yc1 := T1.out.y.c1
    have yc2 := T1.out.y.c2
    have yc3 := T1.out.y.c3
    go_wp2_with fail
    refine (rmay_yes _ _ _ _ _ H.out.b).mono ?_
    rintro e w2 ⟨rfl, g2⟩
    have HB : Hid (Below w.heap.size w w2) := chain T1.out.bel g2
    clear g2 T1 yc0 yc1 yc2 yc3
    go_wp2
    go_ret
    exact ⟨rfl, HB.out⟩

set_option maxHeartbeats 2000000 in
theorem rcmp_0 (a b c d p q r s : Int) (w : World) (h : Both a b c d p q r s) :
    Calls Try.prog 22 #[.int .i64 0, .agg #[.int .i64 a, .int .i64 b, .int .i64 c, .int .i64 d], .agg #[.int .i64 p, .int .i64 q, .int .i64 r, .int .i64 s]] w fun e w' => e = .returned (.int .i64 (lexI a b c d p q r s)) ∧ Below w.heap.size w w' := by
  have T : Hid (Two w ((w.alloc (.cells #[.int .i64 a, .int .i64 b, .int .i64 c, .int .i64 d] 23)).alloc (.cells #[.int .i64 p, .int .i64 q, .int .i64 r, .int .i64 s] 23)) a b c d p q r s) := Two.new w a b c d p q r s
  have H : Hid (Both a b c d p q r s) := h
  clear h
  go_enter Try.func22, Try.ntmps22
  go_wp2_with fail
  refine (rmay_yes _ _ _ _ _ H.out.a).mono ?_
  rintro e w1 ⟨rfl, g1⟩
  have T1 : Hid (Two w w1 a b c d p q r s) := T.out.below g1
  clear g1 T
  have yc0 := T1.out.y.c0
  have yc1 := T1.out.y.c1
  have yc2 := T1.out.y.c2
  have yc3 := T1.out.y.c3
  go_wp2_with fail
  refine (rmay_yes _ _ _ _ _ H.out.b).mono ?_
  rintro e w2 ⟨rfl, g2⟩
  have T2 : Hid (Two w w2 a b c d p q r s) := T1.out.below g2
  clear g2 T1 yc0 yc1 yc2 yc3
  have xc0 := T2.out.x.c0
  have xc1 := T2.out.x.c1
  have xc2 := T2.out.x.c2
  have xc3 := T2.out.x.c3
  have yc0 := T2.out.y.c0
  have yc1 := T2.out.y.c1
  have yc2 := T2.out.y.c2
  have yc3 := T2.out.y.c3
  go_wp2_with fail
  refine (rlex_any a b c d p q r s _ H.out).mono ?_
  rintro e w3 ⟨rfl, g3⟩
  have HB : Hid (Below w.heap.size w w3) := chain T2.out.bel g3
  clear g3 T2 xc0 xc1 xc2 xc3 yc0 yc1 yc2 yc3
  go_wp2
  go_ret
  exact ⟨rfl, HB.out⟩

theorem rdeg_val (a b c d n : Int) (w : World) (h : May4 a b c d) (hn : n = a + b + c + d) :
    Calls Try.prog 16 #[.agg #[.int .i64 a, .int .i64 b, .int .i64 c, .int .i64 d]] w fun e w' => e = .returned (.int .i64 n) ∧ Below w.heap.size w w' := by
  rw [hn]
  exact rdeg_ok a b c d w h
theorem sign_val (n a b k : Int) (w : World) (hn : n = a - b) (hk : k = cmpI a b) : Calls Try.prog 33 #[.int .i64 n] w fun e w' => e = .returned (.int .i64 k) ∧ Below w.heap.size w w' := by
  rw [hk]
  exact (sign_any n a b w hn).mono fun _ _ ⟨h1, h2⟩ => ⟨h1, by rw [h2]; exact Below.refl _ _⟩

set_option maxHeartbeats 4000000 in
theorem rcmp_1ne (a b c d p q r s : Int) (w : World) (h : Both a b c d p q r s) (hd : ¬ a + b + c + d = p + q + r + s) :
    Calls Try.prog 22 #[.int .i64 1, .agg #[.int .i64 a, .int .i64 b, .int .i64 c, .int .i64 d], .agg #[.int .i64 p, .int .i64 q, .int .i64 r, .int .i64 s]] w fun e w' => e = .returned (.int .i64 (cmpI (a + b + c + d) (p + q + r + s))) ∧ Below w.heap.size w w' := by
  have T : Hid (Two w ((w.alloc (.cells #[.int .i64 a, .int .i64 b, .int .i64 c, .int .i64 d] 23)).alloc (.cells #[.int .i64 p, .int .i64 q, .int .i64 r, .int .i64 s] 23)) a b c d p q r s) := Two.new w a b c d p q r s
  have H : Hid (Both a b c d p q r s) := h
  obtain ⟨⟨⟨a0, a1⟩, ⟨b0, b1⟩, ⟨c0, c1⟩, ⟨d0, d1⟩⟩, ⟨p0, p1⟩, ⟨q0, q1⟩, ⟨r0, r1⟩, ⟨s0, s1⟩⟩ := h
  obtain ⟨dx, edx⟩ : ∃ n, n = a + b + c + d := ⟨_, rfl⟩
  obtain ⟨dy, edy⟩ : ∃ n, n = p + q + r + s := ⟨_, rfl⟩
  have DX : Hid (dx = a + b + c + d) := edx
  have DY : Hid (dy = p + q + r + s) := edy
  have dne : (dx == dy) = false := by rw [beq_eq_false_iff_ne, edx, edy]; exact hd
  have dx0 : 0 ≤ dx := by omega
  have dx1 : dx ≤ 160 := by omega
  have dy0 : 0 ≤ dy := by omega
  have dy1 : dy ≤ 160 := by omega
  obtain ⟨k, hk⟩ : ∃ k, k = cmpI dx dy := ⟨_, rfl⟩
  have HK : Hid (k = cmpI dx dy) := hk
  rw [← edx, ← edy, ← hk]
  clear edx edy hd hk a0 a1 b0 b1 c0 c1 d0 d1 p0 p1 q0 q1 r0 r1 s0 s1
  go_enter Try.func22, Try.ntmps22
  go_wp2_with fail
  refine (rmay_yes _ _ _ _ _ H.out.a).mono ?_
  rintro e w1 ⟨rfl, g1⟩
  have T1 : Hid (Two w w1 a b c d p q r s) := T.out.below g1
  clear g1 T
  have yc0 := T1.out.y.c0
  have yc1 := T1.out.y.c1
  have yc2 := T1.out.y.c2
  have yc3 := T1.out.y.c3
  go_wp2_with fail
  refine (rmay_yes _ _ _ _ _ H.out.b).mono ?_
  rintro e w2 ⟨rfl, g2⟩
  have T2 : Hid (Two w w2 a b c d p q r s) := T1.out.below g2
  clear g2 T1 yc0 yc1 yc2 yc3
  go_wp2_with fail
  have T3 : Hid (Two w w2 a b c d p q r s) := T2.out
  clear T2
  have rx0 : ∀ n : Wd w2, n.w.cell? ⟨w.heap.size, 0, none⟩ = some (.int .i64 a) := fun n => at23_0 (n.at T3.out.x)
  have rx1 : ∀ n : Wd w2, n.w.cell? ⟨w.heap.size, 1, none⟩ = some (.int .i64 b) := fun n => at23_1 (n.at T3.out.x)
  have rx2 : ∀ n : Wd w2, n.w.cell? ⟨w.heap.size, 2, none⟩ = some (.int .i64 c) := fun n => at23_2 (n.at T3.out.x)
  have rx3 : ∀ n : Wd w2, n.w.cell? ⟨w.heap.size, 3, none⟩ = some (.int .i64 d) := fun n => at23_3 (n.at T3.out.x)
  have ry0 : ∀ n : Wd w2, n.w.cell? ⟨w.heap.size + 1, 0, none⟩ = some (.int .i64 p) := fun n => at23_0 (n.at T3.out.y)
  have ry1 : ∀ n : Wd w2, n.w.cell? ⟨w.heap.size + 1, 1, none⟩ = some (.int .i64 q) := fun n => at23_1 (n.at T3.out.y)
  have ry2 : ∀ n : Wd w2, n.w.cell? ⟨w.heap.size + 1, 2, none⟩ = some (.int .i64 r) := fun n => at23_2 (n.at T3.out.y)
  have ry3 : ∀ n : Wd w2, n.w.cell? ⟨w.heap.size + 1, 3, none⟩ = some (.int .i64 s) := fun n => at23_3 (n.at T3.out.y)
  have wne : Nonempty (Wd w2) := ⟨⟨_, Below.refl _ _⟩⟩
  refine region_wd (by kernel_rfl) (by kernel_rfl) ?_
  repeat (go_big_quiet_step ((first
    | (go_at_call 16; (with_reducible change Calls Try.prog 16 #[.agg #[.int .i64 a, .int .i64 b, .int .i64 c, .int .i64 d]] _ _); exact wd_of (rdeg_val a b c d dx _ H.out.a DX.out))
    | (go_at_call 16; (with_reducible change Calls Try.prog 16 #[.agg #[.int .i64 p, .int .i64 q, .int .i64 r, .int .i64 s]] _ _); exact wd_of (rdeg_val p q r s dy _ H.out.b DY.out)))))
  refine wpQuiet_nil ?_
  intro _ hw
  obtain ⟨nq, hq⟩ := hw
  subst hq
  have T4 : Hid (Two w nq.w a b c d p q r s) := T3.out.below nq.h
  clear wne rx0 rx1 rx2 rx3 ry0 ry1 ry2 ry3 T3
  obtain ⟨w4, h4⟩ : ∃ w4, w4 = nq.w := ⟨_, rfl⟩
  rw [← h4] at T4
  rw [← h4]
  clear h4 nq
  go_wp2_with fail
  have T3 : Hid (Two w w4 a b c d p q r s) := T4.out
  clear T4
  have rx0 : ∀ n : Wd w4, n.w.cell? ⟨w.heap.size, 0, none⟩ = some (.int .i64 a) := fun n => at23_0 (n.at T3.out.x)
  have rx1 : ∀ n : Wd w4, n.w.cell? ⟨w.heap.size, 1, none⟩ = some (.int .i64 b) := fun n => at23_1 (n.at T3.out.x)
  have rx2 : ∀ n : Wd w4, n.w.cell? ⟨w.heap.size, 2, none⟩ = some (.int .i64 c) := fun n => at23_2 (n.at T3.out.x)
  have rx3 : ∀ n : Wd w4, n.w.cell? ⟨w.heap.size, 3, none⟩ = some (.int .i64 d) := fun n => at23_3 (n.at T3.out.x)
  have ry0 : ∀ n : Wd w4, n.w.cell? ⟨w.heap.size + 1, 0, none⟩ = some (.int .i64 p) := fun n => at23_0 (n.at T3.out.y)
  have ry1 : ∀ n : Wd w4, n.w.cell? ⟨w.heap.size + 1, 1, none⟩ = some (.int .i64 q) := fun n => at23_1 (n.at T3.out.y)
  have ry2 : ∀ n : Wd w4, n.w.cell? ⟨w.heap.size + 1, 2, none⟩ = some (.int .i64 r) := fun n => at23_2 (n.at T3.out.y)
  have ry3 : ∀ n : Wd w4, n.w.cell? ⟨w.heap.size + 1, 3, none⟩ = some (.int .i64 s) := fun n => at23_3 (n.at T3.out.y)
  have wne : Nonempty (Wd w4) := ⟨⟨_, Below.refl _ _⟩⟩
  refine region_wd (by kernel_rfl) (by kernel_rfl) ?_
  repeat (go_big_quiet_step ((first
    | (go_at_call 16; (with_reducible change Calls Try.prog 16 #[.agg #[.int .i64 a, .int .i64 b, .int .i64 c, .int .i64 d]] _ _); exact wd_of (rdeg_val a b c d dx _ H.out.a DX.out))
    | (go_at_call 16; (with_reducible change Calls Try.prog 16 #[.agg #[.int .i64 p, .int .i64 q, .int .i64 r, .int .i64 s]] _ _); exact wd_of (rdeg_val p q r s dy _ H.out.b DY.out))
    | (go_at_call 33; exact wd_of (sign_val _ dx dy k _ rfl HK.out)))))
  refine wpQuiet_nil ?_
  intro _ hw
  obtain ⟨nq, hq⟩ := hw
  subst hq
  have T4 : Hid (Two w nq.w a b c d p q r s) := T3.out.below nq.h
  clear wne rx0 rx1 rx2 rx3 ry0 ry1 ry2 ry3 T3
  obtain ⟨w5, h5⟩ : ∃ w5, w5 = nq.w := ⟨_, rfl⟩
  rw [← h5] at T4
  rw [← h5]
  clear h5 nq
  go_wp2
  go_ret
  exact ⟨rfl, T4.out.bel⟩

set_option maxHeartbeats 4000000 in
theorem rcmp_2ne (a b c d p q r s : Int) (w : World) (h : Both a b c d p q r s) (hd : ¬ a + b + c + d = p + q + r + s) :
    Calls Try.prog 22 #[.int .i64 2, .agg #[.int .i64 a, .int .i64 b, .int .i64 c, .int .i64 d], .agg #[.int .i64 p, .int .i64 q, .int .i64 r, .int .i64 s]] w fun e w' => e = .returned (.int .i64 (cmpI (a + b + c + d) (p + q + r + s))) ∧ Below w.heap.size w w' := by
  have T : Hid (Two w ((w.alloc (.cells #[.int .i64 a, .int .i64 b, .int .i64 c, .int .i64 d] 23)).alloc (.cells #[.int .i64 p, .int .i64 q, .int .i64 r, .int .i64 s] 23)) a b c d p q r s) := Two.new w a b c d p q r s
  have H : Hid (Both a b c d p q r s) := h
  obtain ⟨⟨⟨a0, a1⟩, ⟨b0, b1⟩, ⟨c0, c1⟩, ⟨d0, d1⟩⟩, ⟨p0, p1⟩, ⟨q0, q1⟩, ⟨r0, r1⟩, ⟨s0, s1⟩⟩ := h
  obtain ⟨dx, edx⟩ : ∃ n, n = a + b + c + d := ⟨_, rfl⟩
  obtain ⟨dy, edy⟩ : ∃ n, n = p + q + r + s := ⟨_, rfl⟩
  have DX : Hid (dx = a + b + c + d) := edx
  have DY : Hid (dy = p + q + r + s) := edy
  have dne : (dx == dy) = false := by rw [beq_eq_false_iff_ne, edx, edy]; exact hd
  have dx0 : 0 ≤ dx := by omega
  have dx1 : dx ≤ 160 := by omega
  have dy0 : 0 ≤ dy := by omega
  have dy1 : dy ≤ 160 := by omega
  obtain ⟨k, hk⟩ : ∃ k, k = cmpI dx dy := ⟨_, rfl⟩
  have HK : Hid (k = cmpI dx dy) := hk
  rw [← edx, ← edy, ← hk]
  clear edx edy hd hk a0 a1 b0 b1 c0 c1 d0 d1 p0 p1 q0 q1 r0 r1 s0 s1
  go_enter Try.func22, Try.ntmps22
  go_wp2_with fail
  refine (rmay_yes _ _ _ _ _ H.out.a).mono ?_
  rintro e w1 ⟨rfl, g1⟩
  have T1 : Hid (Two w w1 a b c d p q r s) := T.out.below g1
  clear g1 T
  have yc0 := T1.out.y.c0
  have yc1 := T1.out.y.c1
  have yc2 := T1.out.y.c2
  have yc3 := T1.out.y.c3
  go_wp2_with fail
  refine (rmay_yes _ _ _ _ _ H.out.b).mono ?_
  rintro e w2 ⟨rfl, g2⟩
  have T2 : Hid (Two w w2 a b c d p q r s) := T1.out.below g2
  clear g2 T1 yc0 yc1 yc2 yc3
  go_wp2_with fail
  have T3 : Hid (Two w w2 a b c d p q r s) := T2.out
  clear T2
  have rx0 : ∀ n : Wd w2, n.w.cell? ⟨w.heap.size, 0, none⟩ = some (.int .i64 a) := fun n => at23_0 (n.at T3.out.x)
  have rx1 : ∀ n : Wd w2, n.w.cell? ⟨w.heap.size, 1, none⟩ = some (.int .i64 b) := fun n => at23_1 (n.at T3.out.x)
  have rx2 : ∀ n : Wd w2, n.w.cell? ⟨w.heap.size, 2, none⟩ = some (.int .i64 c) := fun n => at23_2 (n.at T3.out.x)
  have rx3 : ∀ n : Wd w2, n.w.cell? ⟨w.heap.size, 3, none⟩ = some (.int .i64 d) := fun n => at23_3 (n.at T3.out.x)
  have ry0 : ∀ n : Wd w2, n.w.cell? ⟨w.heap.size + 1, 0, none⟩ = some (.int .i64 p) := fun n => at23_0 (n.at T3.out.y)
  have ry1 : ∀ n : Wd w2, n.w.cell? ⟨w.heap.size + 1, 1, none⟩ = some (.int .i64 q) := fun n => at23_1 (n.at T3.out.y)
  have ry2 : ∀ n : Wd w2, n.w.cell? ⟨w.heap.size + 1, 2, none⟩ = some (.int .i64 r) := fun n => at23_2 (n.at T3.out.y)
  have ry3 : ∀ n : Wd w2, n.w.cell? ⟨w.heap.size + 1, 3, none⟩ = some (.int .i64 s) := fun n => at23_3 (n.at T3.out.y)
  have wne : Nonempty (Wd w2) := ⟨⟨_, Below.refl _ _⟩⟩
  refine region_wd (by kernel_rfl) (by kernel_rfl) ?_
  repeat (go_big_quiet_step ((first
    | (go_at_call 16; (with_reducible change Calls Try.prog 16 #[.agg #[.int .i64 a, .int .i64 b, .int .i64 c, .int .i64 d]] _ _); exact wd_of (rdeg_val a b c d dx _ H.out.a DX.out))
    | (go_at_call 16; (with_reducible change Calls Try.prog 16 #[.agg #[.int .i64 p, .int .i64 q, .int .i64 r, .int .i64 s]] _ _); exact wd_of (rdeg_val p q r s dy _ H.out.b DY.out)))))
  refine wpQuiet_nil ?_
  intro _ hw
  obtain ⟨nq, hq⟩ := hw
  subst hq
  have T4 : Hid (Two w nq.w a b c d p q r s) := T3.out.below nq.h
  clear wne rx0 rx1 rx2 rx3 ry0 ry1 ry2 ry3 T3
  obtain ⟨w4, h4⟩ : ∃ w4, w4 = nq.w := ⟨_, rfl⟩
  rw [← h4] at T4
  rw [← h4]
  clear h4 nq
  go_wp2_with fail
  have T3 : Hid (Two w w4 a b c d p q r s) := T4.out
  clear T4
  have rx0 : ∀ n : Wd w4, n.w.cell? ⟨w.heap.size, 0, none⟩ = some (.int .i64 a) := fun n => at23_0 (n.at T3.out.x)
  have rx1 : ∀ n : Wd w4, n.w.cell? ⟨w.heap.size, 1, none⟩ = some (.int .i64 b) := fun n => at23_1 (n.at T3.out.x)
  have rx2 : ∀ n : Wd w4, n.w.cell? ⟨w.heap.size, 2, none⟩ = some (.int .i64 c) := fun n => at23_2 (n.at T3.out.x)
  have rx3 : ∀ n : Wd w4, n.w.cell? ⟨w.heap.size, 3, none⟩ = some (.int .i64 d) := fun n => at23_3 (n.at T3.out.x)
  have ry0 : ∀ n : Wd w4, n.w.cell? ⟨w.heap.size + 1, 0, none⟩ = some (.int .i64 p) := fun n => at23_0 (n.at T3.out.y)
  have ry1 : ∀ n : Wd w4, n.w.cell? ⟨w.heap.size + 1, 1, none⟩ = some (.int .i64 q) := fun n => at23_1 (n.at T3.out.y)
  have ry2 : ∀ n : Wd w4, n.w.cell? ⟨w.heap.size + 1, 2, none⟩ = some (.int .i64 r) := fun n => at23_2 (n.at T3.out.y)
  have ry3 : ∀ n : Wd w4, n.w.cell? ⟨w.heap.size + 1, 3, none⟩ = some (.int .i64 s) := fun n => at23_3 (n.at T3.out.y)
  have wne : Nonempty (Wd w4) := ⟨⟨_, Below.refl _ _⟩⟩
  refine region_wd (by kernel_rfl) (by kernel_rfl) ?_
  repeat (go_big_quiet_step ((first
    | (go_at_call 16; (with_reducible change Calls Try.prog 16 #[.agg #[.int .i64 a, .int .i64 b, .int .i64 c, .int .i64 d]] _ _); exact wd_of (rdeg_val a b c d dx _ H.out.a DX.out))
    | (go_at_call 16; (with_reducible change Calls Try.prog 16 #[.agg #[.int .i64 p, .int .i64 q, .int .i64 r, .int .i64 s]] _ _); exact wd_of (rdeg_val p q r s dy _ H.out.b DY.out))
    | (go_at_call 33; exact wd_of (sign_val _ dx dy k _ rfl HK.out)))))
  refine wpQuiet_nil ?_
  intro _ hw
  obtain ⟨nq, hq⟩ := hw
  subst hq
  have T4 : Hid (Two w nq.w a b c d p q r s) := T3.out.below nq.h
  clear wne rx0 rx1 rx2 rx3 ry0 ry1 ry2 ry3 T3
  obtain ⟨w5, h5⟩ : ∃ w5, w5 = nq.w := ⟨_, rfl⟩
  rw [← h5] at T4
  rw [← h5]
  clear h5 nq
  go_wp2
  go_ret
  exact ⟨rfl, T4.out.bel⟩

end Go.Proofs.Ytjecibpeahjenaa
