/-
  cmp.Compare; mono's lex and reverseLex.
-/
import Derived.Test.YtjecibpeahjenaaMC
namespace Go.Proofs.Ytjecibpeahjenaa
open Go.RowKit

/-- Which of two numbers is above. -/
def cmpI (a b : Int) : Int := if a < b then -1 else if b < a then 1 else 0
/-- By the first exponent that tells. -/
def lexI (a b c d p q r s : Int) : Int := if a = p then if b = q then if c = r then cmpI d s else cmpI c r else cmpI b q else cmpI a p
/-- By the last exponent that tells: the lesser one is above. -/
def revI (a b c d p q r s : Int) : Int := if d = s then if c = r then if b = q then cmpI p a else cmpI q b else cmpI r c else cmpI s d

set_option maxHeartbeats 400000 in
theorem isnan_any (a : Int) (w : World) : Calls Try.prog 39 #[.int .i64 a] w fun e w' => e = .returned (.bool false) ∧ w = w' := by
  have h : (a == a) = true := by simp
  go_enter Try.func39, Try.ntmps39
  go_wp2
  go_ret
  exact ⟨rfl, rfl⟩

set_option maxHeartbeats 400000 in
theorem compare_any (a b : Int) (w : World) : Calls Try.prog 37 #[.int .i64 a, .int .i64 b] w fun e w' => e = .returned (.int .i64 (cmpI a b)) ∧ w' = w := by
  rcases Int.lt_trichotomy a b with h | h | h
  · go_enter Try.func37, Try.ntmps37
    go_wp2_with (go_at_call 39; refine (isnan_any _ _).mono ?_; rintro e w' ⟨rfl, rfl⟩)
    go_ret
    exact ⟨ret_int (by simp [cmpI, h]), rfl⟩
  · subst h
    go_enter Try.func37, Try.ntmps37
    go_wp2_with (go_at_call 39; refine (isnan_any _ _).mono ?_; rintro e w' ⟨rfl, rfl⟩)
    go_ret
    exact ⟨ret_int (by simp [cmpI]), rfl⟩
  · have h' : ¬ a < b := by omega
    go_enter Try.func37, Try.ntmps37
    go_wp2_with (go_at_call 39; refine (isnan_any _ _).mono ?_; rintro e w' ⟨rfl, rfl⟩)
    go_ret
    exact ⟨ret_int (by simp [cmpI, h, h']), rfl⟩

set_option maxHeartbeats 1000000 in
theorem lex_0 (a b c d p q r s : Int) (w : World) (ea : a ≠ p) :
    Calls Try.prog 34 #[.agg #[.int .i64 a, .int .i64 b, .int .i64 c, .int .i64 d], .agg #[.int .i64 p, .int .i64 q, .int .i64 r, .int .i64 s]] w fun e w' => e = .returned (.int .i64 (cmpI a p)) ∧ Below w.heap.size w w' := by
  have T : Hid (Two w ((w.alloc (.cells #[.int .i64 a, .int .i64 b, .int .i64 c, .int .i64 d] 23)).alloc (.cells #[.int .i64 p, .int .i64 q, .int .i64 r, .int .i64 s] 23)) a b c d p q r s) := Two.new w a b c d p q r s
  have ga : (a == p) = false := by simp [ea]
  clear ea
  go_enter Try.func34, Try.ntmps34
  go_wp2
  obtain ⟨W, hW⟩ : ∃ W, W = ((w.alloc (.cells #[.int .i64 a, .int .i64 b, .int .i64 c, .int .i64 d] 23)).alloc (.cells #[.int .i64 p, .int .i64 q, .int .i64 r, .int .i64 s] 23)) := ⟨_, rfl⟩
  rw [← hW] at T
  rw [← hW]
  clear hW
  have xc0 := T.out.x.c0
  have yc0 := T.out.y.c0
  have xc1 := T.out.x.c1
  have yc1 := T.out.y.c1
  have xc2 := T.out.x.c2
  have yc2 := T.out.y.c2
  have xc3 := T.out.x.c3
  have yc3 := T.out.y.c3
  refine wp_loop_rounds 5 ?_
  rw [rounds_succ]
  go_wp2
  go_quiet (fail)
  go_wp2
  go_quiet ((go_at_call 37; exact (compare_any _ _ _).mono fun _ _ ⟨he, hw⟩ => ⟨he, _, hw⟩))
  go_wp2
  go_ret
  refine ⟨rfl, ?_⟩
  repeat (first | exact T.out.bel | refine below_drewN ?_ _)

set_option maxHeartbeats 1000000 in
theorem lex_1 (a b c d p q r s : Int) (w : World) (ea : a = p) (eb : b ≠ q) :
    Calls Try.prog 34 #[.agg #[.int .i64 a, .int .i64 b, .int .i64 c, .int .i64 d], .agg #[.int .i64 p, .int .i64 q, .int .i64 r, .int .i64 s]] w fun e w' => e = .returned (.int .i64 (cmpI b q)) ∧ Below w.heap.size w w' := by
  have T : Hid (Two w ((w.alloc (.cells #[.int .i64 a, .int .i64 b, .int .i64 c, .int .i64 d] 23)).alloc (.cells #[.int .i64 p, .int .i64 q, .int .i64 r, .int .i64 s] 23)) a b c d p q r s) := Two.new w a b c d p q r s
  have ga : (a == p) = true := by simp [ea]
  have gb : (b == q) = false := by simp [eb]
  clear ea eb
  go_enter Try.func34, Try.ntmps34
  go_wp2
  obtain ⟨W, hW⟩ : ∃ W, W = ((w.alloc (.cells #[.int .i64 a, .int .i64 b, .int .i64 c, .int .i64 d] 23)).alloc (.cells #[.int .i64 p, .int .i64 q, .int .i64 r, .int .i64 s] 23)) := ⟨_, rfl⟩
  rw [← hW] at T
  rw [← hW]
  clear hW
  have xc0 := T.out.x.c0
  have yc0 := T.out.y.c0
  have xc1 := T.out.x.c1
  have yc1 := T.out.y.c1
  have xc2 := T.out.x.c2
  have yc2 := T.out.y.c2
  have xc3 := T.out.x.c3
  have yc3 := T.out.y.c3
  refine wp_loop_rounds 5 ?_
  rw [rounds_succ]
  go_wp2
  go_quiet (fail)
  go_wp2
  rw [rounds_succ]
  go_wp2
  go_quiet (fail)
  go_wp2
  go_quiet ((go_at_call 37; exact (compare_any _ _ _).mono fun _ _ ⟨he, hw⟩ => ⟨he, _, hw⟩))
  go_wp2
  go_ret
  refine ⟨rfl, ?_⟩
  repeat (first | exact T.out.bel | refine below_drewN ?_ _)

set_option maxHeartbeats 1000000 in
theorem lex_2 (a b c d p q r s : Int) (w : World) (ea : a = p) (eb : b = q) (ec : c ≠ r) :
    Calls Try.prog 34 #[.agg #[.int .i64 a, .int .i64 b, .int .i64 c, .int .i64 d], .agg #[.int .i64 p, .int .i64 q, .int .i64 r, .int .i64 s]] w fun e w' => e = .returned (.int .i64 (cmpI c r)) ∧ Below w.heap.size w w' := by
  have T : Hid (Two w ((w.alloc (.cells #[.int .i64 a, .int .i64 b, .int .i64 c, .int .i64 d] 23)).alloc (.cells #[.int .i64 p, .int .i64 q, .int .i64 r, .int .i64 s] 23)) a b c d p q r s) := Two.new w a b c d p q r s
  have ga : (a == p) = true := by simp [ea]
  have gb : (b == q) = true := by simp [eb]
  have gc : (c == r) = false := by simp [ec]
  clear ea eb ec
  go_enter Try.func34, Try.ntmps34
  go_wp2
  obtain ⟨W, hW⟩ : ∃ W, W = ((w.alloc (.cells #[.int .i64 a, .int .i64 b, .int .i64 c, .int .i64 d] 23)).alloc (.cells #[.int .i64 p, .int .i64 q, .int .i64 r, .int .i64 s] 23)) := ⟨_, rfl⟩
  rw [← hW] at T
  rw [← hW]
  clear hW
  have xc0 := T.out.x.c0
  have yc0 := T.out.y.c0
  have xc1 := T.out.x.c1
  have yc1 := T.out.y.c1
  have xc2 := T.out.x.c2
  have yc2 := T.out.y.c2
  have xc3 := T.out.x.c3
  have yc3 := T.out.y.c3
  refine wp_loop_rounds 5 ?_
  rw [rounds_succ]
  go_wp2
  go_quiet (fail)
  go_wp2
  rw [rounds_succ]
  go_wp2
  go_quiet (fail)
  go_wp2
  rw [rounds_succ]
  go_wp2
  go_quiet (fail)
  go_wp2
  go_quiet ((go_at_call 37; exact (compare_any _ _ _).mono fun _ _ ⟨he, hw⟩ => ⟨he, _, hw⟩))
  go_wp2
  go_ret
  refine ⟨rfl, ?_⟩
  repeat (first | exact T.out.bel | refine below_drewN ?_ _)

set_option maxHeartbeats 1000000 in
theorem lex_3 (a b c d p q r s : Int) (w : World) (ea : a = p) (eb : b = q) (ec : c = r) (ed : d ≠ s) :
    Calls Try.prog 34 #[.agg #[.int .i64 a, .int .i64 b, .int .i64 c, .int .i64 d], .agg #[.int .i64 p, .int .i64 q, .int .i64 r, .int .i64 s]] w fun e w' => e = .returned (.int .i64 (cmpI d s)) ∧ Below w.heap.size w w' := by
  have T : Hid (Two w ((w.alloc (.cells #[.int .i64 a, .int .i64 b, .int .i64 c, .int .i64 d] 23)).alloc (.cells #[.int .i64 p, .int .i64 q, .int .i64 r, .int .i64 s] 23)) a b c d p q r s) := Two.new w a b c d p q r s
  have ga : (a == p) = true := by simp [ea]
  have gb : (b == q) = true := by simp [eb]
  have gc : (c == r) = true := by simp [ec]
  have gd : (d == s) = false := by simp [ed]
  clear ea eb ec ed
  go_enter Try.func34, Try.ntmps34
  go_wp2
  obtain ⟨W, hW⟩ : ∃ W, W = ((w.alloc (.cells #[.int .i64 a, .int .i64 b, .int .i64 c, .int .i64 d] 23)).alloc (.cells #[.int .i64 p, .int .i64 q, .int .i64 r, .int .i64 s] 23)) := ⟨_, rfl⟩
  rw [← hW] at T
  rw [← hW]
  clear hW
  have xc0 := T.out.x.c0
  have yc0 := T.out.y.c0
  have xc1 := T.out.x.c1
  have yc1 := T.out.y.c1
  have xc2 := T.out.x.c2
  have yc2 := T.out.y.c2
  have xc3 := T.out.x.c3
  have yc3 := T.out.y.c3
  refine wp_loop_rounds 5 ?_
  rw [rounds_succ]
  go_wp2
  go_quiet (fail)
  go_wp2
  rw [rounds_succ]
  go_wp2
  go_quiet (fail)
  go_wp2
  rw [rounds_succ]
  go_wp2
  go_quiet (fail)
  go_wp2
  rw [rounds_succ]
  go_wp2
  go_quiet (fail)
  go_wp2
  go_quiet ((go_at_call 37; exact (compare_any _ _ _).mono fun _ _ ⟨he, hw⟩ => ⟨he, _, hw⟩))
  go_wp2
  go_ret
  refine ⟨rfl, ?_⟩
  repeat (first | exact T.out.bel | refine below_drewN ?_ _)

set_option maxHeartbeats 1000000 in
theorem lex_4 (a b c d p q r s : Int) (w : World) (ea : a = p) (eb : b = q) (ec : c = r) (ed : d = s) :
    Calls Try.prog 34 #[.agg #[.int .i64 a, .int .i64 b, .int .i64 c, .int .i64 d], .agg #[.int .i64 p, .int .i64 q, .int .i64 r, .int .i64 s]] w fun e w' => e = .returned (.int .i64 (0)) ∧ Below w.heap.size w w' := by
  have T : Hid (Two w ((w.alloc (.cells #[.int .i64 a, .int .i64 b, .int .i64 c, .int .i64 d] 23)).alloc (.cells #[.int .i64 p, .int .i64 q, .int .i64 r, .int .i64 s] 23)) a b c d p q r s) := Two.new w a b c d p q r s
  have ga : (a == p) = true := by simp [ea]
  have gb : (b == q) = true := by simp [eb]
  have gc : (c == r) = true := by simp [ec]
  have gd : (d == s) = true := by simp [ed]
  clear ea eb ec ed
  go_enter Try.func34, Try.ntmps34
  go_wp2
  obtain ⟨W, hW⟩ : ∃ W, W = ((w.alloc (.cells #[.int .i64 a, .int .i64 b, .int .i64 c, .int .i64 d] 23)).alloc (.cells #[.int .i64 p, .int .i64 q, .int .i64 r, .int .i64 s] 23)) := ⟨_, rfl⟩
  rw [← hW] at T
  rw [← hW]
  clear hW
  have xc0 := T.out.x.c0
  have yc0 := T.out.y.c0
  have xc1 := T.out.x.c1
  have yc1 := T.out.y.c1
  have xc2 := T.out.x.c2
  have yc2 := T.out.y.c2
  have xc3 := T.out.x.c3
  have yc3 := T.out.y.c3
  refine wp_loop_rounds 5 ?_
  rw [rounds_succ]
  go_wp2
  go_quiet (fail)
  go_wp2
  rw [rounds_succ]
  go_wp2
  go_quiet (fail)
  go_wp2
  rw [rounds_succ]
  go_wp2
  go_quiet (fail)
  go_wp2
  rw [rounds_succ]
  go_wp2
  go_quiet (fail)
  go_wp2
  rw [rounds_succ]
  go_wp2
  go_ret
  refine ⟨rfl, ?_⟩
  repeat (first | exact T.out.bel | refine below_drewN ?_ _)

theorem lex_any (a b c d p q r s : Int) (w : World) : Calls Try.prog 34 #[.agg #[.int .i64 a, .int .i64 b, .int .i64 c, .int .i64 d], .agg #[.int .i64 p, .int .i64 q, .int .i64 r, .int .i64 s]] w fun e w' => e = .returned (.int .i64 (lexI a b c d p q r s)) ∧ Below w.heap.size w w' := by
  by_cases ea : a = p
  · by_cases eb : b = q
    · by_cases ec : c = r
      · by_cases ed : d = s
        · have h := lex_4 a b c d p q r s w ea eb ec ed
          rwa [show (0 : Int) = lexI a b c d p q r s by simp [lexI, cmpI, ea, eb, ec, ed]] at h
        · have h := lex_3 a b c d p q r s w ea eb ec ed
          rwa [show cmpI d s = lexI a b c d p q r s by simp [lexI, ea, eb, ec]] at h
      · have h := lex_2 a b c d p q r s w ea eb ec
        rwa [show cmpI c r = lexI a b c d p q r s by simp [lexI, ea, eb, ec]] at h
    · have h := lex_1 a b c d p q r s w ea eb
      rwa [show cmpI b q = lexI a b c d p q r s by simp [lexI, ea, eb]] at h
  · have h := lex_0 a b c d p q r s w ea
    rwa [show cmpI a p = lexI a b c d p q r s by simp [lexI, ea]] at h

set_option maxHeartbeats 1000000 in
theorem rev_0 (a b c d p q r s : Int) (w : World) (ed : d ≠ s) :
    Calls Try.prog 36 #[.agg #[.int .i64 a, .int .i64 b, .int .i64 c, .int .i64 d], .agg #[.int .i64 p, .int .i64 q, .int .i64 r, .int .i64 s]] w fun e w' => e = .returned (.int .i64 (cmpI s d)) ∧ Below w.heap.size w w' := by
  have T : Hid (Two w ((w.alloc (.cells #[.int .i64 a, .int .i64 b, .int .i64 c, .int .i64 d] 23)).alloc (.cells #[.int .i64 p, .int .i64 q, .int .i64 r, .int .i64 s] 23)) a b c d p q r s) := Two.new w a b c d p q r s
  have gd : (d == s) = false := by simp [ed]
  clear ed
  go_enter Try.func36, Try.ntmps36
  go_wp2
  obtain ⟨W, hW⟩ : ∃ W, W = ((w.alloc (.cells #[.int .i64 a, .int .i64 b, .int .i64 c, .int .i64 d] 23)).alloc (.cells #[.int .i64 p, .int .i64 q, .int .i64 r, .int .i64 s] 23)) := ⟨_, rfl⟩
  rw [← hW] at T
  rw [← hW]
  clear hW
  have xc0 := T.out.x.c0
  have yc0 := T.out.y.c0
  have xc1 := T.out.x.c1
  have yc1 := T.out.y.c1
  have xc2 := T.out.x.c2
  have yc2 := T.out.y.c2
  have xc3 := T.out.x.c3
  have yc3 := T.out.y.c3
  refine wp_loop_rounds 5 ?_
  rw [rounds_succ]
  go_wp2
  go_quiet (fail)
  go_wp2
  go_quiet ((go_at_call 37; exact (compare_any _ _ _).mono fun _ _ ⟨he, hw⟩ => ⟨he, _, hw⟩))
  go_wp2
  go_ret
  refine ⟨rfl, ?_⟩
  repeat (first | exact T.out.bel | refine below_drewN ?_ _)

set_option maxHeartbeats 1000000 in
theorem rev_1 (a b c d p q r s : Int) (w : World) (ed : d = s) (ec : c ≠ r) :
    Calls Try.prog 36 #[.agg #[.int .i64 a, .int .i64 b, .int .i64 c, .int .i64 d], .agg #[.int .i64 p, .int .i64 q, .int .i64 r, .int .i64 s]] w fun e w' => e = .returned (.int .i64 (cmpI r c)) ∧ Below w.heap.size w w' := by
  have T : Hid (Two w ((w.alloc (.cells #[.int .i64 a, .int .i64 b, .int .i64 c, .int .i64 d] 23)).alloc (.cells #[.int .i64 p, .int .i64 q, .int .i64 r, .int .i64 s] 23)) a b c d p q r s) := Two.new w a b c d p q r s
  have gd : (d == s) = true := by simp [ed]
  have gc : (c == r) = false := by simp [ec]
  clear ed ec
  go_enter Try.func36, Try.ntmps36
  go_wp2
  obtain ⟨W, hW⟩ : ∃ W, W = ((w.alloc (.cells #[.int .i64 a, .int .i64 b, .int .i64 c, .int .i64 d] 23)).alloc (.cells #[.int .i64 p, .int .i64 q, .int .i64 r, .int .i64 s] 23)) := ⟨_, rfl⟩
  rw [← hW] at T
  rw [← hW]
  clear hW
  have xc0 := T.out.x.c0
  have yc0 := T.out.y.c0
  have xc1 := T.out.x.c1
  have yc1 := T.out.y.c1
  have xc2 := T.out.x.c2
  have yc2 := T.out.y.c2
  have xc3 := T.out.x.c3
  have yc3 := T.out.y.c3
  refine wp_loop_rounds 5 ?_
  rw [rounds_succ]
  go_wp2
  go_quiet (fail)
  go_wp2
  rw [rounds_succ]
  go_wp2
  go_quiet (fail)
  go_wp2
  go_quiet ((go_at_call 37; exact (compare_any _ _ _).mono fun _ _ ⟨he, hw⟩ => ⟨he, _, hw⟩))
  go_wp2
  go_ret
  refine ⟨rfl, ?_⟩
  repeat (first | exact T.out.bel | refine below_drewN ?_ _)

set_option maxHeartbeats 1000000 in
theorem rev_2 (a b c d p q r s : Int) (w : World) (ed : d = s) (ec : c = r) (eb : b ≠ q) :
    Calls Try.prog 36 #[.agg #[.int .i64 a, .int .i64 b, .int .i64 c, .int .i64 d], .agg #[.int .i64 p, .int .i64 q, .int .i64 r, .int .i64 s]] w fun e w' => e = .returned (.int .i64 (cmpI q b)) ∧ Below w.heap.size w w' := by
  have T : Hid (Two w ((w.alloc (.cells #[.int .i64 a, .int .i64 b, .int .i64 c, .int .i64 d] 23)).alloc (.cells #[.int .i64 p, .int .i64 q, .int .i64 r, .int .i64 s] 23)) a b c d p q r s) := Two.new w a b c d p q r s
  have gd : (d == s) = true := by simp [ed]
  have gc : (c == r) = true := by simp [ec]
  have gb : (b == q) = false := by simp [eb]
  clear ed ec eb
  go_enter Try.func36, Try.ntmps36
  go_wp2
  obtain ⟨W, hW⟩ : ∃ W, W = ((w.alloc (.cells #[.int .i64 a, .int .i64 b, .int .i64 c, .int .i64 d] 23)).alloc (.cells #[.int .i64 p, .int .i64 q, .int .i64 r, .int .i64 s] 23)) := ⟨_, rfl⟩
  rw [← hW] at T
  rw [← hW]
  clear hW
  have xc0 := T.out.x.c0
  have yc0 := T.out.y.c0
  have xc1 := T.out.x.c1
  have yc1 := T.out.y.c1
  have xc2 := T.out.x.c2
  have yc2 := T.out.y.c2
  have xc3 := T.out.x.c3
  have yc3 := T.out.y.c3
  refine wp_loop_rounds 5 ?_
  rw [rounds_succ]
  go_wp2
  go_quiet (fail)
  go_wp2
  rw [rounds_succ]
  go_wp2
  go_quiet (fail)
  go_wp2
  rw [rounds_succ]
  go_wp2
  go_quiet (fail)
  go_wp2
  go_quiet ((go_at_call 37; exact (compare_any _ _ _).mono fun _ _ ⟨he, hw⟩ => ⟨he, _, hw⟩))
  go_wp2
  go_ret
  refine ⟨rfl, ?_⟩
  repeat (first | exact T.out.bel | refine below_drewN ?_ _)

set_option maxHeartbeats 1000000 in
theorem rev_3 (a b c d p q r s : Int) (w : World) (ed : d = s) (ec : c = r) (eb : b = q) (ea : a ≠ p) :
    Calls Try.prog 36 #[.agg #[.int .i64 a, .int .i64 b, .int .i64 c, .int .i64 d], .agg #[.int .i64 p, .int .i64 q, .int .i64 r, .int .i64 s]] w fun e w' => e = .returned (.int .i64 (cmpI p a)) ∧ Below w.heap.size w w' := by
  have T : Hid (Two w ((w.alloc (.cells #[.int .i64 a, .int .i64 b, .int .i64 c, .int .i64 d] 23)).alloc (.cells #[.int .i64 p, .int .i64 q, .int .i64 r, .int .i64 s] 23)) a b c d p q r s) := Two.new w a b c d p q r s
  have gd : (d == s) = true := by simp [ed]
  have gc : (c == r) = true := by simp [ec]
  have gb : (b == q) = true := by simp [eb]
  have ga : (a == p) = false := by simp [ea]
  clear ed ec eb ea
  go_enter Try.func36, Try.ntmps36
  go_wp2
  obtain ⟨W, hW⟩ : ∃ W, W = ((w.alloc (.cells #[.int .i64 a, .int .i64 b, .int .i64 c, .int .i64 d] 23)).alloc (.cells #[.int .i64 p, .int .i64 q, .int .i64 r, .int .i64 s] 23)) := ⟨_, rfl⟩
  rw [← hW] at T
  rw [← hW]
  clear hW
  have xc0 := T.out.x.c0
  have yc0 := T.out.y.c0
  have xc1 := T.out.x.c1
  have yc1 := T.out.y.c1
  have xc2 := T.out.x.c2
  have yc2 := T.out.y.c2
  have xc3 := T.out.x.c3
  have yc3 := T.out.y.c3
  refine wp_loop_rounds 5 ?_
  rw [rounds_succ]
  go_wp2
  go_quiet (fail)
  go_wp2
  rw [rounds_succ]
  go_wp2
  go_quiet (fail)
  go_wp2
  rw [rounds_succ]
  go_wp2
  go_quiet (fail)
  go_wp2
  rw [rounds_succ]
  go_wp2
  go_quiet (fail)
  go_wp2
  go_quiet ((go_at_call 37; exact (compare_any _ _ _).mono fun _ _ ⟨he, hw⟩ => ⟨he, _, hw⟩))
  go_wp2
  go_ret
  refine ⟨rfl, ?_⟩
  repeat (first | exact T.out.bel | refine below_drewN ?_ _)

set_option maxHeartbeats 1000000 in
theorem rev_4 (a b c d p q r s : Int) (w : World) (ed : d = s) (ec : c = r) (eb : b = q) (ea : a = p) :
    Calls Try.prog 36 #[.agg #[.int .i64 a, .int .i64 b, .int .i64 c, .int .i64 d], .agg #[.int .i64 p, .int .i64 q, .int .i64 r, .int .i64 s]] w fun e w' => e = .returned (.int .i64 (0)) ∧ Below w.heap.size w w' := by
  have T : Hid (Two w ((w.alloc (.cells #[.int .i64 a, .int .i64 b, .int .i64 c, .int .i64 d] 23)).alloc (.cells #[.int .i64 p, .int .i64 q, .int .i64 r, .int .i64 s] 23)) a b c d p q r s) := Two.new w a b c d p q r s
  have gd : (d == s) = true := by simp [ed]
  have gc : (c == r) = true := by simp [ec]
  have gb : (b == q) = true := by simp [eb]
  have ga : (a == p) = true := by simp [ea]
  clear ed ec eb ea
  go_enter Try.func36, Try.ntmps36
  go_wp2
  obtain ⟨W, hW⟩ : ∃ W, W = ((w.alloc (.cells #[.int .i64 a, .int .i64 b, .int .i64 c, .int .i64 d] 23)).alloc (.cells #[.int .i64 p, .int .i64 q, .int .i64 r, .int .i64 s] 23)) := ⟨_, rfl⟩
  rw [← hW] at T
  rw [← hW]
  clear hW
  have xc0 := T.out.x.c0
  have yc0 := T.out.y.c0
  have xc1 := T.out.x.c1
  have yc1 := T.out.y.c1
  have xc2 := T.out.x.c2
  have yc2 := T.out.y.c2
  have xc3 := T.out.x.c3
  have yc3 := T.out.y.c3
  refine wp_loop_rounds 5 ?_
  rw [rounds_succ]
  go_wp2
  go_quiet (fail)
  go_wp2
  rw [rounds_succ]
  go_wp2
  go_quiet (fail)
  go_wp2
  rw [rounds_succ]
  go_wp2
  go_quiet (fail)
  go_wp2
  rw [rounds_succ]
  go_wp2
  go_quiet (fail)
  go_wp2
  rw [rounds_succ]
  go_wp2
  go_ret
  refine ⟨rfl, ?_⟩
  repeat (first | exact T.out.bel | refine below_drewN ?_ _)

theorem rev_any (a b c d p q r s : Int) (w : World) : Calls Try.prog 36 #[.agg #[.int .i64 a, .int .i64 b, .int .i64 c, .int .i64 d], .agg #[.int .i64 p, .int .i64 q, .int .i64 r, .int .i64 s]] w fun e w' => e = .returned (.int .i64 (revI a b c d p q r s)) ∧ Below w.heap.size w w' := by
  by_cases ed : d = s
  · by_cases ec : c = r
    · by_cases eb : b = q
      · by_cases ea : a = p
        · have h := rev_4 a b c d p q r s w ed ec eb ea
          rwa [show (0 : Int) = revI a b c d p q r s by simp [revI, cmpI, ed, ec, eb, ea]] at h
        · have h := rev_3 a b c d p q r s w ed ec eb ea
          rwa [show cmpI p a = revI a b c d p q r s by simp [revI, ed, ec, eb]] at h
      · have h := rev_2 a b c d p q r s w ed ec eb
        rwa [show cmpI q b = revI a b c d p q r s by simp [revI, ed, ec, eb]] at h
    · have h := rev_1 a b c d p q r s w ed ec
      rwa [show cmpI r c = revI a b c d p q r s by simp [revI, ed, ec]] at h
  · have h := rev_0 a b c d p q r s w ed
    rwa [show cmpI s d = revI a b c d p q r s by simp [revI, ed]] at h

end Go.Proofs.Ytjecibpeahjenaa
