/-
  Joined: ME · MC · MD · MG.
-/
import Derived.DeepKeys
import Derived.Test.YtnedghhcidohnaaGreatLA1
namespace Go.Proofs.YtnedghhcidohnaaGreat.Mn
open Go.RowKit

theorem Tryz.info3 : (Tryz.prog.info? 3).isSome = true := by kernel_rfl
theorem cells3 : Tryz.prog.cellsOf 3 = 1 := by kernel_rfl
theorem part0 (a b c d : Int) (w : World) : (part 3 #[.int .i64 a, .int .i64 b, .int .i64 c, .int .i64 d] 0).run Tryz.prog w = .ok (.int .i64 a) w := by kernel_rfl
theorem part1 (a b c d : Int) (w : World) : (part 3 #[.int .i64 a, .int .i64 b, .int .i64 c, .int .i64 d] 1).run Tryz.prog w = .ok (.int .i64 b) w := by kernel_rfl
theorem part2 (a b c d : Int) (w : World) : (part 3 #[.int .i64 a, .int .i64 b, .int .i64 c, .int .i64 d] 2).run Tryz.prog w = .ok (.int .i64 c) w := by kernel_rfl
theorem part3 (a b c d : Int) (w : World) : (part 3 #[.int .i64 a, .int .i64 b, .int .i64 c, .int .i64 d] 3).run Tryz.prog w = .ok (.int .i64 d) w := by kernel_rfl
theorem eq_int (k : Nat) (a p : Int) (w : World) : (Op.equalIn (k + 1) 3 (.int .i64 a) (.int .i64 p)).run Tryz.prog w = .ok (a == p) w := by
  simp [Op.equalIn, run_underlying Tryz.underlying3]

/-- Two monomials are the same. -/
def eqB (a b c d p q r s : Int) : Bool := (a == p) && (b == q) && (c == r) && (d == s)

theorem eq_m (a b c d p q r s : Int) (w : World) : (Op.equalIn 10000 47 (.agg #[.int .i64 a, .int .i64 b, .int .i64 c, .int .i64 d]) (.agg #[.int .i64 p, .int .i64 q, .int .i64 r, .int .i64 s])).run Tryz.prog w = .ok (eqB a b c d p q r s) w := by
  obtain ⟨i, hi⟩ := Option.isSome_iff_exists.1 Tryz.info3
  have e9 : ∀ (x y : Int) (v : World), (Op.equalIn 9999 3 (.int .i64 x) (.int .i64 y)).run Tryz.prog v = .ok (x == y) v := eq_int 9998
  rw [show (10000 : Nat) = 9999 + 1 from rfl, run_equalIn_array w 9999 _ _ Tryz.underlying47 hi, cells3]
  have r4 : List.range 4 = [0, 1, 2, 3] := rfl
  rw [r4]
  simp only [Op.eqItems, Sem.run_bind, Nat.mul_one, part0, Result.andThen_ok, e9, eqB]
  by_cases h1 : a = p <;> by_cases h2 : b = q <;> by_cases h3 : c = r <;> by_cases h4 : d = s <;> simp [part1, part2, part3, e9, h1, h2, h3, h4]

theorem eqB_iff (a b c d p q r s : Int) : eqB a b c d p q r s = true ↔ (a = p ∧ b = q ∧ c = r ∧ d = s) := by
  simp [eqB, and_assoc]

end Go.Proofs.YtnedghhcidohnaaGreat.Mn

/-! mono's bothMay, Mul, Div, Lcm, Coprime, Degree. -/
namespace Go.Proofs.YtnedghhcidohnaaGreat.Mn
open Go.RowKit

theorem ret_bool {a b : Bool} (h : a = b) : Ending.returned (.bool a) = .returned (.bool b) := by rw [h]

theorem size1 (w : World) (o : Obj) : (w.alloc o).heap.size = w.heap.size + 1 := by simp
theorem size2 (w : World) (o o' : Obj) : ((w.alloc o).alloc o').heap.size = w.heap.size + 2 := by simp

/-- Two monomials' variables, and what lies below them. -/
structure Two (w W : World) (a b c d p q r s : Int) : Prop where
  x : MBox W w.heap.size a b c d
  y : MBox W (w.heap.size + 1) p q r s
  bel : Below w.heap.size w W
theorem Two.new (w : World) (a b c d p q r s : Int) : Two w ((w.alloc (.cells #[.int .i64 a, .int .i64 b, .int .i64 c, .int .i64 d] 47)).alloc (.cells #[.int .i64 p, .int .i64 q, .int .i64 r, .int .i64 s] 47)) a b c d p q r s :=
  ⟨(MBox.new w a b c d).alloc _, by have h := MBox.new (w.alloc (.cells #[.int .i64 a, .int .i64 b, .int .i64 c, .int .i64 d] 47)) p q r s; rw [size1] at h; exact h, ((Below.refl _ _).alloc (Nat.le_refl _) _).alloc (by simp) _⟩
theorem Two.below {w W W' : World} {a b c d p q r s : Int} (h : Two w W a b c d p q r s) (hb : Below W.heap.size W W') : Two w W' a b c d p q r s := ⟨h.x.below hb, h.y.below hb, chain h.bel hb⟩
/-- .. and a result's variable, of nothing. -/
structure Three (w W : World) (a b c d p q r s : Int) : Prop where
  two : Two w W a b c d p q r s
  z : MBox W (w.heap.size + 2) 0 0 0 0
theorem Three.new (w : World) (a b c d p q r s : Int) : Three w (((w.alloc (.cells #[.int .i64 a, .int .i64 b, .int .i64 c, .int .i64 d] 47)).alloc (.cells #[.int .i64 p, .int .i64 q, .int .i64 r, .int .i64 s] 47)).alloc (.cells #[.int .i64 0, .int .i64 0, .int .i64 0, .int .i64 0] 47)) a b c d p q r s :=
  ⟨(Two.new w a b c d p q r s).below ((Below.refl _ _).alloc (Nat.le_refl _) _), by have h := MBox.new ((w.alloc (.cells #[.int .i64 a, .int .i64 b, .int .i64 c, .int .i64 d] 47)).alloc (.cells #[.int .i64 p, .int .i64 q, .int .i64 r, .int .i64 s] 47)) 0 0 0 0; rw [size2] at h; exact h⟩
theorem Three.below {w W W' : World} {a b c d p q r s : Int} (h : Three w W a b c d p q r s) (hb : Below W.heap.size W W') : Three w W' a b c d p q r s := ⟨h.two.below hb, h.z.below hb⟩

/-- Both may be. -/
structure Both (a b c d p q r s : Int) : Prop where
  a : May4 a b c d
  b : May4 p q r s

set_option maxHeartbeats 400000 in
theorem both_yes (a b c d p q r s : Int) (w : World) (h : Both a b c d p q r s) :
    Calls Tryz.prog 77 #[.agg #[.int .i64 a, .int .i64 b, .int .i64 c, .int .i64 d], .agg #[.int .i64 p, .int .i64 q, .int .i64 r, .int .i64 s]] w fun e w' => e = .returned (.bool true) ∧ Below w.heap.size w w' := by
  have T : Hid (Two w ((w.alloc (.cells #[.int .i64 a, .int .i64 b, .int .i64 c, .int .i64 d] 47)).alloc (.cells #[.int .i64 p, .int .i64 q, .int .i64 r, .int .i64 s] 47)) a b c d p q r s) := Two.new w a b c d p q r s
  have H : Hid (Both a b c d p q r s) := h
  clear h
  go_enter Tryz.func77, Tryz.ntmps77
  go_wp2_with fail
  refine (may_yes _ _ _ _ _ H.out.a).mono ?_
  rintro e w1 ⟨rfl, q1⟩
  have T1 : Hid (Two w w1 a b c d p q r s) := T.out.below q1
  clear q1 T
  have c0 := T1.out.y.c0
  have c1 := T1.out.y.c1
  have c2 := T1.out.y.c2
  have c3 := T1.out.y.c3
  go_wp2_with fail
  refine (may_yes _ _ _ _ _ H.out.b).mono ?_
  rintro e w2 ⟨rfl, q2⟩
  have HB : Hid (Below w.heap.size w w2) := chain T1.out.bel q2
  clear q2 T1 c0 c1 c2 c3
  go_wp2
  go_ret
  exact ⟨rfl, HB.out⟩

set_option maxHeartbeats 400000 in
theorem both_no (a b c d p q r s : Int) (w : World) (h : ¬ Both a b c d p q r s) :
    Calls Tryz.prog 77 #[.agg #[.int .i64 a, .int .i64 b, .int .i64 c, .int .i64 d], .agg #[.int .i64 p, .int .i64 q, .int .i64 r, .int .i64 s]] w fun e w' => e = .returned (.bool false) ∧ Below w.heap.size w w' := by
  have T : Hid (Two w ((w.alloc (.cells #[.int .i64 a, .int .i64 b, .int .i64 c, .int .i64 d] 47)).alloc (.cells #[.int .i64 p, .int .i64 q, .int .i64 r, .int .i64 s] 47)) a b c d p q r s) := Two.new w a b c d p q r s
  by_cases ha : May4 a b c d
  · have H : Hid (May4 a b c d ∧ ¬ May4 p q r s) := ⟨ha, fun hb => h ⟨ha, hb⟩⟩
    clear h ha
    go_enter Tryz.func77, Tryz.ntmps77
    go_wp2_with fail
    refine (may_yes _ _ _ _ _ H.out.1).mono ?_
    rintro e w1 ⟨rfl, q1⟩
    have T1 : Hid (Two w w1 a b c d p q r s) := T.out.below q1
    clear q1 T
    have c0 := T1.out.y.c0
    have c1 := T1.out.y.c1
    have c2 := T1.out.y.c2
    have c3 := T1.out.y.c3
    go_wp2_with fail
    refine (may_no _ _ _ _ _ H.out.2).mono ?_
    rintro e w2 ⟨rfl, q2⟩
    have HB : Hid (Below w.heap.size w w2) := chain T1.out.bel q2
    clear q2 T1 c0 c1 c2 c3
    go_wp2
    go_ret
    exact ⟨rfl, HB.out⟩
  · have H : Hid (¬ May4 a b c d) := ha
    clear h ha
    go_enter Tryz.func77, Tryz.ntmps77
    go_wp2_with fail
    refine (may_no _ _ _ _ _ H.out).mono ?_
    rintro e w1 ⟨rfl, q1⟩
    have T1 : Hid (Two w w1 a b c d p q r s) := T.out.below q1
    clear q1 T
    go_wp2
    go_ret
    exact ⟨rfl, T1.out.bel⟩

/-- No variable has an exponent above 0 in both. -/
structure Apart (a b c d p q r s : Int) : Prop where
  x : min a p = 0
  y : min b q = 0
  z : min c r = 0
  u : min d s = 0

set_option maxHeartbeats 400000 in
theorem deg_no (a b c d : Int) (w : World) (h : ¬ May4 a b c d) :
    Calls Tryz.prog 125 #[.agg #[.int .i64 a, .int .i64 b, .int .i64 c, .int .i64 d]] w fun e w' => e = .returned (.int .i64 0) ∧ Below w.heap.size w w' := by
  have H : Hid (¬ May4 a b c d) := h
  clear h
  go_enter Tryz.func125, Tryz.ntmps125
  go_wp2_with fail
  refine (may_no _ _ _ _ _ H.out).mono ?_
  rintro e w1 ⟨rfl, q1⟩
  have HB : Hid (Below w.heap.size w w1) := chain ((Below.refl _ _).alloc (Nat.le_refl _) _) q1
  clear q1
  go_wp2
  go_ret
  exact ⟨rfl, HB.out⟩

set_option maxHeartbeats 400000 in
theorem deg_ok (a b c d : Int) (w : World) (h : May4 a b c d) :
    Calls Tryz.prog 125 #[.agg #[.int .i64 a, .int .i64 b, .int .i64 c, .int .i64 d]] w fun e w' => e = .returned (.int .i64 (a + b + c + d)) ∧ Below w.heap.size w w' := by
  have H : Hid (May4 a b c d) := h
  obtain ⟨⟨a0, a1⟩, ⟨b0, b1⟩, ⟨c0, c1⟩, ⟨d0, d1⟩⟩ := h
  have i0 := ix0 a b c d
  have i1 := ix1 a b c d
  have i2 := ix2 a b c d
  have i3 := ix3 a b c d
  have X : Hid (MBox (w.alloc (.cells #[.int .i64 a, .int .i64 b, .int .i64 c, .int .i64 d] 47)) w.heap.size a b c d) := MBox.new w a b c d
  go_enter Tryz.func125, Tryz.ntmps125
  go_wp2_with fail
  refine (may_yes _ _ _ _ _ H.out).mono ?_
  rintro e w1 ⟨rfl, q1⟩
  have HB : Hid (Below w.heap.size w w1) := chain ((Below.refl _ _).alloc (Nat.le_refl _) _) q1
  have X1 := X.out.below q1
  have e0 := X1.c0
  have e1 := X1.c1
  have e2 := X1.c2
  have e3 := X1.c3
  clear q1 X1 X
  go_wp2
  go_rounds 5
  go_ret
  exact ⟨ret_int (by omega), HB.out⟩

end Go.Proofs.YtnedghhcidohnaaGreat.Mn

/-! cmp.Compare; mono's lex and reverseLex. -/
namespace Go.Proofs.YtnedghhcidohnaaGreat.Mn
open Go.RowKit

/-- Which of two numbers is above. -/
def cmpI (a b : Int) : Int := if a < b then -1 else if b < a then 1 else 0
/-- By the first exponent that tells. -/
def lexI (a b c d p q r s : Int) : Int := if a = p then if b = q then if c = r then cmpI d s else cmpI c r else cmpI b q else cmpI a p
/-- By the last exponent that tells: the lesser one is above. -/
def revI (a b c d p q r s : Int) : Int := if d = s then if c = r then if b = q then cmpI p a else cmpI q b else cmpI r c else cmpI s d

set_option maxHeartbeats 400000 in
theorem isnan_any (a : Int) (w : World) : Calls Tryz.prog 133 #[.int .i64 a] w fun e w' => e = .returned (.bool false) ∧ w = w' := by
  have h : (a == a) = true := by simp
  go_enter Tryz.func133, Tryz.ntmps133
  go_wp2
  go_ret
  exact ⟨rfl, rfl⟩

set_option maxHeartbeats 400000 in
theorem compare_any (a b : Int) (w : World) : Calls Tryz.prog 123 #[.int .i64 a, .int .i64 b] w fun e w' => e = .returned (.int .i64 (cmpI a b)) ∧ w' = w := by
  rcases Int.lt_trichotomy a b with h | h | h
  · go_enter Tryz.func123, Tryz.ntmps123
    go_wp2_with (go_at_call 133; refine (isnan_any _ _).mono ?_; rintro e w' ⟨rfl, rfl⟩)
    go_ret
    exact ⟨ret_int (by simp [cmpI, h]), rfl⟩
  · subst h
    go_enter Tryz.func123, Tryz.ntmps123
    go_wp2_with (go_at_call 133; refine (isnan_any _ _).mono ?_; rintro e w' ⟨rfl, rfl⟩)
    go_ret
    exact ⟨ret_int (by simp [cmpI]), rfl⟩
  · have h' : ¬ a < b := by omega
    go_enter Tryz.func123, Tryz.ntmps123
    go_wp2_with (go_at_call 133; refine (isnan_any _ _).mono ?_; rintro e w' ⟨rfl, rfl⟩)
    go_ret
    exact ⟨ret_int (by simp [cmpI, h, h']), rfl⟩

set_option maxHeartbeats 1000000 in
theorem lex_0 (a b c d p q r s : Int) (w : World) (ea : a ≠ p) :
    Calls Tryz.prog 97 #[.agg #[.int .i64 a, .int .i64 b, .int .i64 c, .int .i64 d], .agg #[.int .i64 p, .int .i64 q, .int .i64 r, .int .i64 s]] w fun e w' => e = .returned (.int .i64 (cmpI a p)) ∧ Below w.heap.size w w' := by
  have T : Hid (Two w ((w.alloc (.cells #[.int .i64 a, .int .i64 b, .int .i64 c, .int .i64 d] 47)).alloc (.cells #[.int .i64 p, .int .i64 q, .int .i64 r, .int .i64 s] 47)) a b c d p q r s) := Two.new w a b c d p q r s
  have ga : (a == p) = false := by simp [ea]
  clear ea
  go_enter Tryz.func97, Tryz.ntmps97
  go_wp2
  obtain ⟨W, hW⟩ : ∃ W, W = ((w.alloc (.cells #[.int .i64 a, .int .i64 b, .int .i64 c, .int .i64 d] 47)).alloc (.cells #[.int .i64 p, .int .i64 q, .int .i64 r, .int .i64 s] 47)) := ⟨_, rfl⟩
  rw [← hW] at T
  rw [← hW]
  clear hW
  have xc0 := T.out.x.c0
  have yc0 := T.out.y.c0
  have xc1 := T.out.x.c1
  have yc1 := T.out.y.c1
  have xc2 := T.out.x.c2
  have yc2 := T.out.y.c2
  have xc3 := T.out.x.c3
  have yc3 := T.out.y.c3
  refine wp_loop_rounds 5 ?_
  rw [rounds_succ]
  go_wp2
  go_quiet (fail)
  go_wp2
  go_quiet ((go_at_call 123; exact (compare_any _ _ _).mono fun _ _ ⟨he, hw⟩ => ⟨he, _, hw⟩))
  go_wp2
  go_ret
  refine ⟨rfl, ?_⟩
  repeat (first | exact T.out.bel | refine below_drewN ?_ _)

set_option maxHeartbeats 1000000 in
theorem lex_1 (a b c d p q r s : Int) (w : World) (ea : a = p) (eb : b ≠ q) :
    Calls Tryz.prog 97 #[.agg #[.int .i64 a, .int .i64 b, .int .i64 c, .int .i64 d], .agg #[.int .i64 p, .int .i64 q, .int .i64 r, .int .i64 s]] w fun e w' => e = .returned (.int .i64 (cmpI b q)) ∧ Below w.heap.size w w' := by
  have T : Hid (Two w ((w.alloc (.cells #[.int .i64 a, .int .i64 b, .int .i64 c, .int .i64 d] 47)).alloc (.cells #[.int .i64 p, .int .i64 q, .int .i64 r, .int .i64 s] 47)) a b c d p q r s) := Two.new w a b c d p q r s
  have ga : (a == p) = true := by simp [ea]
  have gb : (b == q) = false := by simp [eb]
  clear ea eb
  go_enter Tryz.func97, Tryz.ntmps97
  go_wp2
  obtain ⟨W, hW⟩ : ∃ W, W = ((w.alloc (.cells #[.int .i64 a, .int .i64 b, .int .i64 c, .int .i64 d] 47)).alloc (.cells #[.int .i64 p, .int .i64 q, .int .i64 r, .int .i64 s] 47)) := ⟨_, rfl⟩
  rw [← hW] at T
  rw [← hW]
  clear hW
  have xc0 := T.out.x.c0
  have yc0 := T.out.y.c0
  have xc1 := T.out.x.c1
  have yc1 := T.out.y.c1
  have xc2 := T.out.x.c2
  have yc2 := T.out.y.c2
  have xc3 := T.out.x.c3
  have yc3 := T.out.y.c3
  refine wp_loop_rounds 5 ?_
  rw [rounds_succ]
  go_wp2
  go_quiet (fail)
  go_wp2
  rw [rounds_succ]
  go_wp2
  go_quiet (fail)
  go_wp2
  go_quiet ((go_at_call 123; exact (compare_any _ _ _).mono fun _ _ ⟨he, hw⟩ => ⟨he, _, hw⟩))
  go_wp2
  go_ret
  refine ⟨rfl, ?_⟩
  repeat (first | exact T.out.bel | refine below_drewN ?_ _)

set_option maxHeartbeats 1000000 in
theorem lex_2 (a b c d p q r s : Int) (w : World) (ea : a = p) (eb : b = q) (ec : c ≠ r) :
    Calls Tryz.prog 97 #[.agg #[.int .i64 a, .int .i64 b, .int .i64 c, .int .i64 d], .agg #[.int .i64 p, .int .i64 q, .int .i64 r, .int .i64 s]] w fun e w' => e = .returned (.int .i64 (cmpI c r)) ∧ Below w.heap.size w w' := by
  have T : Hid (Two w ((w.alloc (.cells #[.int .i64 a, .int .i64 b, .int .i64 c, .int .i64 d] 47)).alloc (.cells #[.int .i64 p, .int .i64 q, .int .i64 r, .int .i64 s] 47)) a b c d p q r s) := Two.new w a b c d p q r s
  have ga : (a == p) = true := by simp [ea]
  have gb : (b == q) = true := by simp [eb]
  have gc : (c == r) = false := by simp [ec]
  clear ea eb ec
  go_enter Tryz.func97, Tryz.ntmps97
  go_wp2
  obtain ⟨W, hW⟩ : ∃ W, W = ((w.alloc (.cells #[.int .i64 a, .int .i64 b, .int .i64 c, .int .i64 d] 47)).alloc (.cells #[.int .i64 p, .int .i64 q, .int .i64 r, .int .i64 s] 47)) := ⟨_, rfl⟩
  rw [← hW] at T
  rw [← hW]
  clear hW
  have xc0 := T.out.x.c0
  have yc0 := T.out.y.c0
  have xc1 := T.out.x.c1
  have yc1 := T.out.y.c1
  have xc2 := T.out.x.c2
  have yc2 := T.out.y.c2
  have xc3 := T.out.x.c3
  have yc3 := T.out.y.c3
  refine wp_loop_rounds 5 ?_
  rw [rounds_succ]
  go_wp2
  go_quiet (fail)
  go_wp2
  rw [rounds_succ]
  go_wp2
  go_quiet (fail)
  go_wp2
  rw [rounds_succ]
  go_wp2
  go_quiet (fail)
  go_wp2
  go_quiet ((go_at_call 123; exact (compare_any _ _ _).mono fun _ _ ⟨he, hw⟩ => ⟨he, _, hw⟩))
  go_wp2
  go_ret
  refine ⟨rfl, ?_⟩
  repeat (first | exact T.out.bel | refine below_drewN ?_ _)

set_option maxHeartbeats 1000000 in
theorem lex_3 (a b c d p q r s : Int) (w : World) (ea : a = p) (eb : b = q) (ec : c = r) (ed : d ≠ s) :
    Calls Tryz.prog 97 #[.agg #[.int .i64 a, .int .i64 b, .int .i64 c, .int .i64 d], .agg #[.int .i64 p, .int .i64 q, .int .i64 r, .int .i64 s]] w fun e w' => e = .returned (.int .i64 (cmpI d s)) ∧ Below w.heap.size w w' := by
  have T : Hid (Two w ((w.alloc (.cells #[.int .i64 a, .int .i64 b, .int .i64 c, .int .i64 d] 47)).alloc (.cells #[.int .i64 p, .int .i64 q, .int .i64 r, .int .i64 s] 47)) a b c d p q r s) := Two.new w a b c d p q r s
  have ga : (a == p) = true := by simp [ea]
  have gb : (b == q) = true := by simp [eb]
  have gc : (c == r) = true := by simp [ec]
  have gd : (d == s) = false := by simp [ed]
  clear ea eb ec ed
  go_enter Tryz.func97, Tryz.ntmps97
  go_wp2
  obtain ⟨W, hW⟩ : ∃ W, W = ((w.alloc (.cells #[.int .i64 a, .int .i64 b, .int .i64 c, .int .i64 d] 47)).alloc (.cells #[.int .i64 p, .int .i64 q, .int .i64 r, .int .i64 s] 47)) := ⟨_, rfl⟩
  rw [← hW] at T
  rw [← hW]
  clear hW
  have xc0 := T.out.x.c0
  have yc0 := T.out.y.c0
  have xc1 := T.out.x.c1
  have yc1 := T.out.y.c1
  have xc2 := T.out.x.c2
  have yc2 := T.out.y.c2
  have xc3 := T.out.x.c3
  have yc3 := T.out.y.c3
  refine wp_loop_rounds 5 ?_
  rw [rounds_succ]
  go_wp2
  go_quiet (fail)
  go_wp2
  rw [rounds_succ]
  go_wp2
  go_quiet (fail)
  go_wp2
  rw [rounds_succ]
  go_wp2
  go_quiet (fail)
  go_wp2
  rw [rounds_succ]
  go_wp2
  go_quiet (fail)
  go_wp2
  go_quiet ((go_at_call 123; exact (compare_any _ _ _).mono fun _ _ ⟨he, hw⟩ => ⟨he, _, hw⟩))
  go_wp2
  go_ret
  refine ⟨rfl, ?_⟩
  repeat (first | exact T.out.bel | refine below_drewN ?_ _)

set_option maxHeartbeats 1000000 in
theorem lex_4 (a b c d p q r s : Int) (w : World) (ea : a = p) (eb : b = q) (ec : c = r) (ed : d = s) :
    Calls Tryz.prog 97 #[.agg #[.int .i64 a, .int .i64 b, .int .i64 c, .int .i64 d], .agg #[.int .i64 p, .int .i64 q, .int .i64 r, .int .i64 s]] w fun e w' => e = .returned (.int .i64 (0)) ∧ Below w.heap.size w w' := by
  have T : Hid (Two w ((w.alloc (.cells #[.int .i64 a, .int .i64 b, .int .i64 c, .int .i64 d] 47)).alloc (.cells #[.int .i64 p, .int .i64 q, .int .i64 r, .int .i64 s] 47)) a b c d p q r s) := Two.new w a b c d p q r s
  have ga : (a == p) = true := by simp [ea]
  have gb : (b == q) = true := by simp [eb]
  have gc : (c == r) = true := by simp [ec]
  have gd : (d == s) = true := by simp [ed]
  clear ea eb ec ed
  go_enter Tryz.func97, Tryz.ntmps97
  go_wp2
  obtain ⟨W, hW⟩ : ∃ W, W = ((w.alloc (.cells #[.int .i64 a, .int .i64 b, .int .i64 c, .int .i64 d] 47)).alloc (.cells #[.int .i64 p, .int .i64 q, .int .i64 r, .int .i64 s] 47)) := ⟨_, rfl⟩
  rw [← hW] at T
  rw [← hW]
  clear hW
  have xc0 := T.out.x.c0
  have yc0 := T.out.y.c0
  have xc1 := T.out.x.c1
  have yc1 := T.out.y.c1
  have xc2 := T.out.x.c2
  have yc2 := T.out.y.c2
  have xc3 := T.out.x.c3
  have yc3 := T.out.y.c3
  refine wp_loop_rounds 5 ?_
  rw [rounds_succ]
  go_wp2
  go_quiet (fail)
  go_wp2
  rw [rounds_succ]
  go_wp2
  go_quiet (fail)
  go_wp2
  rw [rounds_succ]
  go_wp2
  go_quiet (fail)
  go_wp2
  rw [rounds_succ]
  go_wp2
  go_quiet (fail)
  go_wp2
  rw [rounds_succ]
  go_wp2
  go_ret
  refine ⟨rfl, ?_⟩
  repeat (first | exact T.out.bel | refine below_drewN ?_ _)

theorem lex_any (a b c d p q r s : Int) (w : World) : Calls Tryz.prog 97 #[.agg #[.int .i64 a, .int .i64 b, .int .i64 c, .int .i64 d], .agg #[.int .i64 p, .int .i64 q, .int .i64 r, .int .i64 s]] w fun e w' => e = .returned (.int .i64 (lexI a b c d p q r s)) ∧ Below w.heap.size w w' := by
  by_cases ea : a = p
  · by_cases eb : b = q
    · by_cases ec : c = r
      · by_cases ed : d = s
        · have h := lex_4 a b c d p q r s w ea eb ec ed
          rwa [show (0 : Int) = lexI a b c d p q r s by simp [lexI, cmpI, ea, eb, ec, ed]] at h
        · have h := lex_3 a b c d p q r s w ea eb ec ed
          rwa [show cmpI d s = lexI a b c d p q r s by simp [lexI, ea, eb, ec]] at h
      · have h := lex_2 a b c d p q r s w ea eb ec
        rwa [show cmpI c r = lexI a b c d p q r s by simp [lexI, ea, eb, ec]] at h
    · have h := lex_1 a b c d p q r s w ea eb
      rwa [show cmpI b q = lexI a b c d p q r s by simp [lexI, ea, eb]] at h
  · have h := lex_0 a b c d p q r s w ea
    rwa [show cmpI a p = lexI a b c d p q r s by simp [lexI, ea]] at h

set_option maxHeartbeats 1000000 in
theorem rev_0 (a b c d p q r s : Int) (w : World) (ed : d ≠ s) :
    Calls Tryz.prog 99 #[.agg #[.int .i64 a, .int .i64 b, .int .i64 c, .int .i64 d], .agg #[.int .i64 p, .int .i64 q, .int .i64 r, .int .i64 s]] w fun e w' => e = .returned (.int .i64 (cmpI s d)) ∧ Below w.heap.size w w' := by
  have T : Hid (Two w ((w.alloc (.cells #[.int .i64 a, .int .i64 b, .int .i64 c, .int .i64 d] 47)).alloc (.cells #[.int .i64 p, .int .i64 q, .int .i64 r, .int .i64 s] 47)) a b c d p q r s) := Two.new w a b c d p q r s
  have gd : (d == s) = false := by simp [ed]
  clear ed
  go_enter Tryz.func99, Tryz.ntmps99
  go_wp2
  obtain ⟨W, hW⟩ : ∃ W, W = ((w.alloc (.cells #[.int .i64 a, .int .i64 b, .int .i64 c, .int .i64 d] 47)).alloc (.cells #[.int .i64 p, .int .i64 q, .int .i64 r, .int .i64 s] 47)) := ⟨_, rfl⟩
  rw [← hW] at T
  rw [← hW]
  clear hW
  have xc0 := T.out.x.c0
  have yc0 := T.out.y.c0
  have xc1 := T.out.x.c1
  have yc1 := T.out.y.c1
  have xc2 := T.out.x.c2
  have yc2 := T.out.y.c2
  have xc3 := T.out.x.c3
  have yc3 := T.out.y.c3
  refine wp_loop_rounds 5 ?_
  rw [rounds_succ]
  go_wp2
  go_quiet (fail)
  go_wp2
  go_quiet ((go_at_call 123; exact (compare_any _ _ _).mono fun _ _ ⟨he, hw⟩ => ⟨he, _, hw⟩))
  go_wp2
  go_ret
  refine ⟨rfl, ?_⟩
  repeat (first | exact T.out.bel | refine below_drewN ?_ _)

set_option maxHeartbeats 1000000 in
theorem rev_1 (a b c d p q r s : Int) (w : World) (ed : d = s) (ec : c ≠ r) :
    Calls Tryz.prog 99 #[.agg #[.int .i64 a, .int .i64 b, .int .i64 c, .int .i64 d], .agg #[.int .i64 p, .int .i64 q, .int .i64 r, .int .i64 s]] w fun e w' => e = .returned (.int .i64 (cmpI r c)) ∧ Below w.heap.size w w' := by
  have T : Hid (Two w ((w.alloc (.cells #[.int .i64 a, .int .i64 b, .int .i64 c, .int .i64 d] 47)).alloc (.cells #[.int .i64 p, .int .i64 q, .int .i64 r, .int .i64 s] 47)) a b c d p q r s) := Two.new w a b c d p q r s
  have gd : (d == s) = true := by simp [ed]
  have gc : (c == r) = false := by simp [ec]
  clear ed ec
  go_enter Tryz.func99, Tryz.ntmps99
  go_wp2
  obtain ⟨W, hW⟩ : ∃ W, W = ((w.alloc (.cells #[.int .i64 a, .int .i64 b, .int .i64 c, .int .i64 d] 47)).alloc (.cells #[.int .i64 p, .int .i64 q, .int .i64 r, .int .i64 s] 47)) := ⟨_, rfl⟩
  rw [← hW] at T
  rw [← hW]
  clear hW
  have xc0 := T.out.x.c0
  have yc0 := T.out.y.c0
  have xc1 := T.out.x.c1
  have yc1 := T.out.y.c1
  have xc2 := T.out.x.c2
  have yc2 := T.out.y.c2
  have xc3 := T.out.x.c3
  have yc3 := T.out.y.c3
  refine wp_loop_rounds 5 ?_
  rw [rounds_succ]
  go_wp2
  go_quiet (fail)
  go_wp2
  rw [rounds_succ]
  go_wp2
  go_quiet (fail)
  go_wp2
  go_quiet ((go_at_call 123; exact (compare_any _ _ _).mono fun _ _ ⟨he, hw⟩ => ⟨he, _, hw⟩))
  go_wp2
  go_ret
  refine ⟨rfl, ?_⟩
  repeat (first | exact T.out.bel | refine below_drewN ?_ _)

set_option maxHeartbeats 1000000 in
theorem rev_2 (a b c d p q r s : Int) (w : World) (ed : d = s) (ec : c = r) (eb : b ≠ q) :
    Calls Tryz.prog 99 #[.agg #[.int .i64 a, .int .i64 b, .int .i64 c, .int .i64 d], .agg #[.int .i64 p, .int .i64 q, .int .i64 r, .int .i64 s]] w fun e w' => e = .returned (.int .i64 (cmpI q b)) ∧ Below w.heap.size w w' := by
  have T : Hid (Two w ((w.alloc (.cells #[.int .i64 a, .int .i64 b, .int .i64 c, .int .i64 d] 47)).alloc (.cells #[.int .i64 p, .int .i64 q, .int .i64 r, .int .i64 s] 47)) a b c d p q r s) := Two.new w a b c d p q r s
  have gd : (d == s) = true := by simp [ed]
  have gc : (c == r) = true := by simp [ec]
  have gb : (b == q) = false := by simp [eb]
  clear ed ec eb
  go_enter Tryz.func99, Tryz.ntmps99
  go_wp2
  obtain ⟨W, hW⟩ : ∃ W, W = ((w.alloc (.cells #[.int .i64 a, .int .i64 b, .int .i64 c, .int .i64 d] 47)).alloc (.cells #[.int .i64 p, .int .i64 q, .int .i64 r, .int .i64 s] 47)) := ⟨_, rfl⟩
  rw [← hW] at T
  rw [← hW]
  clear hW
  have xc0 := T.out.x.c0
  have yc0 := T.out.y.c0
  have xc1 := T.out.x.c1
  have yc1 := T.out.y.c1
  have xc2 := T.out.x.c2
  have yc2 := T.out.y.c2
  have xc3 := T.out.x.c3
  have yc3 := T.out.y.c3
  refine wp_loop_rounds 5 ?_
  rw [rounds_succ]
  go_wp2
  go_quiet (fail)
  go_wp2
  rw [rounds_succ]
  go_wp2
  go_quiet (fail)
  go_wp2
  rw [rounds_succ]
  go_wp2
  go_quiet (fail)
  go_wp2
  go_quiet ((go_at_call 123; exact (compare_any _ _ _).mono fun _ _ ⟨he, hw⟩ => ⟨he, _, hw⟩))
  go_wp2
  go_ret
  refine ⟨rfl, ?_⟩
  repeat (first | exact T.out.bel | refine below_drewN ?_ _)

set_option maxHeartbeats 1000000 in
theorem rev_3 (a b c d p q r s : Int) (w : World) (ed : d = s) (ec : c = r) (eb : b = q) (ea : a ≠ p) :
    Calls Tryz.prog 99 #[.agg #[.int .i64 a, .int .i64 b, .int .i64 c, .int .i64 d], .agg #[.int .i64 p, .int .i64 q, .int .i64 r, .int .i64 s]] w fun e w' => e = .returned (.int .i64 (cmpI p a)) ∧ Below w.heap.size w w' := by
  have T : Hid (Two w ((w.alloc (.cells #[.int .i64 a, .int .i64 b, .int .i64 c, .int .i64 d] 47)).alloc (.cells #[.int .i64 p, .int .i64 q, .int .i64 r, .int .i64 s] 47)) a b c d p q r s) := Two.new w a b c d p q r s
  have gd : (d == s) = true := by simp [ed]
  have gc : (c == r) = true := by simp [ec]
  have gb : (b == q) = true := by simp [eb]
  have ga : (a == p) = false := by simp [ea]
  clear ed ec eb ea
  go_enter Tryz.func99, Tryz.ntmps99
  go_wp2
  obtain ⟨W, hW⟩ : ∃ W, W = ((w.alloc (.cells #[.int .i64 a, .int .i64 b, .int .i64 c, .int .i64 d] 47)).alloc (.cells #[.int .i64 p, .int .i64 q, .int .i64 r, .int .i64 s] 47)) := ⟨_, rfl⟩
  rw [← hW] at T
  rw [← hW]
  clear hW
  have xc0 := T.out.x.c0
  have yc0 := T.out.y.c0
  have xc1 := T.out.x.c1
  have yc1 := T.out.y.c1
  have xc2 := T.out.x.c2
  have yc2 := T.out.y.c2
  have xc3 := T.out.x.c3
  have yc3 := T.out.y.c3
  refine wp_loop_rounds 5 ?_
  rw [rounds_succ]
  go_wp2
  go_quiet (fail)
  go_wp2
  rw [rounds_succ]
  go_wp2
  go_quiet (fail)
  go_wp2
  rw [rounds_succ]
  go_wp2
  go_quiet (fail)
  go_wp2
  rw [rounds_succ]
  go_wp2
  go_quiet (fail)
  go_wp2
  go_quiet ((go_at_call 123; exact (compare_any _ _ _).mono fun _ _ ⟨he, hw⟩ => ⟨he, _, hw⟩))
  go_wp2
  go_ret
  refine ⟨rfl, ?_⟩
  repeat (first | exact T.out.bel | refine below_drewN ?_ _)

set_option maxHeartbeats 1000000 in
theorem rev_4 (a b c d p q r s : Int) (w : World) (ed : d = s) (ec : c = r) (eb : b = q) (ea : a = p) :
    Calls Tryz.prog 99 #[.agg #[.int .i64 a, .int .i64 b, .int .i64 c, .int .i64 d], .agg #[.int .i64 p, .int .i64 q, .int .i64 r, .int .i64 s]] w fun e w' => e = .returned (.int .i64 (0)) ∧ Below w.heap.size w w' := by
  have T : Hid (Two w ((w.alloc (.cells #[.int .i64 a, .int .i64 b, .int .i64 c, .int .i64 d] 47)).alloc (.cells #[.int .i64 p, .int .i64 q, .int .i64 r, .int .i64 s] 47)) a b c d p q r s) := Two.new w a b c d p q r s
  have gd : (d == s) = true := by simp [ed]
  have gc : (c == r) = true := by simp [ec]
  have gb : (b == q) = true := by simp [eb]
  have ga : (a == p) = true := by simp [ea]
  clear ed ec eb ea
  go_enter Tryz.func99, Tryz.ntmps99
  go_wp2
  obtain ⟨W, hW⟩ : ∃ W, W = ((w.alloc (.cells #[.int .i64 a, .int .i64 b, .int .i64 c, .int .i64 d] 47)).alloc (.cells #[.int .i64 p, .int .i64 q, .int .i64 r, .int .i64 s] 47)) := ⟨_, rfl⟩
  rw [← hW] at T
  rw [← hW]
  clear hW
  have xc0 := T.out.x.c0
  have yc0 := T.out.y.c0
  have xc1 := T.out.x.c1
  have yc1 := T.out.y.c1
  have xc2 := T.out.x.c2
  have yc2 := T.out.y.c2
  have xc3 := T.out.x.c3
  have yc3 := T.out.y.c3
  refine wp_loop_rounds 5 ?_
  rw [rounds_succ]
  go_wp2
  go_quiet (fail)
  go_wp2
  rw [rounds_succ]
  go_wp2
  go_quiet (fail)
  go_wp2
  rw [rounds_succ]
  go_wp2
  go_quiet (fail)
  go_wp2
  rw [rounds_succ]
  go_wp2
  go_quiet (fail)
  go_wp2
  rw [rounds_succ]
  go_wp2
  go_ret
  refine ⟨rfl, ?_⟩
  repeat (first | exact T.out.bel | refine below_drewN ?_ _)

theorem rev_any (a b c d p q r s : Int) (w : World) : Calls Tryz.prog 99 #[.agg #[.int .i64 a, .int .i64 b, .int .i64 c, .int .i64 d], .agg #[.int .i64 p, .int .i64 q, .int .i64 r, .int .i64 s]] w fun e w' => e = .returned (.int .i64 (revI a b c d p q r s)) ∧ Below w.heap.size w w' := by
  by_cases ed : d = s
  · by_cases ec : c = r
    · by_cases eb : b = q
      · by_cases ea : a = p
        · have h := rev_4 a b c d p q r s w ed ec eb ea
          rwa [show (0 : Int) = revI a b c d p q r s by simp [revI, cmpI, ed, ec, eb, ea]] at h
        · have h := rev_3 a b c d p q r s w ed ec eb ea
          rwa [show cmpI p a = revI a b c d p q r s by simp [revI, ed, ec, eb]] at h
      · have h := rev_2 a b c d p q r s w ed ec eb
        rwa [show cmpI q b = revI a b c d p q r s by simp [revI, ed, ec, eb]] at h
    · have h := rev_1 a b c d p q r s w ed ec
      rwa [show cmpI r c = revI a b c d p q r s by simp [revI, ed, ec]] at h
  · have h := rev_0 a b c d p q r s w ed
    rwa [show cmpI s d = revI a b c d p q r s by simp [revI, ed]] at h

end Go.Proofs.YtnedghhcidohnaaGreat.Mn

/-! The reference's Degree, sign, lex, Cmp. -/
namespace Go.Proofs.YtnedghhcidohnaaGreat.Mn
open Go.RowKit

set_option maxHeartbeats 400000 in
theorem rdeg_no (a b c d : Int) (w : World) (h : ¬ May4 a b c d) :
    Calls Tryz.prog 62 #[.agg #[.int .i64 a, .int .i64 b, .int .i64 c, .int .i64 d]] w fun e w' => e = .returned (.int .i64 0) ∧ Below w.heap.size w w' := by
  have H : Hid (¬ May4 a b c d) := h
  clear h
  go_enter Tryz.func62, Tryz.ntmps62
  go_wp2_with fail
  refine (rmay_no _ _ _ _ _ H.out).mono ?_
  rintro e w1 ⟨rfl, q1⟩
  have HB : Hid (Below w.heap.size w w1) := chain ((Below.refl _ _).alloc (Nat.le_refl _) _) q1
  clear q1
  go_wp2
  go_ret
  exact ⟨rfl, HB.out⟩

set_option maxHeartbeats 400000 in
theorem rdeg_ok (a b c d : Int) (w : World) (h : May4 a b c d) :
    Calls Tryz.prog 62 #[.agg #[.int .i64 a, .int .i64 b, .int .i64 c, .int .i64 d]] w fun e w' => e = .returned (.int .i64 (a + b + c + d)) ∧ Below w.heap.size w w' := by
  have H : Hid (May4 a b c d) := h
  obtain ⟨⟨a0, a1⟩, ⟨b0, b1⟩, ⟨c0, c1⟩, ⟨d0, d1⟩⟩ := h
  have X : Hid (MBox (w.alloc (.cells #[.int .i64 a, .int .i64 b, .int .i64 c, .int .i64 d] 47)) w.heap.size a b c d) := MBox.new w a b c d
  go_enter Tryz.func62, Tryz.ntmps62
  go_wp2_with fail
  refine (rmay_yes _ _ _ _ _ H.out).mono ?_
  rintro e w1 ⟨rfl, q1⟩
  have HB : Hid (Below w.heap.size w w1) := chain ((Below.refl _ _).alloc (Nat.le_refl _) _) q1
  have X1 := X.out.below q1
  have e0 := X1.c0
  have e1 := X1.c1
  have e2 := X1.c2
  have e3 := X1.c3
  clear q1 X1 X
  go_wp2
  go_rounds 5
  go_ret
  exact ⟨ret_int (by omega), HB.out⟩

set_option maxHeartbeats 400000 in
theorem sign_any (n : Int) (a b : Int) (w : World) (hn : n = a - b) : Calls Tryz.prog 63 #[.int .i64 n] w fun e w' => e = .returned (.int .i64 (cmpI a b)) ∧ w' = w := by
  have H : Hid (n = a - b) := hn
  clear hn
  rcases Int.lt_trichotomy n 0 with h | h | h
  · go_enter Tryz.func63, Tryz.ntmps63
    go_wp2
    go_ret
    exact ⟨ret_int (by have := H.out; unfold cmpI; rw [if_pos (by omega)]), rfl⟩
  · have h2 : ¬ n < 0 := by omega
    have h3 : ¬ 0 < n := by omega
    have HZ : Hid (n = 0) := h
    clear h
    go_enter Tryz.func63, Tryz.ntmps63
    go_wp2
    go_ret
    exact ⟨ret_int (by have := H.out; have := HZ.out; unfold cmpI; rw [if_neg (by omega), if_neg (by omega)]), rfl⟩
  · have h2 : ¬ n < 0 := by omega
    go_enter Tryz.func63, Tryz.ntmps63
    go_wp2
    go_ret
    exact ⟨ret_int (by have := H.out; unfold cmpI; rw [if_neg (by omega), if_pos (by omega)]), rfl⟩

end Go.Proofs.YtnedghhcidohnaaGreat.Mn
