/-
  mono's bothMay, Mul, Div, Lcm, Coprime, Degree.
-/
import Derived.Test.YtjecibpeahjenaaME
namespace Go.Proofs.Ytjecibpeahjenaa
open Go.RowKit

theorem ret_bool {a b : Bool} (h : a = b) : Ending.returned (.bool a) = .returned (.bool b) := by rw [h]

theorem size1 (w : World) (o : Obj) : (w.alloc o).heap.size = w.heap.size + 1 := by simp
theorem size2 (w : World) (o o' : Obj) : ((w.alloc o).alloc o').heap.size = w.heap.size + 2 := by simp

/-- Two monomials' variables, and what lies below them. -/
structure Two (w W : World) (a b c d p q r s : Int) : Prop where
  x : MBox W w.heap.size a b c d
  y : MBox W (w.heap.size + 1) p q r s
  bel : Below w.heap.size w W
theorem Two.new (w : World) (a b c d p q r s : Int) : Two w ((w.alloc (.cells #[.int .i64 a, .int .i64 b, .int .i64 c, .int .i64 d] 23)).alloc (.cells #[.int .i64 p, .int .i64 q, .int .i64 r, .int .i64 s] 23)) a b c d p q r s :=
  ⟨(MBox.new w a b c d).alloc _, by have h := MBox.new (w.alloc (.cells #[.int .i64 a, .int .i64 b, .int .i64 c, .int .i64 d] 23)) p q r s; rw [size1] at h; exact h, ((Below.refl _ _).alloc (Nat.le_refl _) _).alloc (by simp) _⟩
theorem Two.below {w W W' : World} {a b c d p q r s : Int} (h : Two w W a b c d p q r s) (hb : Below W.heap.size W W') : Two w W' a b c d p q r s := ⟨h.x.below hb, h.y.below hb, chain h.bel hb⟩
/-- .. and a result's variable, of nothing. -/
structure Three (w W : World) (a b c d p q r s : Int) : Prop where
  two : Two w W a b c d p q r s
  z : MBox W (w.heap.size + 2) 0 0 0 0
theorem Three.new (w : World) (a b c d p q r s : Int) : Three w (((w.alloc (.cells #[.int .i64 a, .int .i64 b, .int .i64 c, .int .i64 d] 23)).alloc (.cells #[.int .i64 p, .int .i64 q, .int .i64 r, .int .i64 s] 23)).alloc (.cells #[.int .i64 0, .int .i64 0, .int .i64 0, .int .i64 0] 23)) a b c d p q r s :=
  ⟨(Two.new w a b c d p q r s).below ((Below.refl _ _).alloc (Nat.le_refl _) _), by have h := MBox.new ((w.alloc (.cells #[.int .i64 a, .int .i64 b, .int .i64 c, .int .i64 d] 23)).alloc (.cells #[.int .i64 p, .int .i64 q, .int .i64 r, .int .i64 s] 23)) 0 0 0 0; rw [size2] at h; exact h⟩
theorem Three.below {w W W' : World} {a b c d p q r s : Int} (h : Three w W a b c d p q r s) (hb : Below W.heap.size W W') : Three w W' a b c d p q r s := ⟨h.two.below hb, h.z.below hb⟩

/-- Both may be. -/
structure Both (a b c d p q r s : Int) : Prop where
  a : May4 a b c d
  b : May4 p q r s

set_option maxHeartbeats 400000 in
theorem both_yes (a b c d p q r s : Int) (w : World) (h : Both a b c d p q r s) :
    Calls Try.prog 25 #[.agg #[.int .i64 a, .int .i64 b, .int .i64 c, .int .i64 d], .agg #[.int .i64 p, .int .i64 q, .int .i64 r, .int .i64 s]] w fun e w' => e = .returned (.bool true) ∧ Below w.heap.size w w' := by
  have T : Hid (Two w ((w.alloc (.cells #[.int .i64 a, .int .i64 b, .int .i64 c, .int .i64 d] 23)).alloc (.cells #[.int .i64 p, .int .i64 q, .int .i64 r, .int .i64 s] 23)) a b c d p q r s) := Two.new w a b c d p q r s
  have H : Hid (Both a b c d p q r s) := h
  clear h
  go_enter Try.func25, Try.ntmps25
  go_wp2_with fail
  refine (may_yes _ _ _ _ _ H.out.a).mono ?_
  rintro e w1 ⟨rfl, q1⟩
  have T1 : Hid (Two w w1 a b c d p q r s) := T.out.below q1
  clear q1 T
  have c0 := T1.out.y.c0
  have c1 := T1.out.y.c1
  have c2 := T1.out.y.c2
  have c3 := T1.out.y.c3
  go_wp2_with fail
  refine (may_yes _ _ _ _ _ H.out.b).mono ?_
  rintro e w2 ⟨rfl, q2⟩
  have HB : Hid (Below w.heap.size w w2) := chain T1.out.bel q2
  clear q2 T1 c0 c1 c2 c3
  go_wp2
  go_ret
  exact ⟨rfl, HB.out⟩

set_option maxHeartbeats 400000 in
theorem both_no (a b c d p q r s : Int) (w : World) (h : ¬ Both a b c d p q r s) :
    Calls Try.prog 25 #[.agg #[.int .i64 a, .int .i64 b, .int .i64 c, .int .i64 d], .agg #[.int .i64 p, .int .i64 q, .int .i64 r, .int .i64 s]] w fun e w' => e = .returned (.bool false) ∧ Below w.heap.size w w' := by
  have T : Hid (Two w ((w.alloc (.cells #[.int .i64 a, .int .i64 b, .int .i64 c, .int .i64 d] 23)).alloc (.cells #[.int .i64 p, .int .i64 q, .int .i64 r, .int .i64 s] 23)) a b c d p q r s) := Two.new w a b c d p q r s
  by_cases ha : May4 a b c d
  · have H : Hid (May4 a b c d ∧ ¬ May4 p q r s) := ⟨ha, fun hb => h ⟨ha, hb⟩⟩
    clear h ha
    go_enter Try.func25, Try.ntmps25
    go_wp2_with fail
    refine (may_yes _ _ _ _ _ H.out.1).mono ?_
    rintro e w1 ⟨rfl, q1⟩
    have T1 : Hid (Two w w1 a b c d p q r s) := T.out.below q1
    clear q1 T
    have c0 := T1.out.y.c0
    have c1 := T1.out.y.c1
    have c2 := T1.out.y.c2
    have c3 := T1.out.y.c3
    go_wp2_with fail
    refine (may_no _ _ _ _ _ H.out.2).mono ?_
    rintro e w2 ⟨rfl, q2⟩
    have HB : Hid (Below w.heap.size w w2) := chain T1.out.bel q2
    clear q2 T1 c0 c1 c2 c3
    go_wp2
    go_ret
    exact ⟨rfl, HB.out⟩
  · have H : Hid (¬ May4 a b c d) := ha
    clear h ha
    go_enter Try.func25, Try.ntmps25
    go_wp2_with fail
    refine (may_no _ _ _ _ _ H.out).mono ?_
    rintro e w1 ⟨rfl, q1⟩
    have T1 : Hid (Two w w1 a b c d p q r s) := T.out.below q1
    clear q1 T
    go_wp2
    go_ret
    exact ⟨rfl, T1.out.bel⟩

set_option maxHeartbeats 400000 in
theorem mul_arg (a b c d p q r s : Int) (w : World) (h : ¬ Both a b c d p q r s) :
    Calls Try.prog 9 #[.agg #[.int .i64 a, .int .i64 b, .int .i64 c, .int .i64 d], .agg #[.int .i64 p, .int .i64 q, .int .i64 r, .int .i64 s]] w fun e w' => e = .returned (.tuple #[.agg #[.int .i64 0, .int .i64 0, .int .i64 0, .int .i64 0], .int .i64 1]) ∧ Below w.heap.size w w' := by
  have T : Hid (Three w (((w.alloc (.cells #[.int .i64 a, .int .i64 b, .int .i64 c, .int .i64 d] 23)).alloc (.cells #[.int .i64 p, .int .i64 q, .int .i64 r, .int .i64 s] 23)).alloc (.cells #[.int .i64 0, .int .i64 0, .int .i64 0, .int .i64 0] 23)) a b c d p q r s) := Three.new w a b c d p q r s
  have H : Hid (¬ Both a b c d p q r s) := h
  clear h
  go_enter Try.func9, Try.ntmps9
  go_wp2_with fail
  refine (both_no _ _ _ _ _ _ _ _ _ H.out).mono ?_
  rintro e w1 ⟨rfl, q1⟩
  have T1 : Hid (Three w w1 a b c d p q r s) := T.out.below q1
  clear q1 T
  have zc0 := T1.out.z.c0
  have zc1 := T1.out.z.c1
  have zc2 := T1.out.z.c2
  have zc3 := T1.out.z.c3
  have zf0 := T1.out.z.f 0
  have zf1 := T1.out.z.f 1
  have zf2 := T1.out.z.f 2
  have zf3 := T1.out.z.f 3
  go_wp2
  exact bodyPost_ret (results_m2 (by rfl) _ (T1.out.z.set 0 0 0 0) rfl _ rfl) rfl ⟨rfl, below_set T1.out.two.bel (by omega) _ _ _ _⟩

set_option maxHeartbeats 1000000 in
theorem mul_exp (a b c d p q r s : Int) (w : World) (h : Both a b c d p q r s) (hm : ¬ May4 (a + p) (b + q) (c + r) (d + s)) :
    Calls Try.prog 9 #[.agg #[.int .i64 a, .int .i64 b, .int .i64 c, .int .i64 d], .agg #[.int .i64 p, .int .i64 q, .int .i64 r, .int .i64 s]] w fun e w' => e = .returned (.tuple #[.agg #[.int .i64 0, .int .i64 0, .int .i64 0, .int .i64 0], .int .i64 80]) ∧ Below w.heap.size w w' := by
  have T : Hid (Three w (((w.alloc (.cells #[.int .i64 a, .int .i64 b, .int .i64 c, .int .i64 d] 23)).alloc (.cells #[.int .i64 p, .int .i64 q, .int .i64 r, .int .i64 s] 23)).alloc (.cells #[.int .i64 0, .int .i64 0, .int .i64 0, .int .i64 0] 23)) a b c d p q r s) := Three.new w a b c d p q r s
  have H : Hid (Both a b c d p q r s) := h
  have HM : Hid (¬ May4 (a + p) (b + q) (c + r) (d + s)) := hm
  clear h hm
  go_enter Try.func9, Try.ntmps9
  go_wp2_with fail
  refine (both_yes _ _ _ _ _ _ _ _ _ H.out).mono ?_
  rintro e w1 ⟨rfl, q1⟩
  have T1 : Hid (Three w w1 a b c d p q r s) := T.out.below q1
  clear q1 T
  go_wp2_with fail
  refine (each_any 27 _ (a + p) (b + q) (c + r) (d + s) w1 (fun _ _ => by simp) (fun v hv => add_clo 0 (by omega) _ _ a p v (T1.out.below hv).two.x.c0 (T1.out.below hv).two.y.c0 H.out.a.x H.out.b.x) (fun v hv => add_clo 1 (by omega) _ _ b q v (T1.out.below hv).two.x.c1 (T1.out.below hv).two.y.c1 H.out.a.y H.out.b.y) (fun v hv => add_clo 2 (by omega) _ _ c r v (T1.out.below hv).two.x.c2 (T1.out.below hv).two.y.c2 H.out.a.z H.out.b.z) (fun v hv => add_clo 3 (by omega) _ _ d s v (T1.out.below hv).two.x.c3 (T1.out.below hv).two.y.c3 H.out.a.u H.out.b.u)).mono ?_
  rintro e w2 ⟨rfl, q2⟩
  have T2 : Hid (Three w w2 a b c d p q r s) := T1.out.below q2
  clear q2 T1
  go_wp2_with fail
  refine (may_no _ _ _ _ _ HM.out).mono ?_
  rintro e w3 ⟨rfl, q3⟩
  have T3 : Hid (Three w w3 a b c d p q r s ∧ MBox w3 w2.heap.size (a + p) (b + q) (c + r) (d + s)) := ⟨(T2.out.below ((Below.refl _ _).alloc (Nat.le_refl _) _)).below q3, (MBox.new w2 (a + p) (b + q) (c + r) (d + s)).below q3⟩
  clear q3 T2
  have zc0 := T3.out.1.z.c0
  have zc1 := T3.out.1.z.c1
  have zc2 := T3.out.1.z.c2
  have zc3 := T3.out.1.z.c3
  have zf0 := T3.out.1.z.f 0
  have zf1 := T3.out.1.z.f 1
  have zf2 := T3.out.1.z.f 2
  have zf3 := T3.out.1.z.f 3
  have yc0 := T3.out.2.c0
  have yc1 := T3.out.2.c1
  have yc2 := T3.out.2.c2
  have yc3 := T3.out.2.c3
  go_wp2
  exact bodyPost_ret (results_m2 (by rfl) _ (T3.out.1.z.set 0 0 0 0) rfl _ rfl) rfl ⟨rfl, below_set T3.out.1.two.bel (by omega) _ _ _ _⟩

set_option maxHeartbeats 1000000 in
theorem mul_ok (a b c d p q r s : Int) (w : World) (h : Both a b c d p q r s) (hm : May4 (a + p) (b + q) (c + r) (d + s)) :
    Calls Try.prog 9 #[.agg #[.int .i64 a, .int .i64 b, .int .i64 c, .int .i64 d], .agg #[.int .i64 p, .int .i64 q, .int .i64 r, .int .i64 s]] w fun e w' => e = .returned (.tuple #[.agg #[.int .i64 (a + p), .int .i64 (b + q), .int .i64 (c + r), .int .i64 (d + s)], .int .i64 0]) ∧ Below w.heap.size w w' := by
  have T : Hid (Three w (((w.alloc (.cells #[.int .i64 a, .int .i64 b, .int .i64 c, .int .i64 d] 23)).alloc (.cells #[.int .i64 p, .int .i64 q, .int .i64 r, .int .i64 s] 23)).alloc (.cells #[.int .i64 0, .int .i64 0, .int .i64 0, .int .i64 0] 23)) a b c d p q r s) := Three.new w a b c d p q r s
  have H : Hid (Both a b c d p q r s) := h
  have HM : Hid (May4 (a + p) (b + q) (c + r) (d + s)) := hm
  clear h hm
  go_enter Try.func9, Try.ntmps9
  go_wp2_with fail
  refine (both_yes _ _ _ _ _ _ _ _ _ H.out).mono ?_
  rintro e w1 ⟨rfl, q1⟩
  have T1 : Hid (Three w w1 a b c d p q r s) := T.out.below q1
  clear q1 T
  go_wp2_with fail
  refine (each_any 27 _ (a + p) (b + q) (c + r) (d + s) w1 (fun _ _ => by simp) (fun v hv => add_clo 0 (by omega) _ _ a p v (T1.out.below hv).two.x.c0 (T1.out.below hv).two.y.c0 H.out.a.x H.out.b.x) (fun v hv => add_clo 1 (by omega) _ _ b q v (T1.out.below hv).two.x.c1 (T1.out.below hv).two.y.c1 H.out.a.y H.out.b.y) (fun v hv => add_clo 2 (by omega) _ _ c r v (T1.out.below hv).two.x.c2 (T1.out.below hv).two.y.c2 H.out.a.z H.out.b.z) (fun v hv => add_clo 3 (by omega) _ _ d s v (T1.out.below hv).two.x.c3 (T1.out.below hv).two.y.c3 H.out.a.u H.out.b.u)).mono ?_
  rintro e w2 ⟨rfl, q2⟩
  have T2 : Hid (Three w w2 a b c d p q r s) := T1.out.below q2
  clear q2 T1
  go_wp2_with fail
  refine (may_yes _ _ _ _ _ HM.out).mono ?_
  rintro e w3 ⟨rfl, q3⟩
  have T3 : Hid (Three w w3 a b c d p q r s ∧ MBox w3 w2.heap.size (a + p) (b + q) (c + r) (d + s)) := ⟨(T2.out.below ((Below.refl _ _).alloc (Nat.le_refl _) _)).below q3, (MBox.new w2 (a + p) (b + q) (c + r) (d + s)).below q3⟩
  clear q3 T2
  have zc0 := T3.out.1.z.c0
  have zc1 := T3.out.1.z.c1
  have zc2 := T3.out.1.z.c2
  have zc3 := T3.out.1.z.c3
  have zf0 := T3.out.1.z.f 0
  have zf1 := T3.out.1.z.f 1
  have zf2 := T3.out.1.z.f 2
  have zf3 := T3.out.1.z.f 3
  have yc0 := T3.out.2.c0
  have yc1 := T3.out.2.c1
  have yc2 := T3.out.2.c2
  have yc3 := T3.out.2.c3
  go_wp2
  exact bodyPost_ret (results_m2 (by rfl) _ (T3.out.1.z.set (a + p) (b + q) (c + r) (d + s)) rfl _ rfl) rfl ⟨rfl, below_set T3.out.1.two.bel (by omega) _ _ _ _⟩

set_option maxHeartbeats 400000 in
theorem div_arg (a b c d p q r s : Int) (w : World) (h : ¬ Both a b c d p q r s) :
    Calls Try.prog 11 #[.agg #[.int .i64 a, .int .i64 b, .int .i64 c, .int .i64 d], .agg #[.int .i64 p, .int .i64 q, .int .i64 r, .int .i64 s]] w fun e w' => e = .returned (.tuple #[.agg #[.int .i64 0, .int .i64 0, .int .i64 0, .int .i64 0], .bool false]) ∧ Below w.heap.size w w' := by
  have T : Hid (Three w (((w.alloc (.cells #[.int .i64 a, .int .i64 b, .int .i64 c, .int .i64 d] 23)).alloc (.cells #[.int .i64 p, .int .i64 q, .int .i64 r, .int .i64 s] 23)).alloc (.cells #[.int .i64 0, .int .i64 0, .int .i64 0, .int .i64 0] 23)) a b c d p q r s) := Three.new w a b c d p q r s
  have H : Hid (¬ Both a b c d p q r s) := h
  clear h
  go_enter Try.func11, Try.ntmps11
  go_wp2_with fail
  refine (both_no _ _ _ _ _ _ _ _ _ H.out).mono ?_
  rintro e w1 ⟨rfl, q1⟩
  have T1 : Hid (Three w w1 a b c d p q r s) := T.out.below q1
  clear q1 T
  have zc0 := T1.out.z.c0
  have zc1 := T1.out.z.c1
  have zc2 := T1.out.z.c2
  have zc3 := T1.out.z.c3
  have zf0 := T1.out.z.f 0
  have zf1 := T1.out.z.f 1
  have zf2 := T1.out.z.f 2
  have zf3 := T1.out.z.f 3
  go_wp2
  exact bodyPost_ret (results_m2 (by rfl) _ (T1.out.z.set 0 0 0 0) rfl _ rfl) rfl ⟨rfl, below_set T1.out.two.bel (by omega) _ _ _ _⟩

set_option maxHeartbeats 1000000 in
theorem div_exp (a b c d p q r s : Int) (w : World) (h : Both a b c d p q r s) (hm : ¬ May4 (a - p) (b - q) (c - r) (d - s)) :
    Calls Try.prog 11 #[.agg #[.int .i64 a, .int .i64 b, .int .i64 c, .int .i64 d], .agg #[.int .i64 p, .int .i64 q, .int .i64 r, .int .i64 s]] w fun e w' => e = .returned (.tuple #[.agg #[.int .i64 0, .int .i64 0, .int .i64 0, .int .i64 0], .bool false]) ∧ Below w.heap.size w w' := by
  have T : Hid (Three w (((w.alloc (.cells #[.int .i64 a, .int .i64 b, .int .i64 c, .int .i64 d] 23)).alloc (.cells #[.int .i64 p, .int .i64 q, .int .i64 r, .int .i64 s] 23)).alloc (.cells #[.int .i64 0, .int .i64 0, .int .i64 0, .int .i64 0] 23)) a b c d p q r s) := Three.new w a b c d p q r s
  have H : Hid (Both a b c d p q r s) := h
  have HM : Hid (¬ May4 (a - p) (b - q) (c - r) (d - s)) := hm
  clear h hm
  go_enter Try.func11, Try.ntmps11
  go_wp2_with fail
  refine (both_yes _ _ _ _ _ _ _ _ _ H.out).mono ?_
  rintro e w1 ⟨rfl, q1⟩
  have T1 : Hid (Three w w1 a b c d p q r s) := T.out.below q1
  clear q1 T
  go_wp2_with fail
  refine (each_any 28 _ (a - p) (b - q) (c - r) (d - s) w1 (fun _ _ => by simp) (fun v hv => sub_clo 0 (by omega) _ _ a p v (T1.out.below hv).two.x.c0 (T1.out.below hv).two.y.c0 H.out.a.x H.out.b.x) (fun v hv => sub_clo 1 (by omega) _ _ b q v (T1.out.below hv).two.x.c1 (T1.out.below hv).two.y.c1 H.out.a.y H.out.b.y) (fun v hv => sub_clo 2 (by omega) _ _ c r v (T1.out.below hv).two.x.c2 (T1.out.below hv).two.y.c2 H.out.a.z H.out.b.z) (fun v hv => sub_clo 3 (by omega) _ _ d s v (T1.out.below hv).two.x.c3 (T1.out.below hv).two.y.c3 H.out.a.u H.out.b.u)).mono ?_
  rintro e w2 ⟨rfl, q2⟩
  have T2 : Hid (Three w w2 a b c d p q r s) := T1.out.below q2
  clear q2 T1
  go_wp2_with fail
  refine (may_no _ _ _ _ _ HM.out).mono ?_
  rintro e w3 ⟨rfl, q3⟩
  have T3 : Hid (Three w w3 a b c d p q r s ∧ MBox w3 w2.heap.size (a - p) (b - q) (c - r) (d - s)) := ⟨(T2.out.below ((Below.refl _ _).alloc (Nat.le_refl _) _)).below q3, (MBox.new w2 (a - p) (b - q) (c - r) (d - s)).below q3⟩
  clear q3 T2
  have zc0 := T3.out.1.z.c0
  have zc1 := T3.out.1.z.c1
  have zc2 := T3.out.1.z.c2
  have zc3 := T3.out.1.z.c3
  have zf0 := T3.out.1.z.f 0
  have zf1 := T3.out.1.z.f 1
  have zf2 := T3.out.1.z.f 2
  have zf3 := T3.out.1.z.f 3
  have yc0 := T3.out.2.c0
  have yc1 := T3.out.2.c1
  have yc2 := T3.out.2.c2
  have yc3 := T3.out.2.c3
  go_wp2
  exact bodyPost_ret (results_m2 (by rfl) _ (T3.out.1.z.set 0 0 0 0) rfl _ rfl) rfl ⟨rfl, below_set T3.out.1.two.bel (by omega) _ _ _ _⟩

set_option maxHeartbeats 1000000 in
theorem div_ok (a b c d p q r s : Int) (w : World) (h : Both a b c d p q r s) (hm : May4 (a - p) (b - q) (c - r) (d - s)) :
    Calls Try.prog 11 #[.agg #[.int .i64 a, .int .i64 b, .int .i64 c, .int .i64 d], .agg #[.int .i64 p, .int .i64 q, .int .i64 r, .int .i64 s]] w fun e w' => e = .returned (.tuple #[.agg #[.int .i64 (a - p), .int .i64 (b - q), .int .i64 (c - r), .int .i64 (d - s)], .bool true]) ∧ Below w.heap.size w w' := by
  have T : Hid (Three w (((w.alloc (.cells #[.int .i64 a, .int .i64 b, .int .i64 c, .int .i64 d] 23)).alloc (.cells #[.int .i64 p, .int .i64 q, .int .i64 r, .int .i64 s] 23)).alloc (.cells #[.int .i64 0, .int .i64 0, .int .i64 0, .int .i64 0] 23)) a b c d p q r s) := Three.new w a b c d p q r s
  have H : Hid (Both a b c d p q r s) := h
  have HM : Hid (May4 (a - p) (b - q) (c - r) (d - s)) := hm
  clear h hm
  go_enter Try.func11, Try.ntmps11
  go_wp2_with fail
  refine (both_yes _ _ _ _ _ _ _ _ _ H.out).mono ?_
  rintro e w1 ⟨rfl, q1⟩
  have T1 : Hid (Three w w1 a b c d p q r s) := T.out.below q1
  clear q1 T
  go_wp2_with fail
  refine (each_any 28 _ (a - p) (b - q) (c - r) (d - s) w1 (fun _ _ => by simp) (fun v hv => sub_clo 0 (by omega) _ _ a p v (T1.out.below hv).two.x.c0 (T1.out.below hv).two.y.c0 H.out.a.x H.out.b.x) (fun v hv => sub_clo 1 (by omega) _ _ b q v (T1.out.below hv).two.x.c1 (T1.out.below hv).two.y.c1 H.out.a.y H.out.b.y) (fun v hv => sub_clo 2 (by omega) _ _ c r v (T1.out.below hv).two.x.c2 (T1.out.below hv).two.y.c2 H.out.a.z H.out.b.z) (fun v hv => sub_clo 3 (by omega) _ _ d s v (T1.out.below hv).two.x.c3 (T1.out.below hv).two.y.c3 H.out.a.u H.out.b.u)).mono ?_
  rintro e w2 ⟨rfl, q2⟩
  have T2 : Hid (Three w w2 a b c d p q r s) := T1.out.below q2
  clear q2 T1
  go_wp2_with fail
  refine (may_yes _ _ _ _ _ HM.out).mono ?_
  rintro e w3 ⟨rfl, q3⟩
  have T3 : Hid (Three w w3 a b c d p q r s ∧ MBox w3 w2.heap.size (a - p) (b - q) (c - r) (d - s)) := ⟨(T2.out.below ((Below.refl _ _).alloc (Nat.le_refl _) _)).below q3, (MBox.new w2 (a - p) (b - q) (c - r) (d - s)).below q3⟩
  clear q3 T2
  have zc0 := T3.out.1.z.c0
  have zc1 := T3.out.1.z.c1
  have zc2 := T3.out.1.z.c2
  have zc3 := T3.out.1.z.c3
  have zf0 := T3.out.1.z.f 0
  have zf1 := T3.out.1.z.f 1
  have zf2 := T3.out.1.z.f 2
  have zf3 := T3.out.1.z.f 3
  have yc0 := T3.out.2.c0
  have yc1 := T3.out.2.c1
  have yc2 := T3.out.2.c2
  have yc3 := T3.out.2.c3
  go_wp2
  exact bodyPost_ret (results_m2 (by rfl) _ (T3.out.1.z.set (a - p) (b - q) (c - r) (d - s)) rfl _ rfl) rfl ⟨rfl, below_set T3.out.1.two.bel (by omega) _ _ _ _⟩

set_option maxHeartbeats 400000 in
theorem lcm_arg (a b c d p q r s : Int) (w : World) (h : ¬ Both a b c d p q r s) :
    Calls Try.prog 17 #[.agg #[.int .i64 a, .int .i64 b, .int .i64 c, .int .i64 d], .agg #[.int .i64 p, .int .i64 q, .int .i64 r, .int .i64 s]] w fun e w' => e = .returned (.agg #[.int .i64 0, .int .i64 0, .int .i64 0, .int .i64 0]) ∧ Below w.heap.size w w' := by
  have T : Hid (Three w (((w.alloc (.cells #[.int .i64 a, .int .i64 b, .int .i64 c, .int .i64 d] 23)).alloc (.cells #[.int .i64 p, .int .i64 q, .int .i64 r, .int .i64 s] 23)).alloc (.cells #[.int .i64 0, .int .i64 0, .int .i64 0, .int .i64 0] 23)) a b c d p q r s) := Three.new w a b c d p q r s
  have H : Hid (¬ Both a b c d p q r s) := h
  clear h
  go_enter Try.func17, Try.ntmps17
  go_wp2_with fail
  refine (both_no _ _ _ _ _ _ _ _ _ H.out).mono ?_
  rintro e w1 ⟨rfl, q1⟩
  have T1 : Hid (Three w w1 a b c d p q r s) := T.out.below q1
  clear q1 T
  have zc0 := T1.out.z.c0
  have zc1 := T1.out.z.c1
  have zc2 := T1.out.z.c2
  have zc3 := T1.out.z.c3
  have zf0 := T1.out.z.f 0
  have zf1 := T1.out.z.f 1
  have zf2 := T1.out.z.f 2
  have zf3 := T1.out.z.f 3
  go_wp2
  exact bodyPost_ret (results_m1 (by rfl) _ (T1.out.z.set 0 0 0 0) rfl) rfl ⟨rfl, below_set T1.out.two.bel (by omega) _ _ _ _⟩

set_option maxHeartbeats 400000 in
theorem lcm_ok (a b c d p q r s : Int) (w : World) (h : Both a b c d p q r s) :
    Calls Try.prog 17 #[.agg #[.int .i64 a, .int .i64 b, .int .i64 c, .int .i64 d], .agg #[.int .i64 p, .int .i64 q, .int .i64 r, .int .i64 s]] w fun e w' => e = .returned (.agg #[.int .i64 (max a p), .int .i64 (max b q), .int .i64 (max c r), .int .i64 (max d s)]) ∧ Below w.heap.size w w' := by
  have T : Hid (Three w (((w.alloc (.cells #[.int .i64 a, .int .i64 b, .int .i64 c, .int .i64 d] 23)).alloc (.cells #[.int .i64 p, .int .i64 q, .int .i64 r, .int .i64 s] 23)).alloc (.cells #[.int .i64 0, .int .i64 0, .int .i64 0, .int .i64 0] 23)) a b c d p q r s) := Three.new w a b c d p q r s
  have H : Hid (Both a b c d p q r s) := h
  clear h
  go_enter Try.func17, Try.ntmps17
  go_wp2_with fail
  refine (both_yes _ _ _ _ _ _ _ _ _ H.out).mono ?_
  rintro e w1 ⟨rfl, q1⟩
  have T1 : Hid (Three w w1 a b c d p q r s) := T.out.below q1
  clear q1 T
  go_wp2_with fail
  refine (each_any 29 _ (max a p) (max b q) (max c r) (max d s) w1 (fun _ _ => by simp) (fun v hv => max_clo 0 (by omega) _ _ a p v (T1.out.two.below hv).x.c0 (T1.out.two.below hv).y.c0 H.out.a.x H.out.b.x) (fun v hv => max_clo 1 (by omega) _ _ b q v (T1.out.two.below hv).x.c1 (T1.out.two.below hv).y.c1 H.out.a.y H.out.b.y) (fun v hv => max_clo 2 (by omega) _ _ c r v (T1.out.two.below hv).x.c2 (T1.out.two.below hv).y.c2 H.out.a.z H.out.b.z) (fun v hv => max_clo 3 (by omega) _ _ d s v (T1.out.two.below hv).x.c3 (T1.out.two.below hv).y.c3 H.out.a.u H.out.b.u)).mono ?_
  rintro e w2 ⟨rfl, q2⟩
  have T2 : Hid (Three w w2 a b c d p q r s) := T1.out.below q2
  clear q2 T1
  have zc0 := T2.out.z.c0
  have zc1 := T2.out.z.c1
  have zc2 := T2.out.z.c2
  have zc3 := T2.out.z.c3
  have zf0 := T2.out.z.f 0
  have zf1 := T2.out.z.f 1
  have zf2 := T2.out.z.f 2
  have zf3 := T2.out.z.f 3
  go_wp2
  exact bodyPost_ret (results_m1 (by rfl) _ (T2.out.z.set (max a p) (max b q) (max c r) (max d s)) rfl) rfl ⟨rfl, below_set T2.out.two.bel (by omega) _ _ _ _⟩

set_option maxHeartbeats 400000 in
theorem cop_arg (a b c d p q r s : Int) (w : World) (h : ¬ Both a b c d p q r s) :
    Calls Try.prog 19 #[.agg #[.int .i64 a, .int .i64 b, .int .i64 c, .int .i64 d], .agg #[.int .i64 p, .int .i64 q, .int .i64 r, .int .i64 s]] w fun e w' => e = .returned (.bool false) ∧ Below w.heap.size w w' := by
  have T : Hid (Two w ((w.alloc (.cells #[.int .i64 a, .int .i64 b, .int .i64 c, .int .i64 d] 23)).alloc (.cells #[.int .i64 p, .int .i64 q, .int .i64 r, .int .i64 s] 23)) a b c d p q r s) := Two.new w a b c d p q r s
  have H : Hid (¬ Both a b c d p q r s) := h
  clear h
  go_enter Try.func19, Try.ntmps19
  go_wp2_with fail
  refine (both_no _ _ _ _ _ _ _ _ _ H.out).mono ?_
  rintro e w1 ⟨rfl, q1⟩
  have T1 : Hid (Two w w1 a b c d p q r s) := T.out.below q1
  clear q1 T
  go_wp2
  go_ret
  exact ⟨rfl, T1.out.bel⟩

/-- No variable has an exponent above 0 in both. -/
structure Apart (a b c d p q r s : Int) : Prop where
  x : min a p = 0
  y : min b q = 0
  z : min c r = 0
  u : min d s = 0

set_option maxHeartbeats 400000 in
theorem cop_ok (a b c d p q r s : Int) (w : World) (h : Both a b c d p q r s) (t : Bool) (ht : t = true ↔ Apart a b c d p q r s) :
    Calls Try.prog 19 #[.agg #[.int .i64 a, .int .i64 b, .int .i64 c, .int .i64 d], .agg #[.int .i64 p, .int .i64 q, .int .i64 r, .int .i64 s]] w fun e w' => e = .returned (.bool t) ∧ Below w.heap.size w w' := by
  have T : Hid (Two w ((w.alloc (.cells #[.int .i64 a, .int .i64 b, .int .i64 c, .int .i64 d] 23)).alloc (.cells #[.int .i64 p, .int .i64 q, .int .i64 r, .int .i64 s] 23)) a b c d p q r s) := Two.new w a b c d p q r s
  have H : Hid (Both a b c d p q r s) := h
  have HT : Hid (t = true ↔ Apart a b c d p q r s) := ht
  clear h ht
  go_enter Try.func19, Try.ntmps19
  go_wp2_with fail
  refine (both_yes _ _ _ _ _ _ _ _ _ H.out).mono ?_
  rintro e w1 ⟨rfl, q1⟩
  have T1 : Hid (Two w w1 a b c d p q r s) := T.out.below q1
  clear q1 T
  go_wp2_with fail
  refine (each_any 30 _ (min a p) (min b q) (min c r) (min d s) w1 (fun _ _ => by simp) (fun v hv => min_clo 0 (by omega) _ _ a p v (T1.out.below hv).x.c0 (T1.out.below hv).y.c0 H.out.a.x H.out.b.x) (fun v hv => min_clo 1 (by omega) _ _ b q v (T1.out.below hv).x.c1 (T1.out.below hv).y.c1 H.out.a.y H.out.b.y) (fun v hv => min_clo 2 (by omega) _ _ c r v (T1.out.below hv).x.c2 (T1.out.below hv).y.c2 H.out.a.z H.out.b.z) (fun v hv => min_clo 3 (by omega) _ _ d s v (T1.out.below hv).x.c3 (T1.out.below hv).y.c3 H.out.a.u H.out.b.u)).mono ?_
  rintro e w2 ⟨rfl, q2⟩
  have T2 : Hid (Two w w2 a b c d p q r s) := T1.out.below q2
  clear q2 T1
  have he := eq_m (min a p) (min b q) (min c r) (min d s) 0 0 0 0
  obtain ⟨m, hm⟩ : ∃ m, m = eqB (min a p) (min b q) (min c r) (min d s) 0 0 0 0 := ⟨_, rfl⟩
  rw [← hm] at he
  have HE : Hid (m = t) := by
    have h9 : m = t := by
      rw [Bool.eq_iff_iff, hm, eqB_iff, HT.out]
      exact ⟨fun ⟨h1, h2, h3, h4⟩ => ⟨h1, h2, h3, h4⟩, fun h => ⟨h.x, h.y, h.z, h.u⟩⟩
    exact h9
  clear hm HT
  go_wp2
  go_ret
  exact ⟨ret_bool HE.out, T2.out.bel.alloc (by have := T2.out.bel.size; omega) _⟩

set_option maxHeartbeats 400000 in
theorem deg_no (a b c d : Int) (w : World) (h : ¬ May4 a b c d) :
    Calls Try.prog 15 #[.agg #[.int .i64 a, .int .i64 b, .int .i64 c, .int .i64 d]] w fun e w' => e = .returned (.int .i64 0) ∧ Below w.heap.size w w' := by
  have H : Hid (¬ May4 a b c d) := h
  clear h
  go_enter Try.func15, Try.ntmps15
  go_wp2_with fail
  refine (may_no _ _ _ _ _ H.out).mono ?_
  rintro e w1 ⟨rfl, q1⟩
  have HB : Hid (Below w.heap.size w w1) := chain ((Below.refl _ _).alloc (Nat.le_refl _) _) q1
  clear q1
  go_wp2
  go_ret
  exact ⟨rfl, HB.out⟩

set_option maxHeartbeats 400000 in
theorem deg_ok (a b c d : Int) (w : World) (h : May4 a b c d) :
    Calls Try.prog 15 #[.agg #[.int .i64 a, .int .i64 b, .int .i64 c, .int .i64 d]] w fun e w' => e = .returned (.int .i64 (a + b + c + d)) ∧ Below w.heap.size w w' := by
  have H : Hid (May4 a b c d) := h
  obtain ⟨⟨a0, a1⟩, ⟨b0, b1⟩, ⟨c0, c1⟩, ⟨d0, d1⟩⟩ := h
  have i0 := ix0 a b c d
  have i1 := ix1 a b c d
  have i2 := ix2 a b c d
  have i3 := ix3 a b c d
  have X : Hid (MBox (w.alloc (.cells #[.int .i64 a, .int .i64 b, .int .i64 c, .int .i64 d] 23)) w.heap.size a b c d) := MBox.new w a b c d
  go_enter Try.func15, Try.ntmps15
  go_wp2_with fail
  refine (may_yes _ _ _ _ _ H.out).mono ?_
  rintro e w1 ⟨rfl, q1⟩
  have HB : Hid (Below w.heap.size w w1) := chain ((Below.refl _ _).alloc (Nat.le_refl _) _) q1
  have X1 := X.out.below q1
  have e0 := X1.c0
  have e1 := X1.c1
  have e2 := X1.c2
  have e3 := X1.c3
  clear q1 X1 X
  go_wp2
  go_rounds 5
  go_ret
  exact ⟨ret_int (by omega), HB.out⟩

end Go.Proofs.Ytjecibpeahjenaa
