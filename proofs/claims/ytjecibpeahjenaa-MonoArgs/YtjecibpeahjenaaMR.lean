/-
  The reference's Mul.
-/
import Derived.Test.YtjecibpeahjenaaMJ
import Derived.RegionTactic
namespace Go.Proofs.Ytjecibpeahjenaa
open Go.RowKit

/-- Which of two may not be. -/
theorem not_both {a b c d p q r s : Int} (h : ¬ Both a b c d p q r s) : ¬ May4 a b c d ∨ (May4 a b c d ∧ ¬ May4 p q r s) := by
  by_cases ha : May4 a b c d
  · exact Or.inr ⟨ha, fun hb => h ⟨ha, hb⟩⟩
  · exact Or.inl ha

set_option maxHeartbeats 1000000 in
theorem rmul_arg (a b c d p q r s : Int) (w : World) (h : ¬ Both a b c d p q r s) :
    Calls Try.prog 10 #[.agg #[.int .i64 a, .int .i64 b, .int .i64 c, .int .i64 d], .agg #[.int .i64 p, .int .i64 q, .int .i64 r, .int .i64 s]] w fun e w' => e = .returned (.tuple #[.agg #[.int .i64 0, .int .i64 0, .int .i64 0, .int .i64 0], .int .i64 1]) ∧ Below w.heap.size w w' := by
  have T : Hid (Three w (((w.alloc (.cells #[.int .i64 a, .int .i64 b, .int .i64 c, .int .i64 d] 23)).alloc (.cells #[.int .i64 p, .int .i64 q, .int .i64 r, .int .i64 s] 23)).alloc (.cells #[.int .i64 0, .int .i64 0, .int .i64 0, .int .i64 0] 23)) a b c d p q r s) := Three.new w a b c d p q r s
  rcases not_both h with hn | ⟨hy, hn⟩
  · have H : Hid (¬ May4 a b c d) := hn
    clear h hn
    go_enter Try.func10, Try.ntmps10
    go_wp2_with fail
    refine (rmay_no _ _ _ _ _ H.out).mono ?_
    rintro e w1 ⟨rfl, q1⟩
    have T1 : Hid (Three w w1 a b c d p q r s) := T.out.below q1
    clear q1 T
    have zc0 := T1.out.z.c0
    have zc1 := T1.out.z.c1
    have zc2 := T1.out.z.c2
    have zc3 := T1.out.z.c3
    have zf0 := T1.out.z.f 0
    have zf1 := T1.out.z.f 1
    have zf2 := T1.out.z.f 2
    have zf3 := T1.out.z.f 3
    go_wp2
    exact bodyPost_ret (results_m2 (by rfl) _ (T1.out.z.set 0 0 0 0) rfl _ rfl) rfl ⟨rfl, below_set T1.out.two.bel (by omega) _ _ _ _⟩
  · have H : Hid (May4 a b c d ∧ ¬ May4 p q r s) := ⟨hy, hn⟩
    clear h hn hy
    go_enter Try.func10, Try.ntmps10
    go_wp2_with fail
    refine (rmay_yes _ _ _ _ _ H.out.1).mono ?_
    rintro e w1 ⟨rfl, q1⟩
    have T1 : Hid (Three w w1 a b c d p q r s) := T.out.below q1
    clear q1 T
    have yc0 := T1.out.two.y.c0
    have yc1 := T1.out.two.y.c1
    have yc2 := T1.out.two.y.c2
    have yc3 := T1.out.two.y.c3
    go_wp2_with fail
    refine (rmay_no _ _ _ _ _ H.out.2).mono ?_
    rintro e w2 ⟨rfl, q2⟩
    have T2 : Hid (Three w w2 a b c d p q r s) := T1.out.below q2
    clear q2 T1 yc0 yc1 yc2 yc3
    have zc0 := T2.out.z.c0
    have zc1 := T2.out.z.c1
    have zc2 := T2.out.z.c2
    have zc3 := T2.out.z.c3
    have zf0 := T2.out.z.f 0
    have zf1 := T2.out.z.f 1
    have zf2 := T2.out.z.f 2
    have zf3 := T2.out.z.f 3
    go_wp2
    exact bodyPost_ret (results_m2 (by rfl) _ (T2.out.z.set 0 0 0 0) rfl _ rfl) rfl ⟨rfl, below_set T2.out.two.bel (by omega) _ _ _ _⟩

/-- The boxes, and the one that is filled. -/
structure Four (w W : World) (B : Nat) (a b c d p q r s x y z u : Int) : Prop where
  three : Three w W a b c d p q r s
  o : MBox W B x y z u
  ne : w.heap.size + 2 < B
theorem Four.below {w W W' : World} {B : Nat} {a b c d p q r s x y z u : Int} (h : Four w W B a b c d p q r s x y z u) (hb : Below W.heap.size W W') : Four w W' B a b c d p q r s x y z u := ⟨h.three.below hb, h.o.below hb, h.ne⟩
theorem Four.new {w W : World} {a b c d p q r s : Int} (h : Three w W a b c d p q r s) (x y z u : Int) : Four w (W.alloc (.cells #[.int .i64 x, .int .i64 y, .int .i64 z, .int .i64 u] 23)) W.heap.size a b c d p q r s x y z u := ⟨h.below ((Below.refl _ _).alloc (Nat.le_refl _) _), MBox.new W x y z u, h.z.lt⟩
theorem Four.s0 {w W : World} {B : Nat} {a b c d p q r s x y z u : Int} (h : Four w W B a b c d p q r s x y z u) (v : Int) : Four w (W.setCell ⟨B, 0, none⟩ (.int .i64 v)) B a b c d p q r s v y z u := by
  have hn := h.ne
  exact ⟨⟨⟨h.three.two.x.other (by omega), h.three.two.y.other (by omega), h.three.two.bel.setCell (by show w.heap.size ≤ B; omega) _⟩, h.three.z.other (by omega)⟩, h.o.s0 v, hn⟩
theorem Four.s1 {w W : World} {B : Nat} {a b c d p q r s x y z u : Int} (h : Four w W B a b c d p q r s x y z u) (v : Int) : Four w (W.setCell ⟨B, 1, none⟩ (.int .i64 v)) B a b c d p q r s x v z u := by
  have hn := h.ne
  exact ⟨⟨⟨h.three.two.x.other (by omega), h.three.two.y.other (by omega), h.three.two.bel.setCell (by show w.heap.size ≤ B; omega) _⟩, h.three.z.other (by omega)⟩, h.o.s1 v, hn⟩
theorem Four.s2 {w W : World} {B : Nat} {a b c d p q r s x y z u : Int} (h : Four w W B a b c d p q r s x y z u) (v : Int) : Four w (W.setCell ⟨B, 2, none⟩ (.int .i64 v)) B a b c d p q r s x y v u := by
  have hn := h.ne
  exact ⟨⟨⟨h.three.two.x.other (by omega), h.three.two.y.other (by omega), h.three.two.bel.setCell (by show w.heap.size ≤ B; omega) _⟩, h.three.z.other (by omega)⟩, h.o.s2 v, hn⟩
theorem Four.s3 {w W : World} {B : Nat} {a b c d p q r s x y z u : Int} (h : Four w W B a b c d p q r s x y z u) (v : Int) : Four w (W.setCell ⟨B, 3, none⟩ (.int .i64 v)) B a b c d p q r s x y z v := by
  have hn := h.ne
  exact ⟨⟨⟨h.three.two.x.other (by omega), h.three.two.y.other (by omega), h.three.two.bel.setCell (by show w.heap.size ≤ B; omega) _⟩, h.three.z.other (by omega)⟩, h.o.s3 v, hn⟩

set_option maxHeartbeats 4000000 in
theorem rmul_exp (a b c d p q r s : Int) (w : World) (h : Both a b c d p q r s) (hm : ¬ May4 (a + p) (b + q) (c + r) (d + s)) :
    Calls Try.prog 10 #[.agg #[.int .i64 a, .int .i64 b, .int .i64 c, .int .i64 d], .agg #[.int .i64 p, .int .i64 q, .int .i64 r, .int .i64 s]] w fun e w' => e = .returned (.tuple #[.agg #[.int .i64 0, .int .i64 0, .int .i64 0, .int .i64 0], .int .i64 80]) ∧ Below w.heap.size w w' := by
  have T : Hid (Three w (((w.alloc (.cells #[.int .i64 a, .int .i64 b, .int .i64 c, .int .i64 d] 23)).alloc (.cells #[.int .i64 p, .int .i64 q, .int .i64 r, .int .i64 s] 23)).alloc (.cells #[.int .i64 0, .int .i64 0, .int .i64 0, .int .i64 0] 23)) a b c d p q r s) := Three.new w a b c d p q r s
  have H : Hid (Both a b c d p q r s) := h
  have HM : Hid (¬ May4 (a + p) (b + q) (c + r) (d + s)) := hm
  obtain ⟨⟨⟨a0, a1⟩, ⟨b0, b1⟩, ⟨c0, c1⟩, ⟨d0, d1⟩⟩, ⟨p0, p1⟩, ⟨q0, q1⟩, ⟨r0, r1⟩, ⟨s0, s1⟩⟩ := h
  clear hm
  go_enter Try.func10, Try.ntmps10
  go_wp2_with fail
  refine (rmay_yes _ _ _ _ _ H.out.a).mono ?_
  rintro e w1 ⟨rfl, q1⟩
  have T1 : Hid (Three w w1 a b c d p q r s) := T.out.below q1
  clear q1 T
  have yc0 := T1.out.two.y.c0
  have yc1 := T1.out.two.y.c1
  have yc2 := T1.out.two.y.c2
  have yc3 := T1.out.two.y.c3
  go_wp2_with fail
  refine (rmay_yes _ _ _ _ _ H.out.b).mono ?_
  rintro e w2 ⟨rfl, q2⟩
  have T2 : Hid (Three w w2 a b c d p q r s) := T1.out.below q2
  clear q2 T1 yc0 yc1 yc2 yc3
  go_wp2
  have F0 : Hid (Four w (w2.alloc (.cells #[.int .i64 0, .int .i64 0, .int .i64 0, .int .i64 0] 23)) w2.heap.size a b c d p q r s 0 0 0 0) := Four.new T2.out 0 0 0 0
  obtain ⟨wv0, hv0⟩ : ∃ wv, wv = w2.alloc (.cells #[.int .i64 0, .int .i64 0, .int .i64 0, .int .i64 0] 23) := ⟨_, rfl⟩
  rw [← hv0] at F0
  rw [← hv0]
  obtain ⟨B, hB⟩ : ∃ B, B = w2.heap.size := ⟨_, rfl⟩
  rw [← hB] at F0
  rw [← hB]
  clear hv0 hB T2
  refine wp_loop_rounds 5 ?_
  have xc := F0.out.three.two.x.c0
  have yc := F0.out.three.two.y.c0
  have oc := F0.out.o.c0
  have of := F0.out.o.f 0
  rw [rounds_succ]
  go_wp2
  go_region
  go_wp2
  have F1 : Hid (Four w (wv0.setCell ⟨B, 0, none⟩ (.int .i64 (a + p))).drew B a b c d p q r s (a + p) 0 0 0) := (F0.out.s0 (a + p)).below (Below.refl _ _).drew
  clear xc yc oc of F0
  obtain ⟨wv1, hv1⟩ : ∃ wv, wv = (wv0.setCell ⟨B, 0, none⟩ (.int .i64 (a + p))).drew := ⟨_, rfl⟩
  rw [← hv1] at F1
  rw [← hv1]
  clear hv1
  have xc := F1.out.three.two.x.c1
  have yc := F1.out.three.two.y.c1
  have oc := F1.out.o.c1
  have of := F1.out.o.f 1
  rw [rounds_succ]
  go_wp2
  go_region
  go_wp2
  have F2 : Hid (Four w (wv1.setCell ⟨B, 1, none⟩ (.int .i64 (b + q))).drew B a b c d p q r s (a + p) (b + q) 0 0) := (F1.out.s1 (b + q)).below (Below.refl _ _).drew
  clear xc yc oc of F1
  obtain ⟨wv2, hv2⟩ : ∃ wv, wv = (wv1.setCell ⟨B, 1, none⟩ (.int .i64 (b + q))).drew := ⟨_, rfl⟩
  rw [← hv2] at F2
  rw [← hv2]
  clear hv2
  have xc := F2.out.three.two.x.c2
  have yc := F2.out.three.two.y.c2
  have oc := F2.out.o.c2
  have of := F2.out.o.f 2
  rw [rounds_succ]
  go_wp2
  go_region
  go_wp2
  have F3 : Hid (Four w (wv2.setCell ⟨B, 2, none⟩ (.int .i64 (c + r))).drew B a b c d p q r s (a + p) (b + q) (c + r) 0) := (F2.out.s2 (c + r)).below (Below.refl _ _).drew
  clear xc yc oc of F2
  obtain ⟨wv3, hv3⟩ : ∃ wv, wv = (wv2.setCell ⟨B, 2, none⟩ (.int .i64 (c + r))).drew := ⟨_, rfl⟩
  rw [← hv3] at F3
  rw [← hv3]
  clear hv3
  have xc := F3.out.three.two.x.c3
  have yc := F3.out.three.two.y.c3
  have oc := F3.out.o.c3
  have of := F3.out.o.f 3
  rw [rounds_succ]
  go_wp2
  go_region
  go_wp2
  have F4 : Hid (Four w (wv3.setCell ⟨B, 3, none⟩ (.int .i64 (d + s))).drew B a b c d p q r s (a + p) (b + q) (c + r) (d + s)) := (F3.out.s3 (d + s)).below (Below.refl _ _).drew
  clear xc yc oc of F3
  obtain ⟨wv4, hv4⟩ : ∃ wv, wv = (wv3.setCell ⟨B, 3, none⟩ (.int .i64 (d + s))).drew := ⟨_, rfl⟩
  rw [← hv4] at F4
  rw [← hv4]
  clear hv4
  rw [rounds_succ]
  have oc0 := F4.out.o.c0
  have oc1 := F4.out.o.c1
  have oc2 := F4.out.o.c2
  have oc3 := F4.out.o.c3
  go_wp2_with fail
  refine (rmay_no _ _ _ _ _ HM.out).mono ?_
  rintro e w3 ⟨rfl, q3⟩
  have G : Hid (Four w w3 B a b c d p q r s (a + p) (b + q) (c + r) (d + s)) := F4.out.below q3
  clear q3 F4 oc0 oc1 oc2 oc3
  have oc0 := G.out.o.c0
  have oc1 := G.out.o.c1
  have oc2 := G.out.o.c2
  have oc3 := G.out.o.c3
  have zc0 := G.out.three.z.c0
  have zc1 := G.out.three.z.c1
  have zc2 := G.out.three.z.c2
  have zc3 := G.out.three.z.c3
  have zf0 := G.out.three.z.f 0
  have zf1 := G.out.three.z.f 1
  have zf2 := G.out.three.z.f 2
  have zf3 := G.out.three.z.f 3
  go_wp2
  exact bodyPost_ret (results_m2 (by rfl) _ (G.out.three.z.set 0 0 0 0) rfl _ rfl) rfl ⟨rfl, below_set G.out.three.two.bel (by omega) _ _ _ _⟩

set_option maxHeartbeats 4000000 in
theorem rmul_ok (a b c d p q r s : Int) (w : World) (h : Both a b c d p q r s) (hm : May4 (a + p) (b + q) (c + r) (d + s)) :
    Calls Try.prog 10 #[.agg #[.int .i64 a, .int .i64 b, .int .i64 c, .int .i64 d], .agg #[.int .i64 p, .int .i64 q, .int .i64 r, .int .i64 s]] w fun e w' => e = .returned (.tuple #[.agg #[.int .i64 (a + p), .int .i64 (b + q), .int .i64 (c + r), .int .i64 (d + s)], .int .i64 0]) ∧ Below w.heap.size w w' := by
  have T : Hid (Three w (((w.alloc (.cells #[.int .i64 a, .int .i64 b, .int .i64 c, .int .i64 d] 23)).alloc (.cells #[.int .i64 p, .int .i64 q, .int .i64 r, .int .i64 s] 23)).alloc (.cells #[.int .i64 0, .int .i64 0, .int .i64 0, .int .i64 0] 23)) a b c d p q r s) := Three.new w a b c d p q r s
  have H : Hid (Both a b c d p q r s) := h
  have HM : Hid (May4 (a + p) (b + q) (c + r) (d + s)) := hm
  obtain ⟨⟨⟨a0, a1⟩, ⟨b0, b1⟩, ⟨c0, c1⟩, ⟨d0, d1⟩⟩, ⟨p0, p1⟩, ⟨q0, q1⟩, ⟨r0, r1⟩, ⟨s0, s1⟩⟩ := h
  clear hm
  go_enter Try.func10, Try.ntmps10
  go_wp2_with fail
  refine (rmay_yes _ _ _ _ _ H.out.a).mono ?_
  rintro e w1 ⟨rfl, q1⟩
  have T1 : Hid (Three w w1 a b c d p q r s) := T.out.below q1
  clear q1 T
  have yc0 := T1.out.two.y.c0
  have yc1 := T1.out.two.y.c1
  have yc2 := T1.out.two.y.c2
  have yc3 := T1.out.two.y.c3
  go_wp2_with fail
  refine (rmay_yes _ _ _ _ _ H.out.b).mono ?_
  rintro e w2 ⟨rfl, q2⟩
  have T2 : Hid (Three w w2 a b c d p q r s) := T1.out.below q2
  clear q2 T1 yc0 yc1 yc2 yc3
  go_wp2
  have F0 : Hid (Four w (w2.alloc (.cells #[.int .i64 0, .int .i64 0, .int .i64 0, .int .i64 0] 23)) w2.heap.size a b c d p q r s 0 0 0 0) := Four.new T2.out 0 0 0 0
  obtain ⟨wv0, hv0⟩ : ∃ wv, wv = w2.alloc (.cells #[.int .i64 0, .int .i64 0, .int .i64 0, .int .i64 0] 23) := ⟨_, rfl⟩
  rw [← hv0] at F0
  rw [← hv0]
  obtain ⟨B, hB⟩ : ∃ B, B = w2.heap.size := ⟨_, rfl⟩
  rw [← hB] at F0
  rw [← hB]
  clear hv0 hB T2
  refine wp_loop_rounds 5 ?_
  have xc := F0.out.three.two.x.c0
  have yc := F0.out.three.two.y.c0
  have oc := F0.out.o.c0
  have of := F0.out.o.f 0
  rw [rounds_succ]
  go_wp2
  go_region
  go_wp2
  have F1 : Hid (Four w (wv0.setCell ⟨B, 0, none⟩ (.int .i64 (a + p))).drew B a b c d p q r s (a + p) 0 0 0) := (F0.out.s0 (a + p)).below (Below.refl _ _).drew
  clear xc yc oc of F0
  obtain ⟨wv1, hv1⟩ : ∃ wv, wv = (wv0.setCell ⟨B, 0, none⟩ (.int .i64 (a + p))).drew := ⟨_, rfl⟩
  rw [← hv1] at F1
  rw [← hv1]
  clear hv1
  have xc := F1.out.three.two.x.c1
  have yc := F1.out.three.two.y.c1
  have oc := F1.out.o.c1
  have of := F1.out.o.f 1
  rw [rounds_succ]
  go_wp2
  go_region
  go_wp2
  have F2 : Hid (Four w (wv1.setCell ⟨B, 1, none⟩ (.int .i64 (b + q))).drew B a b c d p q r s (a + p) (b + q) 0 0) := (F1.out.s1 (b + q)).below (Below.refl _ _).drew
  clear xc yc oc of F1
  obtain ⟨wv2, hv2⟩ : ∃ wv, wv = (wv1.setCell ⟨B, 1, none⟩ (.int .i64 (b + q))).drew := ⟨_, rfl⟩
  rw [← hv2] at F2
  rw [← hv2]
  clear hv2
  have xc := F2.out.three.two.x.c2
  have yc := F2.out.three.two.y.c2
  have oc := F2.out.o.c2
  have of := F2.out.o.f 2
  rw [rounds_succ]
  go_wp2
  go_region
  go_wp2
  have F3 : Hid (Four w (wv2.setCell ⟨B, 2, none⟩ (.int .i64 (c + r))).drew B a b c d p q r s (a + p) (b + q) (c + r) 0) := (F2.out.s2 (c + r)).below (Below.refl _ _).drew
  clear xc yc oc of F2
  obtain ⟨wv3, hv3⟩ : ∃ wv, wv = (wv2.setCell ⟨B, 2, none⟩ (.int .i64 (c + r))).drew := ⟨_, rfl⟩
  rw [← hv3] at F3
  rw [← hv3]
  clear hv3
  have xc := F3.out.three.two.x.c3
  have yc := F3.out.three.two.y.c3
  have oc := F3.out.o.c3
  have of := F3.out.o.f 3
  rw [rounds_succ]
  go_wp2
  go_region
  go_wp2
  have F4 : Hid (Four w (wv3.setCell ⟨B, 3, none⟩ (.int .i64 (d + s))).drew B a b c d p q r s (a + p) (b + q) (c + r) (d + s)) := (F3.out.s3 (d + s)).below (Below.refl _ _).drew
  clear xc yc oc of F3
  obtain ⟨wv4, hv4⟩ : ∃ wv, wv = (wv3.setCell ⟨B, 3, none⟩ (.int .i64 (d + s))).drew := ⟨_, rfl⟩
  rw [← hv4] at F4
  rw [← hv4]
  clear hv4
  rw [rounds_succ]
  have oc0 := F4.out.o.c0
  have oc1 := F4.out.o.c1
  have oc2 := F4.out.o.c2
  have oc3 := F4.out.o.c3
  go_wp2_with fail
  refine (rmay_yes _ _ _ _ _ HM.out).mono ?_
  rintro e w3 ⟨rfl, q3⟩
  have G : Hid (Four w w3 B a b c d p q r s (a + p) (b + q) (c + r) (d + s)) := F4.out.below q3
  clear q3 F4 oc0 oc1 oc2 oc3
  have oc0 := G.out.o.c0
  have oc1 := G.out.o.c1
  have oc2 := G.out.o.c2
  have oc3 := G.out.o.c3
  have zc0 := G.out.three.z.c0
  have zc1 := G.out.three.z.c1
  have zc2 := G.out.three.z.c2
  have zc3 := G.out.three.z.c3
  have zf0 := G.out.three.z.f 0
  have zf1 := G.out.three.z.f 1
  have zf2 := G.out.three.z.f 2
  have zf3 := G.out.three.z.f 3
  go_wp2
  exact bodyPost_ret (results_m2 (by rfl) _ (G.out.three.z.set (a + p) (b + q) (c + r) (d + s)) rfl _ rfl) rfl ⟨rfl, below_set G.out.three.two.bel (by omega) _ _ _ _⟩

end Go.Proofs.Ytjecibpeahjenaa
