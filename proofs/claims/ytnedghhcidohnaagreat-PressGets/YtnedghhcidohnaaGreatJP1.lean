/-
  Joined: MR · MV · MW · MY.
-/
import Derived.RegionTactic
import Derived.Test.YtnedghhcidohnaaGreatJO1
import Derived.Test.YtnedghhcidohnaaGreatJF1

/-! The reference's Mul. -/
namespace Go.Proofs.YtnedghhcidohnaaGreat.Mn
open Go.RowKit

/-- Which of two may not be. -/
theorem not_both {a b c d p q r s : Int} (h : ¬ Both a b c d p q r s) : ¬ May4 a b c d ∨ (May4 a b c d ∧ ¬ May4 p q r s) := by
  by_cases ha : May4 a b c d
  · exact Or.inr ⟨ha, fun hb => h ⟨ha, hb⟩⟩
  · exact Or.inl ha

set_option maxHeartbeats 1000000 in
theorem rmul_arg (a b c d p q r s : Int) (w : World) (h : ¬ Both a b c d p q r s) :
    Calls Tryz.prog 71 #[.agg #[.int .i64 a, .int .i64 b, .int .i64 c, .int .i64 d], .agg #[.int .i64 p, .int .i64 q, .int .i64 r, .int .i64 s]] w fun e w' => e = .returned (.tuple #[.agg #[.int .i64 0, .int .i64 0, .int .i64 0, .int .i64 0], .int .i64 1]) ∧ Below w.heap.size w w' := by
  have T : Hid (Three w (((w.alloc (.cells #[.int .i64 a, .int .i64 b, .int .i64 c, .int .i64 d] 47)).alloc (.cells #[.int .i64 p, .int .i64 q, .int .i64 r, .int .i64 s] 47)).alloc (.cells #[.int .i64 0, .int .i64 0, .int .i64 0, .int .i64 0] 47)) a b c d p q r s) := Three.new w a b c d p q r s
  rcases not_both h with hn | ⟨hy, hn⟩
  · have H : Hid (¬ May4 a b c d) := hn
    clear h hn
    go_enter Tryz.func71, Tryz.ntmps71
    go_wp2_with fail
    refine (rmay_no _ _ _ _ _ H.out).mono ?_
    rintro e w1 ⟨rfl, q1⟩
    have T1 : Hid (Three w w1 a b c d p q r s) := T.out.below q1
    clear q1 T
    have zc0 := T1.out.z.c0
    have zc1 := T1.out.z.c1
    have zc2 := T1.out.z.c2
    have zc3 := T1.out.z.c3
    have zf0 := T1.out.z.f 0
    have zf1 := T1.out.z.f 1
    have zf2 := T1.out.z.f 2
    have zf3 := T1.out.z.f 3
    go_wp2
    exact bodyPost_ret (results_m2 (by rfl) _ (T1.out.z.set 0 0 0 0) rfl _ rfl) rfl ⟨rfl, below_set T1.out.two.bel (by omega) _ _ _ _⟩
  · have H : Hid (May4 a b c d ∧ ¬ May4 p q r s) := ⟨hy, hn⟩
    clear h hn hy
    go_enter Tryz.func71, Tryz.ntmps71
    go_wp2_with fail
    refine (rmay_yes _ _ _ _ _ H.out.1).mono ?_
    rintro e w1 ⟨rfl, q1⟩
    have T1 : Hid (Three w w1 a b c d p q r s) := T.out.below q1
    clear q1 T
    have yc0 := T1.out.two.y.c0
    have yc1 := T1.out.two.y.c1
    have yc2 := T1.out.two.y.c2
    have yc3 := T1.out.two.y.c3
    go_wp2_with fail
    refine (rmay_no _ _ _ _ _ H.out.2).mono ?_
    rintro e w2 ⟨rfl, q2⟩
    have T2 : Hid (Three w w2 a b c d p q r s) := T1.out.below q2
    clear q2 T1 yc0 yc1 yc2 yc3
    have zc0 := T2.out.z.c0
    have zc1 := T2.out.z.c1
    have zc2 := T2.out.z.c2
    have zc3 := T2.out.z.c3
    have zf0 := T2.out.z.f 0
    have zf1 := T2.out.z.f 1
    have zf2 := T2.out.z.f 2
    have zf3 := T2.out.z.f 3
    go_wp2
    exact bodyPost_ret (results_m2 (by rfl) _ (T2.out.z.set 0 0 0 0) rfl _ rfl) rfl ⟨rfl, below_set T2.out.two.bel (by omega) _ _ _ _⟩

/-- The boxes, and the one that is filled. -/
structure Four (w W : World) (B : Nat) (a b c d p q r s x y z u : Int) : Prop where
  three : Three w W a b c d p q r s
  o : MBox W B x y z u
  ne : w.heap.size + 2 < B
theorem Four.below {w W W' : World} {B : Nat} {a b c d p q r s x y z u : Int} (h : Four w W B a b c d p q r s x y z u) (hb : Below W.heap.size W W') : Four w W' B a b c d p q r s x y z u := ⟨h.three.below hb, h.o.below hb, h.ne⟩
theorem Four.new {w W : World} {a b c d p q r s : Int} (h : Three w W a b c d p q r s) (x y z u : Int) : Four w (W.alloc (.cells #[.int .i64 x, .int .i64 y, .int .i64 z, .int .i64 u] 47)) W.heap.size a b c d p q r s x y z u := ⟨h.below ((Below.refl _ _).alloc (Nat.le_refl _) _), MBox.new W x y z u, h.z.lt⟩
theorem Four.s0 {w W : World} {B : Nat} {a b c d p q r s x y z u : Int} (h : Four w W B a b c d p q r s x y z u) (v : Int) : Four w (W.setCell ⟨B, 0, none⟩ (.int .i64 v)) B a b c d p q r s v y z u := by
  have hn := h.ne
  exact ⟨⟨⟨h.three.two.x.other (by omega), h.three.two.y.other (by omega), h.three.two.bel.setCell (by show w.heap.size ≤ B; omega) _⟩, h.three.z.other (by omega)⟩, h.o.s0 v, hn⟩
theorem Four.s1 {w W : World} {B : Nat} {a b c d p q r s x y z u : Int} (h : Four w W B a b c d p q r s x y z u) (v : Int) : Four w (W.setCell ⟨B, 1, none⟩ (.int .i64 v)) B a b c d p q r s x v z u := by
  have hn := h.ne
  exact ⟨⟨⟨h.three.two.x.other (by omega), h.three.two.y.other (by omega), h.three.two.bel.setCell (by show w.heap.size ≤ B; omega) _⟩, h.three.z.other (by omega)⟩, h.o.s1 v, hn⟩
theorem Four.s2 {w W : World} {B : Nat} {a b c d p q r s x y z u : Int} (h : Four w W B a b c d p q r s x y z u) (v : Int) : Four w (W.setCell ⟨B, 2, none⟩ (.int .i64 v)) B a b c d p q r s x y v u := by
  have hn := h.ne
  exact ⟨⟨⟨h.three.two.x.other (by omega), h.three.two.y.other (by omega), h.three.two.bel.setCell (by show w.heap.size ≤ B; omega) _⟩, h.three.z.other (by omega)⟩, h.o.s2 v, hn⟩
theorem Four.s3 {w W : World} {B : Nat} {a b c d p q r s x y z u : Int} (h : Four w W B a b c d p q r s x y z u) (v : Int) : Four w (W.setCell ⟨B, 3, none⟩ (.int .i64 v)) B a b c d p q r s x y z v := by
  have hn := h.ne
  exact ⟨⟨⟨h.three.two.x.other (by omega), h.three.two.y.other (by omega), h.three.two.bel.setCell (by show w.heap.size ≤ B; omega) _⟩, h.three.z.other (by omega)⟩, h.o.s3 v, hn⟩

set_option maxHeartbeats 4000000 in
theorem rmul_exp (a b c d p q r s : Int) (w : World) (h : Both a b c d p q r s) (hm : ¬ May4 (a + p) (b + q) (c + r) (d + s)) :
    Calls Tryz.prog 71 #[.agg #[.int .i64 a, .int .i64 b, .int .i64 c, .int .i64 d], .agg #[.int .i64 p, .int .i64 q, .int .i64 r, .int .i64 s]] w fun e w' => e = .returned (.tuple #[.agg #[.int .i64 0, .int .i64 0, .int .i64 0, .int .i64 0], .int .i64 80]) ∧ Below w.heap.size w w' := by
  have T : Hid (Three w (((w.alloc (.cells #[.int .i64 a, .int .i64 b, .int .i64 c, .int .i64 d] 47)).alloc (.cells #[.int .i64 p, .int .i64 q, .int .i64 r, .int .i64 s] 47)).alloc (.cells #[.int .i64 0, .int .i64 0, .int .i64 0, .int .i64 0] 47)) a b c d p q r s) := Three.new w a b c d p q r s
  have H : Hid (Both a b c d p q r s) := h
  have HM : Hid (¬ May4 (a + p) (b + q) (c + r) (d + s)) := hm
  obtain ⟨⟨⟨a0, a1⟩, ⟨b0, b1⟩, ⟨c0, c1⟩, ⟨d0, d1⟩⟩, ⟨p0, p1⟩, ⟨q0, q1⟩, ⟨r0, r1⟩, ⟨s0, s1⟩⟩ := h
  clear hm
  go_enter Tryz.func71, Tryz.ntmps71
  go_wp2_with fail
  refine (rmay_yes _ _ _ _ _ H.out.a).mono ?_
  rintro e w1 ⟨rfl, q1⟩
  have T1 : Hid (Three w w1 a b c d p q r s) := T.out.below q1
  clear q1 T
  have yc0 := T1.out.two.y.c0
  have yc1 := T1.out.two.y.c1
  have yc2 := T1.out.two.y.c2
  have yc3 := T1.out.two.y.c3
  go_wp2_with fail
  refine (rmay_yes _ _ _ _ _ H.out.b).mono ?_
  rintro e w2 ⟨rfl, q2⟩
  have T2 : Hid (Three w w2 a b c d p q r s) := T1.out.below q2
  clear q2 T1 yc0 yc1 yc2 yc3
  go_wp2
  have F0 : Hid (Four w (w2.alloc (.cells #[.int .i64 0, .int .i64 0, .int .i64 0, .int .i64 0] 47)) w2.heap.size a b c d p q r s 0 0 0 0) := Four.new T2.out 0 0 0 0
  obtain ⟨wv0, hv0⟩ : ∃ wv, wv = w2.alloc (.cells #[.int .i64 0, .int .i64 0, .int .i64 0, .int .i64 0] 47) := ⟨_, rfl⟩
  rw [← hv0] at F0
  rw [← hv0]
  obtain ⟨B, hB⟩ : ∃ B, B = w2.heap.size := ⟨_, rfl⟩
  rw [← hB] at F0
  rw [← hB]
  clear hv0 hB T2
  refine wp_loop_rounds 5 ?_
  have xc := F0.out.three.two.x.c0
  have yc := F0.out.three.two.y.c0
  have oc := F0.out.o.c0
  have of := F0.out.o.f 0
  rw [rounds_succ]
  go_wp2
  go_region
  go_wp2
  have F1 : Hid (Four w (wv0.setCell ⟨B, 0, none⟩ (.int .i64 (a + p))).drew B a b c d p q r s (a + p) 0 0 0) := (F0.out.s0 (a + p)).below (Below.refl _ _).drew
  clear xc yc oc of F0
  obtain ⟨wv1, hv1⟩ : ∃ wv, wv = (wv0.setCell ⟨B, 0, none⟩ (.int .i64 (a + p))).drew := ⟨_, rfl⟩
  rw [← hv1] at F1
  rw [← hv1]
  clear hv1
  have xc := F1.out.three.two.x.c1
  have yc := F1.out.three.two.y.c1
  have oc := F1.out.o.c1
  have of := F1.out.o.f 1
  rw [rounds_succ]
  go_wp2
  go_region
  go_wp2
  have F2 : Hid (Four w (wv1.setCell ⟨B, 1, none⟩ (.int .i64 (b + q))).drew B a b c d p q r s (a + p) (b + q) 0 0) := (F1.out.s1 (b + q)).below (Below.refl _ _).drew
  clear xc yc oc of F1
  obtain ⟨wv2, hv2⟩ : ∃ wv, wv = (wv1.setCell ⟨B, 1, none⟩ (.int .i64 (b + q))).drew := ⟨_, rfl⟩
  rw [← hv2] at F2
  rw [← hv2]
  clear hv2
  have xc := F2.out.three.two.x.c2
  have yc := F2.out.three.two.y.c2
  have oc := F2.out.o.c2
  have of := F2.out.o.f 2
  rw [rounds_succ]
  go_wp2
  go_region
  go_wp2
  have F3 : Hid (Four w (wv2.setCell ⟨B, 2, none⟩ (.int .i64 (c + r))).drew B a b c d p q r s (a + p) (b + q) (c + r) 0) := (F2.out.s2 (c + r)).below (Below.refl _ _).drew
  clear xc yc oc of F2
  obtain ⟨wv3, hv3⟩ : ∃ wv, wv = (wv2.setCell ⟨B, 2, none⟩ (.int .i64 (c + r))).drew := ⟨_, rfl⟩
  rw [← hv3] at F3
  rw [← hv3]
  clear hv3
  have xc := F3.out.three.two.x.c3
  have yc := F3.out.three.two.y.c3
  have oc := F3.out.o.c3
  have of := F3.out.o.f 3
  rw [rounds_succ]
  go_wp2
  go_region
  go_wp2
  have F4 : Hid (Four w (wv3.setCell ⟨B, 3, none⟩ (.int .i64 (d + s))).drew B a b c d p q r s (a + p) (b + q) (c + r) (d + s)) := (F3.out.s3 (d + s)).below (Below.refl _ _).drew
  clear xc yc oc of F3
  obtain ⟨wv4, hv4⟩ : ∃ wv, wv = (wv3.setCell ⟨B, 3, none⟩ (.int .i64 (d + s))).drew := ⟨_, rfl⟩
  rw [← hv4] at F4
  rw [← hv4]
  clear hv4
  rw [rounds_succ]
  have oc0 := F4.out.o.c0
  have oc1 := F4.out.o.c1
  have oc2 := F4.out.o.c2
  have oc3 := F4.out.o.c3
  go_wp2_with fail
  refine (rmay_no _ _ _ _ _ HM.out).mono ?_
  rintro e w3 ⟨rfl, q3⟩
  have G : Hid (Four w w3 B a b c d p q r s (a + p) (b + q) (c + r) (d + s)) := F4.out.below q3
  clear q3 F4 oc0 oc1 oc2 oc3
  have oc0 := G.out.o.c0
  have oc1 := G.out.o.c1
  have oc2 := G.out.o.c2
  have oc3 := G.out.o.c3
  have zc0 := G.out.three.z.c0
  have zc1 := G.out.three.z.c1
  have zc2 := G.out.three.z.c2
  have zc3 := G.out.three.z.c3
  have zf0 := G.out.three.z.f 0
  have zf1 := G.out.three.z.f 1
  have zf2 := G.out.three.z.f 2
  have zf3 := G.out.three.z.f 3
  go_wp2
  exact bodyPost_ret (results_m2 (by rfl) _ (G.out.three.z.set 0 0 0 0) rfl _ rfl) rfl ⟨rfl, below_set G.out.three.two.bel (by omega) _ _ _ _⟩

set_option maxHeartbeats 4000000 in
theorem rmul_ok (a b c d p q r s : Int) (w : World) (h : Both a b c d p q r s) (hm : May4 (a + p) (b + q) (c + r) (d + s)) :
    Calls Tryz.prog 71 #[.agg #[.int .i64 a, .int .i64 b, .int .i64 c, .int .i64 d], .agg #[.int .i64 p, .int .i64 q, .int .i64 r, .int .i64 s]] w fun e w' => e = .returned (.tuple #[.agg #[.int .i64 (a + p), .int .i64 (b + q), .int .i64 (c + r), .int .i64 (d + s)], .int .i64 0]) ∧ Below w.heap.size w w' := by
  have T : Hid (Three w (((w.alloc (.cells #[.int .i64 a, .int .i64 b, .int .i64 c, .int .i64 d] 47)).alloc (.cells #[.int .i64 p, .int .i64 q, .int .i64 r, .int .i64 s] 47)).alloc (.cells #[.int .i64 0, .int .i64 0, .int .i64 0, .int .i64 0] 47)) a b c d p q r s) := Three.new w a b c d p q r s
  have H : Hid (Both a b c d p q r s) := h
  have HM : Hid (May4 (a + p) (b + q) (c + r) (d + s)) := hm
  obtain ⟨⟨⟨a0, a1⟩, ⟨b0, b1⟩, ⟨c0, c1⟩, ⟨d0, d1⟩⟩, ⟨p0, p1⟩, ⟨q0, q1⟩, ⟨r0, r1⟩, ⟨s0, s1⟩⟩ := h
  clear hm
  go_enter Tryz.func71, Tryz.ntmps71
  go_wp2_with fail
  refine (rmay_yes _ _ _ _ _ H.out.a).mono ?_
  rintro e w1 ⟨rfl, q1⟩
  have T1 : Hid (Three w w1 a b c d p q r s) := T.out.below q1
  clear q1 T
  have yc0 := T1.out.two.y.c0
  have yc1 := T1.out.two.y.c1
  have yc2 := T1.out.two.y.c2
  have yc3 := T1.out.two.y.c3
  go_wp2_with fail
  refine (rmay_yes _ _ _ _ _ H.out.b).mono ?_
  rintro e w2 ⟨rfl, q2⟩
  have T2 : Hid (Three w w2 a b c d p q r s) := T1.out.below q2
  clear q2 T1 yc0 yc1 yc2 yc3
  go_wp2
  have F0 : Hid (Four w (w2.alloc (.cells #[.int .i64 0, .int .i64 0, .int .i64 0, .int .i64 0] 47)) w2.heap.size a b c d p q r s 0 0 0 0) := Four.new T2.out 0 0 0 0
  obtain ⟨wv0, hv0⟩ : ∃ wv, wv = w2.alloc (.cells #[.int .i64 0, .int .i64 0, .int .i64 0, .int .i64 0] 47) := ⟨_, rfl⟩
  rw [← hv0] at F0
  rw [← hv0]
  obtain ⟨B, hB⟩ : ∃ B, B = w2.heap.size := ⟨_, rfl⟩
  rw [← hB] at F0
  rw [← hB]
  clear hv0 hB T2
  refine wp_loop_rounds 5 ?_
  have xc := F0.out.three.two.x.c0
  have yc := F0.out.three.two.y.c0
  have oc := F0.out.o.c0
  have of := F0.out.o.f 0
  rw [rounds_succ]
  go_wp2
  go_region
  go_wp2
  have F1 : Hid (Four w (wv0.setCell ⟨B, 0, none⟩ (.int .i64 (a + p))).drew B a b c d p q r s (a + p) 0 0 0) := (F0.out.s0 (a + p)).below (Below.refl _ _).drew
  clear xc yc oc of F0
  obtain ⟨wv1, hv1⟩ : ∃ wv, wv = (wv0.setCell ⟨B, 0, none⟩ (.int .i64 (a + p))).drew := ⟨_, rfl⟩
  rw [← hv1] at F1
  rw [← hv1]
  clear hv1
  have xc := F1.out.three.two.x.c1
  have yc := F1.out.three.two.y.c1
  have oc := F1.out.o.c1
  have of := F1.out.o.f 1
  rw [rounds_succ]
  go_wp2
  go_region
  go_wp2
  have F2 : Hid (Four w (wv1.setCell ⟨B, 1, none⟩ (.int .i64 (b + q))).drew B a b c d p q r s (a + p) (b + q) 0 0) := (F1.out.s1 (b + q)).below (Below.refl _ _).drew
  clear xc yc oc of F1
  obtain ⟨wv2, hv2⟩ : ∃ wv, wv = (wv1.setCell ⟨B, 1, none⟩ (.int .i64 (b + q))).drew := ⟨_, rfl⟩
  rw [← hv2] at F2
  rw [← hv2]
  clear hv2
  have xc := F2.out.three.two.x.c2
  have yc := F2.out.three.two.y.c2
  have oc := F2.out.o.c2
  have of := F2.out.o.f 2
  rw [rounds_succ]
  go_wp2
  go_region
  go_wp2
  have F3 : Hid (Four w (wv2.setCell ⟨B, 2, none⟩ (.int .i64 (c + r))).drew B a b c d p q r s (a + p) (b + q) (c + r) 0) := (F2.out.s2 (c + r)).below (Below.refl _ _).drew
  clear xc yc oc of F2
  obtain ⟨wv3, hv3⟩ : ∃ wv, wv = (wv2.setCell ⟨B, 2, none⟩ (.int .i64 (c + r))).drew := ⟨_, rfl⟩
  rw [← hv3] at F3
  rw [← hv3]
  clear hv3
  have xc := F3.out.three.two.x.c3
  have yc := F3.out.three.two.y.c3
  have oc := F3.out.o.c3
  have of := F3.out.o.f 3
  rw [rounds_succ]
  go_wp2
  go_region
  go_wp2
  have F4 : Hid (Four w (wv3.setCell ⟨B, 3, none⟩ (.int .i64 (d + s))).drew B a b c d p q r s (a + p) (b + q) (c + r) (d + s)) := (F3.out.s3 (d + s)).below (Below.refl _ _).drew
  clear xc yc oc of F3
  obtain ⟨wv4, hv4⟩ : ∃ wv, wv = (wv3.setCell ⟨B, 3, none⟩ (.int .i64 (d + s))).drew := ⟨_, rfl⟩
  rw [← hv4] at F4
  rw [← hv4]
  clear hv4
  rw [rounds_succ]
  have oc0 := F4.out.o.c0
  have oc1 := F4.out.o.c1
  have oc2 := F4.out.o.c2
  have oc3 := F4.out.o.c3
  go_wp2_with fail
  refine (rmay_yes _ _ _ _ _ HM.out).mono ?_
  rintro e w3 ⟨rfl, q3⟩
  have G : Hid (Four w w3 B a b c d p q r s (a + p) (b + q) (c + r) (d + s)) := F4.out.below q3
  clear q3 F4 oc0 oc1 oc2 oc3
  have oc0 := G.out.o.c0
  have oc1 := G.out.o.c1
  have oc2 := G.out.o.c2
  have oc3 := G.out.o.c3
  have zc0 := G.out.three.z.c0
  have zc1 := G.out.three.z.c1
  have zc2 := G.out.three.z.c2
  have zc3 := G.out.three.z.c3
  have zf0 := G.out.three.z.f 0
  have zf1 := G.out.three.z.f 1
  have zf2 := G.out.three.z.f 2
  have zf3 := G.out.three.z.f 3
  go_wp2
  exact bodyPost_ret (results_m2 (by rfl) _ (G.out.three.z.set (a + p) (b + q) (c + r) (d + s)) rfl _ rfl) rfl ⟨rfl, below_set G.out.three.two.bel (by omega) _ _ _ _⟩

end Go.Proofs.YtnedghhcidohnaaGreat.Mn

/-! The reference's lex and Cmp. -/
namespace Go.Proofs.YtnedghhcidohnaaGreat.Mn
open Go.RowKit

set_option maxHeartbeats 1000000 in
theorem rlex_0 (a b c d p q r s : Int) (w : World) (h : Both a b c d p q r s) (ea : a ≠ p) :
    Calls Tryz.prog 61 #[.agg #[.int .i64 a, .int .i64 b, .int .i64 c, .int .i64 d], .agg #[.int .i64 p, .int .i64 q, .int .i64 r, .int .i64 s]] w fun e w' => e = .returned (.int .i64 (cmpI a p)) ∧ Below w.heap.size w w' := by
  have T : Hid (Two w ((w.alloc (.cells #[.int .i64 a, .int .i64 b, .int .i64 c, .int .i64 d] 47)).alloc (.cells #[.int .i64 p, .int .i64 q, .int .i64 r, .int .i64 s] 47)) a b c d p q r s) := Two.new w a b c d p q r s
  obtain ⟨⟨⟨a0, a1⟩, ⟨b0, b1⟩, ⟨c0, c1⟩, ⟨d0, d1⟩⟩, ⟨p0, p1⟩, ⟨q0, q1⟩, ⟨r0, r1⟩, ⟨s0, s1⟩⟩ := h
  have ga : (a == p) = false := by simp [ea]
  clear ea
  go_enter Tryz.func61, Tryz.ntmps61
  go_wp2
  obtain ⟨W, hW⟩ : ∃ W, W = ((w.alloc (.cells #[.int .i64 a, .int .i64 b, .int .i64 c, .int .i64 d] 47)).alloc (.cells #[.int .i64 p, .int .i64 q, .int .i64 r, .int .i64 s] 47)) := ⟨_, rfl⟩
  rw [← hW] at T
  rw [← hW]
  clear hW
  have xc0 := T.out.x.c0
  have yc0 := T.out.y.c0
  have xc1 := T.out.x.c1
  have yc1 := T.out.y.c1
  have xc2 := T.out.x.c2
  have yc2 := T.out.y.c2
  have xc3 := T.out.x.c3
  have yc3 := T.out.y.c3
  refine wp_loop_rounds 5 ?_
  rw [rounds_succ]
  go_wp2
  go_quiet (fail)
  go_wp2
  go_quiet ((go_at_call 63; exact (sign_any _ a p _ rfl).mono fun _ _ ⟨he, hw⟩ => ⟨he, _, hw⟩))
  go_wp2
  go_ret
  refine ⟨rfl, ?_⟩
  repeat (first | exact T.out.bel | refine below_drewN ?_ _)

set_option maxHeartbeats 1000000 in
theorem rlex_1 (a b c d p q r s : Int) (w : World) (h : Both a b c d p q r s) (ea : a = p) (eb : b ≠ q) :
    Calls Tryz.prog 61 #[.agg #[.int .i64 a, .int .i64 b, .int .i64 c, .int .i64 d], .agg #[.int .i64 p, .int .i64 q, .int .i64 r, .int .i64 s]] w fun e w' => e = .returned (.int .i64 (cmpI b q)) ∧ Below w.heap.size w w' := by
  have T : Hid (Two w ((w.alloc (.cells #[.int .i64 a, .int .i64 b, .int .i64 c, .int .i64 d] 47)).alloc (.cells #[.int .i64 p, .int .i64 q, .int .i64 r, .int .i64 s] 47)) a b c d p q r s) := Two.new w a b c d p q r s
  obtain ⟨⟨⟨a0, a1⟩, ⟨b0, b1⟩, ⟨c0, c1⟩, ⟨d0, d1⟩⟩, ⟨p0, p1⟩, ⟨q0, q1⟩, ⟨r0, r1⟩, ⟨s0, s1⟩⟩ := h
  have ga : (a == p) = true := by simp [ea]
  have gb : (b == q) = false := by simp [eb]
  clear ea eb
  go_enter Tryz.func61, Tryz.ntmps61
  go_wp2
  obtain ⟨W, hW⟩ : ∃ W, W = ((w.alloc (.cells #[.int .i64 a, .int .i64 b, .int .i64 c, .int .i64 d] 47)).alloc (.cells #[.int .i64 p, .int .i64 q, .int .i64 r, .int .i64 s] 47)) := ⟨_, rfl⟩
  rw [← hW] at T
  rw [← hW]
  clear hW
  have xc0 := T.out.x.c0
  have yc0 := T.out.y.c0
  have xc1 := T.out.x.c1
  have yc1 := T.out.y.c1
  have xc2 := T.out.x.c2
  have yc2 := T.out.y.c2
  have xc3 := T.out.x.c3
  have yc3 := T.out.y.c3
  refine wp_loop_rounds 5 ?_
  rw [rounds_succ]
  go_wp2
  go_quiet (fail)
  go_wp2
  rw [rounds_succ]
  go_wp2
  go_quiet (fail)
  go_wp2
  go_quiet ((go_at_call 63; exact (sign_any _ b q _ rfl).mono fun _ _ ⟨he, hw⟩ => ⟨he, _, hw⟩))
  go_wp2
  go_ret
  refine ⟨rfl, ?_⟩
  repeat (first | exact T.out.bel | refine below_drewN ?_ _)

set_option maxHeartbeats 1000000 in
theorem rlex_2 (a b c d p q r s : Int) (w : World) (h : Both a b c d p q r s) (ea : a = p) (eb : b = q) (ec : c ≠ r) :
    Calls Tryz.prog 61 #[.agg #[.int .i64 a, .int .i64 b, .int .i64 c, .int .i64 d], .agg #[.int .i64 p, .int .i64 q, .int .i64 r, .int .i64 s]] w fun e w' => e = .returned (.int .i64 (cmpI c r)) ∧ Below w.heap.size w w' := by
  have T : Hid (Two w ((w.alloc (.cells #[.int .i64 a, .int .i64 b, .int .i64 c, .int .i64 d] 47)).alloc (.cells #[.int .i64 p, .int .i64 q, .int .i64 r, .int .i64 s] 47)) a b c d p q r s) := Two.new w a b c d p q r s
  obtain ⟨⟨⟨a0, a1⟩, ⟨b0, b1⟩, ⟨c0, c1⟩, ⟨d0, d1⟩⟩, ⟨p0, p1⟩, ⟨q0, q1⟩, ⟨r0, r1⟩, ⟨s0, s1⟩⟩ := h
  have ga : (a == p) = true := by simp [ea]
  have gb : (b == q) = true := by simp [eb]
  have gc : (c == r) = false := by simp [ec]
  clear ea eb ec
  go_enter Tryz.func61, Tryz.ntmps61
  go_wp2
  obtain ⟨W, hW⟩ : ∃ W, W = ((w.alloc (.cells #[.int .i64 a, .int .i64 b, .int .i64 c, .int .i64 d] 47)).alloc (.cells #[.int .i64 p, .int .i64 q, .int .i64 r, .int .i64 s] 47)) := ⟨_, rfl⟩
  rw [← hW] at T
  rw [← hW]
  clear hW
  have xc0 := T.out.x.c0
  have yc0 := T.out.y.c0
  have xc1 := T.out.x.c1
  have yc1 := T.out.y.c1
  have xc2 := T.out.x.c2
  have yc2 := T.out.y.c2
  have xc3 := T.out.x.c3
  have yc3 := T.out.y.c3
  refine wp_loop_rounds 5 ?_
  rw [rounds_succ]
  go_wp2
  go_quiet (fail)
  go_wp2
  rw [rounds_succ]
  go_wp2
  go_quiet (fail)
  go_wp2
  rw [rounds_succ]
  go_wp2
  go_quiet (fail)
  go_wp2
  go_quiet ((go_at_call 63; exact (sign_any _ c r _ rfl).mono fun _ _ ⟨he, hw⟩ => ⟨he, _, hw⟩))
  go_wp2
  go_ret
  refine ⟨rfl, ?_⟩
  repeat (first | exact T.out.bel | refine below_drewN ?_ _)

set_option maxHeartbeats 1000000 in
theorem rlex_3 (a b c d p q r s : Int) (w : World) (h : Both a b c d p q r s) (ea : a = p) (eb : b = q) (ec : c = r) (ed : d ≠ s) :
    Calls Tryz.prog 61 #[.agg #[.int .i64 a, .int .i64 b, .int .i64 c, .int .i64 d], .agg #[.int .i64 p, .int .i64 q, .int .i64 r, .int .i64 s]] w fun e w' => e = .returned (.int .i64 (cmpI d s)) ∧ Below w.heap.size w w' := by
  have T : Hid (Two w ((w.alloc (.cells #[.int .i64 a, .int .i64 b, .int .i64 c, .int .i64 d] 47)).alloc (.cells #[.int .i64 p, .int .i64 q, .int .i64 r, .int .i64 s] 47)) a b c d p q r s) := Two.new w a b c d p q r s
  obtain ⟨⟨⟨a0, a1⟩, ⟨b0, b1⟩, ⟨c0, c1⟩, ⟨d0, d1⟩⟩, ⟨p0, p1⟩, ⟨q0, q1⟩, ⟨r0, r1⟩, ⟨s0, s1⟩⟩ := h
  have ga : (a == p) = true := by simp [ea]
  have gb : (b == q) = true := by simp [eb]
  have gc : (c == r) = true := by simp [ec]
  have gd : (d == s) = false := by simp [ed]
  clear ea eb ec ed
  go_enter Tryz.func61, Tryz.ntmps61
  go_wp2
  obtain ⟨W, hW⟩ : ∃ W, W = ((w.alloc (.cells #[.int .i64 a, .int .i64 b, .int .i64 c, .int .i64 d] 47)).alloc (.cells #[.int .i64 p, .int .i64 q, .int .i64 r, .int .i64 s] 47)) := ⟨_, rfl⟩
  rw [← hW] at T
  rw [← hW]
  clear hW
  have xc0 := T.out.x.c0
  have yc0 := T.out.y.c0
  have xc1 := T.out.x.c1
  have yc1 := T.out.y.c1
  have xc2 := T.out.x.c2
  have yc2 := T.out.y.c2
  have xc3 := T.out.x.c3
  have yc3 := T.out.y.c3
  refine wp_loop_rounds 5 ?_
  rw [rounds_succ]
  go_wp2
  go_quiet (fail)
  go_wp2
  rw [rounds_succ]
  go_wp2
  go_quiet (fail)
  go_wp2
  rw [rounds_succ]
  go_wp2
  go_quiet (fail)
  go_wp2
  rw [rounds_succ]
  go_wp2
  go_quiet (fail)
  go_wp2
  go_quiet ((go_at_call 63; exact (sign_any _ d s _ rfl).mono fun _ _ ⟨he, hw⟩ => ⟨he, _, hw⟩))
  go_wp2
  go_ret
  refine ⟨rfl, ?_⟩
  repeat (first | exact T.out.bel | refine below_drewN ?_ _)

set_option maxHeartbeats 1000000 in
theorem rlex_4 (a b c d p q r s : Int) (w : World) (h : Both a b c d p q r s) (ea : a = p) (eb : b = q) (ec : c = r) (ed : d = s) :
    Calls Tryz.prog 61 #[.agg #[.int .i64 a, .int .i64 b, .int .i64 c, .int .i64 d], .agg #[.int .i64 p, .int .i64 q, .int .i64 r, .int .i64 s]] w fun e w' => e = .returned (.int .i64 (0)) ∧ Below w.heap.size w w' := by
  have T : Hid (Two w ((w.alloc (.cells #[.int .i64 a, .int .i64 b, .int .i64 c, .int .i64 d] 47)).alloc (.cells #[.int .i64 p, .int .i64 q, .int .i64 r, .int .i64 s] 47)) a b c d p q r s) := Two.new w a b c d p q r s
  obtain ⟨⟨⟨a0, a1⟩, ⟨b0, b1⟩, ⟨c0, c1⟩, ⟨d0, d1⟩⟩, ⟨p0, p1⟩, ⟨q0, q1⟩, ⟨r0, r1⟩, ⟨s0, s1⟩⟩ := h
  have ga : (a == p) = true := by simp [ea]
  have gb : (b == q) = true := by simp [eb]
  have gc : (c == r) = true := by simp [ec]
  have gd : (d == s) = true := by simp [ed]
  clear ea eb ec ed
  go_enter Tryz.func61, Tryz.ntmps61
  go_wp2
  obtain ⟨W, hW⟩ : ∃ W, W = ((w.alloc (.cells #[.int .i64 a, .int .i64 b, .int .i64 c, .int .i64 d] 47)).alloc (.cells #[.int .i64 p, .int .i64 q, .int .i64 r, .int .i64 s] 47)) := ⟨_, rfl⟩
  rw [← hW] at T
  rw [← hW]
  clear hW
  have xc0 := T.out.x.c0
  have yc0 := T.out.y.c0
  have xc1 := T.out.x.c1
  have yc1 := T.out.y.c1
  have xc2 := T.out.x.c2
  have yc2 := T.out.y.c2
  have xc3 := T.out.x.c3
  have yc3 := T.out.y.c3
  refine wp_loop_rounds 5 ?_
  rw [rounds_succ]
  go_wp2
  go_quiet (fail)
  go_wp2
  rw [rounds_succ]
  go_wp2
  go_quiet (fail)
  go_wp2
  rw [rounds_succ]
  go_wp2
  go_quiet (fail)
  go_wp2
  rw [rounds_succ]
  go_wp2
  go_quiet (fail)
  go_wp2
  rw [rounds_succ]
  go_wp2
  go_ret
  refine ⟨rfl, ?_⟩
  repeat (first | exact T.out.bel | refine below_drewN ?_ _)

theorem rlex_any (a b c d p q r s : Int) (w : World) (h : Both a b c d p q r s) : Calls Tryz.prog 61 #[.agg #[.int .i64 a, .int .i64 b, .int .i64 c, .int .i64 d], .agg #[.int .i64 p, .int .i64 q, .int .i64 r, .int .i64 s]] w fun e w' => e = .returned (.int .i64 (lexI a b c d p q r s)) ∧ Below w.heap.size w w' := by
  by_cases ea : a = p
  · by_cases eb : b = q
    · by_cases ec : c = r
      · by_cases ed : d = s
        · have g := rlex_4 a b c d p q r s w h ea eb ec ed
          rwa [show (0 : Int) = lexI a b c d p q r s by simp [lexI, cmpI, ea, eb, ec, ed]] at g
        · have g := rlex_3 a b c d p q r s w h ea eb ec ed
          rwa [show cmpI d s = lexI a b c d p q r s by simp [lexI, ea, eb, ec]] at g
      · have g := rlex_2 a b c d p q r s w h ea eb ec
        rwa [show cmpI c r = lexI a b c d p q r s by simp [lexI, ea, eb, ec]] at g
    · have g := rlex_1 a b c d p q r s w h ea eb
      rwa [show cmpI b q = lexI a b c d p q r s by simp [lexI, ea, eb]] at g
  · have g := rlex_0 a b c d p q r s w h ea
    rwa [show cmpI a p = lexI a b c d p q r s by simp [lexI, ea]] at g

set_option maxHeartbeats 2000000 in
theorem rcmp_arg (o a b c d p q r s : Int) (w : World) (h : ¬ Both a b c d p q r s) :
    Calls Tryz.prog 40 #[.int .i64 o, .agg #[.int .i64 a, .int .i64 b, .int .i64 c, .int .i64 d], .agg #[.int .i64 p, .int .i64 q, .int .i64 r, .int .i64 s]] w fun e w' => e = .returned (.int .i64 0) ∧ Below w.heap.size w w' := by
  have T : Hid (Two w ((w.alloc (.cells #[.int .i64 a, .int .i64 b, .int .i64 c, .int .i64 d] 47)).alloc (.cells #[.int .i64 p, .int .i64 q, .int .i64 r, .int .i64 s] 47)) a b c d p q r s) := Two.new w a b c d p q r s
  rcases not_both h with hn | ⟨hy, hn⟩
  · have H : Hid (¬ May4 a b c d) := hn
    clear h hn
    go_enter Tryz.func40, Tryz.ntmps40
    go_wp2_with fail
    refine (rmay_no _ _ _ _ _ H.out).mono ?_
    rintro e w1 ⟨rfl, g1⟩
    have T1 : Hid (Two w w1 a b c d p q r s) := T.out.below g1
    clear g1 T
    go_wp2
    go_ret
    exact ⟨rfl, T1.out.bel⟩
  · have H : Hid (May4 a b c d ∧ ¬ May4 p q r s) := ⟨hy, hn⟩
    clear h hn hy
    go_enter Tryz.func40, Tryz.ntmps40
    go_wp2_with fail
    refine (rmay_yes _ _ _ _ _ H.out.1).mono ?_
    rintro e w1 ⟨rfl, g1⟩
    have T1 : Hid (Two w w1 a b c d p q r s) := T.out.below g1
    clear g1 T
    have yc0 := T1.out.y.c0
    have yc1 := T1.out.y.c1
    have yc2 := T1.out.y.c2
    have yc3 := T1.out.y.c3
    go_wp2_with fail
    refine (rmay_no _ _ _ _ _ H.out.2).mono ?_
    rintro e w2 ⟨rfl, g2⟩
    have HB : Hid (Below w.heap.size w w2) := chain T1.out.bel g2
    clear g2 T1 yc0 yc1 yc2 yc3
    go_wp2
    go_ret
    exact ⟨rfl, HB.out⟩

set_option maxHeartbeats 2000000 in
theorem rcmp_out (o a b c d p q r s : Int) (w : World) (h : Both a b c d p q r s) (ho : o < 0 ∨ 2 < o) :
    Calls Tryz.prog 40 #[.int .i64 o, .agg #[.int .i64 a, .int .i64 b, .int .i64 c, .int .i64 d], .agg #[.int .i64 p, .int .i64 q, .int .i64 r, .int .i64 s]] w fun e w' => e = .returned (.int .i64 0) ∧ Below w.heap.size w w' := by
  have T : Hid (Two w ((w.alloc (.cells #[.int .i64 a, .int .i64 b, .int .i64 c, .int .i64 d] 47)).alloc (.cells #[.int .i64 p, .int .i64 q, .int .i64 r, .int .i64 s] 47)) a b c d p q r s) := Two.new w a b c d p q r s
  have H : Hid (Both a b c d p q r s) := h
  clear h
  rcases ho with ho | ho
  · go_enter Tryz.func40, Tryz.ntmps40
    go_wp2_with fail
    refine (rmay_yes _ _ _ _ _ H.out.a).mono ?_
    rintro e w1 ⟨rfl, g1⟩
    have T1 : Hid (Two w w1 a b c d p q r s) := T.out.below g1
    clear g1 T
    have yc0 := T1.out.y.c0
    have yc1 := T1.out.y.c1
    have yc2 := T1.out.y.c2
    have yc3 := T1.out.y.c3
    go_wp2_with fail
    refine (rmay_yes _ _ _ _ _ H.out.b).mono ?_
    rintro e w2 ⟨rfl, g2⟩
    have HB : Hid (Below w.heap.size w w2) := chain T1.out.bel g2
    clear g2 T1 yc0 yc1 yc2 yc3
    go_wp2
    go_ret
    exact ⟨rfl, HB.out⟩
  · have ho' : ¬ o < 0 := by omega
    go_enter Tryz.func40, Tryz.ntmps40
    go_wp2_with fail
    refine (rmay_yes _ _ _ _ _ H.out.a).mono ?_
    rintro e w1 ⟨rfl, g1⟩
    have T1 : Hid (Two w w1 a b c d p q r s) := T.out.below g1
    clear g1 T
    have yc0 := T1.out.y.c0
    have yc1 := T1.out.y.c1
    have yc2 := T1.out.y.c2
    have yc3 := T1.out.y.c3
    go_wp2_with fail
    refine (rmay_yes _ _ _ _ _ H.out.b).mono ?_
    rintro e w2 ⟨rfl, g2⟩
    have HB : Hid (Below w.heap.size w w2) := chain T1.out.bel g2
    clear g2 T1 yc0 yc1 yc2 yc3
    go_wp2
    go_ret
    exact ⟨rfl, HB.out⟩

set_option maxHeartbeats 2000000 in
theorem rcmp_0 (a b c d p q r s : Int) (w : World) (h : Both a b c d p q r s) :
    Calls Tryz.prog 40 #[.int .i64 0, .agg #[.int .i64 a, .int .i64 b, .int .i64 c, .int .i64 d], .agg #[.int .i64 p, .int .i64 q, .int .i64 r, .int .i64 s]] w fun e w' => e = .returned (.int .i64 (lexI a b c d p q r s)) ∧ Below w.heap.size w w' := by
  have T : Hid (Two w ((w.alloc (.cells #[.int .i64 a, .int .i64 b, .int .i64 c, .int .i64 d] 47)).alloc (.cells #[.int .i64 p, .int .i64 q, .int .i64 r, .int .i64 s] 47)) a b c d p q r s) := Two.new w a b c d p q r s
  have H : Hid (Both a b c d p q r s) := h
  clear h
  go_enter Tryz.func40, Tryz.ntmps40
  go_wp2_with fail
  refine (rmay_yes _ _ _ _ _ H.out.a).mono ?_
  rintro e w1 ⟨rfl, g1⟩
  have T1 : Hid (Two w w1 a b c d p q r s) := T.out.below g1
  clear g1 T
  have yc0 := T1.out.y.c0
  have yc1 := T1.out.y.c1
  have yc2 := T1.out.y.c2
  have yc3 := T1.out.y.c3
  go_wp2_with fail
  refine (rmay_yes _ _ _ _ _ H.out.b).mono ?_
  rintro e w2 ⟨rfl, g2⟩
  have T2 : Hid (Two w w2 a b c d p q r s) := T1.out.below g2
  clear g2 T1 yc0 yc1 yc2 yc3
  have xc0 := T2.out.x.c0
  have xc1 := T2.out.x.c1
  have xc2 := T2.out.x.c2
  have xc3 := T2.out.x.c3
  have yc0 := T2.out.y.c0
  have yc1 := T2.out.y.c1
  have yc2 := T2.out.y.c2
  have yc3 := T2.out.y.c3
  go_wp2_with fail
  refine (rlex_any a b c d p q r s _ H.out).mono ?_
  rintro e w3 ⟨rfl, g3⟩
  have HB : Hid (Below w.heap.size w w3) := chain T2.out.bel g3
  clear g3 T2 xc0 xc1 xc2 xc3 yc0 yc1 yc2 yc3
  go_wp2
  go_ret
  exact ⟨rfl, HB.out⟩

theorem rdeg_val (a b c d n : Int) (w : World) (h : May4 a b c d) (hn : n = a + b + c + d) :
    Calls Tryz.prog 62 #[.agg #[.int .i64 a, .int .i64 b, .int .i64 c, .int .i64 d]] w fun e w' => e = .returned (.int .i64 n) ∧ Below w.heap.size w w' := by
  rw [hn]
  exact rdeg_ok a b c d w h
theorem sign_val (n a b k : Int) (w : World) (hn : n = a - b) (hk : k = cmpI a b) : Calls Tryz.prog 63 #[.int .i64 n] w fun e w' => e = .returned (.int .i64 k) ∧ Below w.heap.size w w' := by
  rw [hk]
  exact (sign_any n a b w hn).mono fun _ _ ⟨h1, h2⟩ => ⟨h1, by rw [h2]; exact Below.refl _ _⟩

set_option maxHeartbeats 4000000 in
theorem rcmp_1ne (a b c d p q r s : Int) (w : World) (h : Both a b c d p q r s) (hd : ¬ a + b + c + d = p + q + r + s) :
    Calls Tryz.prog 40 #[.int .i64 1, .agg #[.int .i64 a, .int .i64 b, .int .i64 c, .int .i64 d], .agg #[.int .i64 p, .int .i64 q, .int .i64 r, .int .i64 s]] w fun e w' => e = .returned (.int .i64 (cmpI (a + b + c + d) (p + q + r + s))) ∧ Below w.heap.size w w' := by
  have T : Hid (Two w ((w.alloc (.cells #[.int .i64 a, .int .i64 b, .int .i64 c, .int .i64 d] 47)).alloc (.cells #[.int .i64 p, .int .i64 q, .int .i64 r, .int .i64 s] 47)) a b c d p q r s) := Two.new w a b c d p q r s
  have H : Hid (Both a b c d p q r s) := h
  obtain ⟨⟨⟨a0, a1⟩, ⟨b0, b1⟩, ⟨c0, c1⟩, ⟨d0, d1⟩⟩, ⟨p0, p1⟩, ⟨q0, q1⟩, ⟨r0, r1⟩, ⟨s0, s1⟩⟩ := h
  obtain ⟨dx, edx⟩ : ∃ n, n = a + b + c + d := ⟨_, rfl⟩
  obtain ⟨dy, edy⟩ : ∃ n, n = p + q + r + s := ⟨_, rfl⟩
  have DX : Hid (dx = a + b + c + d) := edx
  have DY : Hid (dy = p + q + r + s) := edy
  have dne : (dx == dy) = false := by rw [beq_eq_false_iff_ne, edx, edy]; exact hd
  have dx0 : 0 ≤ dx := by omega
  have dx1 : dx ≤ 160 := by omega
  have dy0 : 0 ≤ dy := by omega
  have dy1 : dy ≤ 160 := by omega
  obtain ⟨k, hk⟩ : ∃ k, k = cmpI dx dy := ⟨_, rfl⟩
  have HK : Hid (k = cmpI dx dy) := hk
  rw [← edx, ← edy, ← hk]
  clear edx edy hd hk a0 a1 b0 b1 c0 c1 d0 d1 p0 p1 q0 q1 r0 r1 s0 s1
  go_enter Tryz.func40, Tryz.ntmps40
  go_wp2_with fail
  refine (rmay_yes _ _ _ _ _ H.out.a).mono ?_
  rintro e w1 ⟨rfl, g1⟩
  have T1 : Hid (Two w w1 a b c d p q r s) := T.out.below g1
  clear g1 T
  have yc0 := T1.out.y.c0
  have yc1 := T1.out.y.c1
  have yc2 := T1.out.y.c2
  have yc3 := T1.out.y.c3
  go_wp2_with fail
  refine (rmay_yes _ _ _ _ _ H.out.b).mono ?_
  rintro e w2 ⟨rfl, g2⟩
  have T2 : Hid (Two w w2 a b c d p q r s) := T1.out.below g2
  clear g2 T1 yc0 yc1 yc2 yc3
  go_wp2_with fail
  have T3 : Hid (Two w w2 a b c d p q r s) := T2.out
  clear T2
  have rx0 : ∀ n : Wd w2, n.w.cell? ⟨w.heap.size, 0, none⟩ = some (.int .i64 a) := fun n => at23_0 (n.at T3.out.x)
  have rx1 : ∀ n : Wd w2, n.w.cell? ⟨w.heap.size, 1, none⟩ = some (.int .i64 b) := fun n => at23_1 (n.at T3.out.x)
  have rx2 : ∀ n : Wd w2, n.w.cell? ⟨w.heap.size, 2, none⟩ = some (.int .i64 c) := fun n => at23_2 (n.at T3.out.x)
  have rx3 : ∀ n : Wd w2, n.w.cell? ⟨w.heap.size, 3, none⟩ = some (.int .i64 d) := fun n => at23_3 (n.at T3.out.x)
  have ry0 : ∀ n : Wd w2, n.w.cell? ⟨w.heap.size + 1, 0, none⟩ = some (.int .i64 p) := fun n => at23_0 (n.at T3.out.y)
  have ry1 : ∀ n : Wd w2, n.w.cell? ⟨w.heap.size + 1, 1, none⟩ = some (.int .i64 q) := fun n => at23_1 (n.at T3.out.y)
  have ry2 : ∀ n : Wd w2, n.w.cell? ⟨w.heap.size + 1, 2, none⟩ = some (.int .i64 r) := fun n => at23_2 (n.at T3.out.y)
  have ry3 : ∀ n : Wd w2, n.w.cell? ⟨w.heap.size + 1, 3, none⟩ = some (.int .i64 s) := fun n => at23_3 (n.at T3.out.y)
  have wne : Nonempty (Wd w2) := ⟨⟨_, Below.refl _ _⟩⟩
  refine region_wd (by kernel_rfl) (by kernel_rfl) ?_
  repeat (go_big_quiet_step ((first
    | (go_at_call 62; (with_reducible change Calls Tryz.prog 62 #[.agg #[.int .i64 a, .int .i64 b, .int .i64 c, .int .i64 d]] _ _); exact wd_of (rdeg_val a b c d dx _ H.out.a DX.out))
    | (go_at_call 62; (with_reducible change Calls Tryz.prog 62 #[.agg #[.int .i64 p, .int .i64 q, .int .i64 r, .int .i64 s]] _ _); exact wd_of (rdeg_val p q r s dy _ H.out.b DY.out)))))
  refine wpQuiet_nil ?_
  intro _ hw
  obtain ⟨nq, hq⟩ := hw
  subst hq
  have T4 : Hid (Two w nq.w a b c d p q r s) := T3.out.below nq.h
  clear wne rx0 rx1 rx2 rx3 ry0 ry1 ry2 ry3 T3
  obtain ⟨w4, h4⟩ : ∃ w4, w4 = nq.w := ⟨_, rfl⟩
  rw [← h4] at T4
  rw [← h4]
  clear h4 nq
  go_wp2_with fail
  have T3 : Hid (Two w w4 a b c d p q r s) := T4.out
  clear T4
  have rx0 : ∀ n : Wd w4, n.w.cell? ⟨w.heap.size, 0, none⟩ = some (.int .i64 a) := fun n => at23_0 (n.at T3.out.x)
  have rx1 : ∀ n : Wd w4, n.w.cell? ⟨w.heap.size, 1, none⟩ = some (.int .i64 b) := fun n => at23_1 (n.at T3.out.x)
  have rx2 : ∀ n : Wd w4, n.w.cell? ⟨w.heap.size, 2, none⟩ = some (.int .i64 c) := fun n => at23_2 (n.at T3.out.x)
  have rx3 : ∀ n : Wd w4, n.w.cell? ⟨w.heap.size, 3, none⟩ = some (.int .i64 d) := fun n => at23_3 (n.at T3.out.x)
  have ry0 : ∀ n : Wd w4, n.w.cell? ⟨w.heap.size + 1, 0, none⟩ = some (.int .i64 p) := fun n => at23_0 (n.at T3.out.y)
  have ry1 : ∀ n : Wd w4, n.w.cell? ⟨w.heap.size + 1, 1, none⟩ = some (.int .i64 q) := fun n => at23_1 (n.at T3.out.y)
  have ry2 : ∀ n : Wd w4, n.w.cell? ⟨w.heap.size + 1, 2, none⟩ = some (.int .i64 r) := fun n => at23_2 (n.at T3.out.y)
  have ry3 : ∀ n : Wd w4, n.w.cell? ⟨w.heap.size + 1, 3, none⟩ = some (.int .i64 s) := fun n => at23_3 (n.at T3.out.y)
  have wne : Nonempty (Wd w4) := ⟨⟨_, Below.refl _ _⟩⟩
  refine region_wd (by kernel_rfl) (by kernel_rfl) ?_
  repeat (go_big_quiet_step ((first
    | (go_at_call 62; (with_reducible change Calls Tryz.prog 62 #[.agg #[.int .i64 a, .int .i64 b, .int .i64 c, .int .i64 d]] _ _); exact wd_of (rdeg_val a b c d dx _ H.out.a DX.out))
    | (go_at_call 62; (with_reducible change Calls Tryz.prog 62 #[.agg #[.int .i64 p, .int .i64 q, .int .i64 r, .int .i64 s]] _ _); exact wd_of (rdeg_val p q r s dy _ H.out.b DY.out))
    | (go_at_call 63; exact wd_of (sign_val _ dx dy k _ rfl HK.out)))))
  refine wpQuiet_nil ?_
  intro _ hw
  obtain ⟨nq, hq⟩ := hw
  subst hq
  have T4 : Hid (Two w nq.w a b c d p q r s) := T3.out.below nq.h
  clear wne rx0 rx1 rx2 rx3 ry0 ry1 ry2 ry3 T3
  obtain ⟨w5, h5⟩ : ∃ w5, w5 = nq.w := ⟨_, rfl⟩
  rw [← h5] at T4
  rw [← h5]
  clear h5 nq
  go_wp2
  go_ret
  exact ⟨rfl, T4.out.bel⟩

set_option maxHeartbeats 4000000 in
theorem rcmp_2ne (a b c d p q r s : Int) (w : World) (h : Both a b c d p q r s) (hd : ¬ a + b + c + d = p + q + r + s) :
    Calls Tryz.prog 40 #[.int .i64 2, .agg #[.int .i64 a, .int .i64 b, .int .i64 c, .int .i64 d], .agg #[.int .i64 p, .int .i64 q, .int .i64 r, .int .i64 s]] w fun e w' => e = .returned (.int .i64 (cmpI (a + b + c + d) (p + q + r + s))) ∧ Below w.heap.size w w' := by
  have T : Hid (Two w ((w.alloc (.cells #[.int .i64 a, .int .i64 b, .int .i64 c, .int .i64 d] 47)).alloc (.cells #[.int .i64 p, .int .i64 q, .int .i64 r, .int .i64 s] 47)) a b c d p q r s) := Two.new w a b c d p q r s
  have H : Hid (Both a b c d p q r s) := h
  obtain ⟨⟨⟨a0, a1⟩, ⟨b0, b1⟩, ⟨c0, c1⟩, ⟨d0, d1⟩⟩, ⟨p0, p1⟩, ⟨q0, q1⟩, ⟨r0, r1⟩, ⟨s0, s1⟩⟩ := h
  obtain ⟨dx, edx⟩ : ∃ n, n = a + b + c + d := ⟨_, rfl⟩
  obtain ⟨dy, edy⟩ : ∃ n, n = p + q + r + s := ⟨_, rfl⟩
  have DX : Hid (dx = a + b + c + d) := edx
  have DY : Hid (dy = p + q + r + s) := edy
  have dne : (dx == dy) = false := by rw [beq_eq_false_iff_ne, edx, edy]; exact hd
  have dx0 : 0 ≤ dx := by omega
  have dx1 : dx ≤ 160 := by omega
  have dy0 : 0 ≤ dy := by omega
  have dy1 : dy ≤ 160 := by omega
  obtain ⟨k, hk⟩ : ∃ k, k = cmpI dx dy := ⟨_, rfl⟩
  have HK : Hid (k = cmpI dx dy) := hk
  rw [← edx, ← edy, ← hk]
  clear edx edy hd hk a0 a1 b0 b1 c0 c1 d0 d1 p0 p1 q0 q1 r0 r1 s0 s1
  go_enter Tryz.func40, Tryz.ntmps40
  go_wp2_with fail
  refine (rmay_yes _ _ _ _ _ H.out.a).mono ?_
  rintro e w1 ⟨rfl, g1⟩
  have T1 : Hid (Two w w1 a b c d p q r s) := T.out.below g1
  clear g1 T
  have yc0 := T1.out.y.c0
  have yc1 := T1.out.y.c1
  have yc2 := T1.out.y.c2
  have yc3 := T1.out.y.c3
  go_wp2_with fail
  refine (rmay_yes _ _ _ _ _ H.out.b).mono ?_
  rintro e w2 ⟨rfl, g2⟩
  have T2 : Hid (Two w w2 a b c d p q r s) := T1.out.below g2
  clear g2 T1 yc0 yc1 yc2 yc3
  go_wp2_with fail
  have T3 : Hid (Two w w2 a b c d p q r s) := T2.out
  clear T2
  have rx0 : ∀ n : Wd w2, n.w.cell? ⟨w.heap.size, 0, none⟩ = some (.int .i64 a) := fun n => at23_0 (n.at T3.out.x)
  have rx1 : ∀ n : Wd w2, n.w.cell? ⟨w.heap.size, 1, none⟩ = some (.int .i64 b) := fun n => at23_1 (n.at T3.out.x)
  have rx2 : ∀ n : Wd w2, n.w.cell? ⟨w.heap.size, 2, none⟩ = some (.int .i64 c) := fun n => at23_2 (n.at T3.out.x)
  have rx3 : ∀ n : Wd w2, n.w.cell? ⟨w.heap.size, 3, none⟩ = some (.int .i64 d) := fun n => at23_3 (n.at T3.out.x)
  have ry0 : ∀ n : Wd w2, n.w.cell? ⟨w.heap.size + 1, 0, none⟩ = some (.int .i64 p) := fun n => at23_0 (n.at T3.out.y)
  have ry1 : ∀ n : Wd w2, n.w.cell? ⟨w.heap.size + 1, 1, none⟩ = some (.int .i64 q) := fun n => at23_1 (n.at T3.out.y)
  have ry2 : ∀ n : Wd w2, n.w.cell? ⟨w.heap.size + 1, 2, none⟩ = some (.int .i64 r) := fun n => at23_2 (n.at T3.out.y)
  have ry3 : ∀ n : Wd w2, n.w.cell? ⟨w.heap.size + 1, 3, none⟩ = some (.int .i64 s) := fun n => at23_3 (n.at T3.out.y)
  have wne : Nonempty (Wd w2) := ⟨⟨_, Below.refl _ _⟩⟩
  refine region_wd (by kernel_rfl) (by kernel_rfl) ?_
  repeat (go_big_quiet_step ((first
    | (go_at_call 62; (with_reducible change Calls Tryz.prog 62 #[.agg #[.int .i64 a, .int .i64 b, .int .i64 c, .int .i64 d]] _ _); exact wd_of (rdeg_val a b c d dx _ H.out.a DX.out))
    | (go_at_call 62; (with_reducible change Calls Tryz.prog 62 #[.agg #[.int .i64 p, .int .i64 q, .int .i64 r, .int .i64 s]] _ _); exact wd_of (rdeg_val p q r s dy _ H.out.b DY.out)))))
  refine wpQuiet_nil ?_
  intro _ hw
  obtain ⟨nq, hq⟩ := hw
  subst hq
  have T4 : Hid (Two w nq.w a b c d p q r s) := T3.out.below nq.h
  clear wne rx0 rx1 rx2 rx3 ry0 ry1 ry2 ry3 T3
  obtain ⟨w4, h4⟩ : ∃ w4, w4 = nq.w := ⟨_, rfl⟩
  rw [← h4] at T4
  rw [← h4]
  clear h4 nq
  go_wp2_with fail
  have T3 : Hid (Two w w4 a b c d p q r s) := T4.out
  clear T4
  have rx0 : ∀ n : Wd w4, n.w.cell? ⟨w.heap.size, 0, none⟩ = some (.int .i64 a) := fun n => at23_0 (n.at T3.out.x)
  have rx1 : ∀ n : Wd w4, n.w.cell? ⟨w.heap.size, 1, none⟩ = some (.int .i64 b) := fun n => at23_1 (n.at T3.out.x)
  have rx2 : ∀ n : Wd w4, n.w.cell? ⟨w.heap.size, 2, none⟩ = some (.int .i64 c) := fun n => at23_2 (n.at T3.out.x)
  have rx3 : ∀ n : Wd w4, n.w.cell? ⟨w.heap.size, 3, none⟩ = some (.int .i64 d) := fun n => at23_3 (n.at T3.out.x)
  have ry0 : ∀ n : Wd w4, n.w.cell? ⟨w.heap.size + 1, 0, none⟩ = some (.int .i64 p) := fun n => at23_0 (n.at T3.out.y)
  have ry1 : ∀ n : Wd w4, n.w.cell? ⟨w.heap.size + 1, 1, none⟩ = some (.int .i64 q) := fun n => at23_1 (n.at T3.out.y)
  have ry2 : ∀ n : Wd w4, n.w.cell? ⟨w.heap.size + 1, 2, none⟩ = some (.int .i64 r) := fun n => at23_2 (n.at T3.out.y)
  have ry3 : ∀ n : Wd w4, n.w.cell? ⟨w.heap.size + 1, 3, none⟩ = some (.int .i64 s) := fun n => at23_3 (n.at T3.out.y)
  have wne : Nonempty (Wd w4) := ⟨⟨_, Below.refl _ _⟩⟩
  refine region_wd (by kernel_rfl) (by kernel_rfl) ?_
  repeat (go_big_quiet_step ((first
    | (go_at_call 62; (with_reducible change Calls Tryz.prog 62 #[.agg #[.int .i64 a, .int .i64 b, .int .i64 c, .int .i64 d]] _ _); exact wd_of (rdeg_val a b c d dx _ H.out.a DX.out))
    | (go_at_call 62; (with_reducible change Calls Tryz.prog 62 #[.agg #[.int .i64 p, .int .i64 q, .int .i64 r, .int .i64 s]] _ _); exact wd_of (rdeg_val p q r s dy _ H.out.b DY.out))
    | (go_at_call 63; exact wd_of (sign_val _ dx dy k _ rfl HK.out)))))
  refine wpQuiet_nil ?_
  intro _ hw
  obtain ⟨nq, hq⟩ := hw
  subst hq
  have T4 : Hid (Two w nq.w a b c d p q r s) := T3.out.below nq.h
  clear wne rx0 rx1 rx2 rx3 ry0 ry1 ry2 ry3 T3
  obtain ⟨w5, h5⟩ : ∃ w5, w5 = nq.w := ⟨_, rfl⟩
  rw [← h5] at T4
  rw [← h5]
  clear h5 nq
  go_wp2
  go_ret
  exact ⟨rfl, T4.out.bel⟩

end Go.Proofs.YtnedghhcidohnaaGreat.Mn

/-! The reference's Cmp, of the same degree; all of it. -/
namespace Go.Proofs.YtnedghhcidohnaaGreat.Mn
open Go.RowKit

set_option maxHeartbeats 4000000 in
theorem rcmp_1eq (a b c d p q r s : Int) (w : World) (h : Both a b c d p q r s) (hd : a + b + c + d = p + q + r + s) :
    Calls Tryz.prog 40 #[.int .i64 1, .agg #[.int .i64 a, .int .i64 b, .int .i64 c, .int .i64 d], .agg #[.int .i64 p, .int .i64 q, .int .i64 r, .int .i64 s]] w fun e w' => e = .returned (.int .i64 (lexI a b c d p q r s)) ∧ Below w.heap.size w w' := by
  have T : Hid (Two w ((w.alloc (.cells #[.int .i64 a, .int .i64 b, .int .i64 c, .int .i64 d] 47)).alloc (.cells #[.int .i64 p, .int .i64 q, .int .i64 r, .int .i64 s] 47)) a b c d p q r s) := Two.new w a b c d p q r s
  have H : Hid (Both a b c d p q r s) := h
  obtain ⟨⟨⟨a0, a1⟩, ⟨b0, b1⟩, ⟨c0, c1⟩, ⟨d0, d1⟩⟩, ⟨p0, p1⟩, ⟨q0, q1⟩, ⟨r0, r1⟩, ⟨s0, s1⟩⟩ := h
  obtain ⟨dx, edx⟩ : ∃ n, n = a + b + c + d := ⟨_, rfl⟩
  obtain ⟨dy, edy⟩ : ∃ n, n = p + q + r + s := ⟨_, rfl⟩
  have DX : Hid (dx = a + b + c + d) := edx
  have DY : Hid (dy = p + q + r + s) := edy
  have deq : (dx == dy) = true := by rw [beq_iff_eq, edx, edy]; exact hd
  clear edx edy hd a0 a1 b0 b1 c0 c1 d0 d1 p0 p1 q0 q1 r0 r1 s0 s1
  go_enter Tryz.func40, Tryz.ntmps40
  go_wp2_with fail
  refine (rmay_yes _ _ _ _ _ H.out.a).mono ?_
  rintro e w1 ⟨rfl, g1⟩
  have T1 : Hid (Two w w1 a b c d p q r s) := T.out.below g1
  clear g1 T
  have yc0 := T1.out.y.c0
  have yc1 := T1.out.y.c1
  have yc2 := T1.out.y.c2
  have yc3 := T1.out.y.c3
  go_wp2_with fail
  refine (rmay_yes _ _ _ _ _ H.out.b).mono ?_
  rintro e w2 ⟨rfl, g2⟩
  have T2 : Hid (Two w w2 a b c d p q r s) := T1.out.below g2
  clear g2 T1 yc0 yc1 yc2 yc3
  go_wp2_with fail
  have T3 : Hid (Two w w2 a b c d p q r s) := T2.out
  clear T2
  have rx0 : ∀ n : Wd w2, n.w.cell? ⟨w.heap.size, 0, none⟩ = some (.int .i64 a) := fun n => at23_0 (n.at T3.out.x)
  have rx1 : ∀ n : Wd w2, n.w.cell? ⟨w.heap.size, 1, none⟩ = some (.int .i64 b) := fun n => at23_1 (n.at T3.out.x)
  have rx2 : ∀ n : Wd w2, n.w.cell? ⟨w.heap.size, 2, none⟩ = some (.int .i64 c) := fun n => at23_2 (n.at T3.out.x)
  have rx3 : ∀ n : Wd w2, n.w.cell? ⟨w.heap.size, 3, none⟩ = some (.int .i64 d) := fun n => at23_3 (n.at T3.out.x)
  have ry0 : ∀ n : Wd w2, n.w.cell? ⟨w.heap.size + 1, 0, none⟩ = some (.int .i64 p) := fun n => at23_0 (n.at T3.out.y)
  have ry1 : ∀ n : Wd w2, n.w.cell? ⟨w.heap.size + 1, 1, none⟩ = some (.int .i64 q) := fun n => at23_1 (n.at T3.out.y)
  have ry2 : ∀ n : Wd w2, n.w.cell? ⟨w.heap.size + 1, 2, none⟩ = some (.int .i64 r) := fun n => at23_2 (n.at T3.out.y)
  have ry3 : ∀ n : Wd w2, n.w.cell? ⟨w.heap.size + 1, 3, none⟩ = some (.int .i64 s) := fun n => at23_3 (n.at T3.out.y)
  have wne : Nonempty (Wd w2) := ⟨⟨_, Below.refl _ _⟩⟩
  refine region_wd (by kernel_rfl) (by kernel_rfl) ?_
  repeat (go_big_quiet_step ((first
    | (go_at_call 62; (with_reducible change Calls Tryz.prog 62 #[.agg #[.int .i64 a, .int .i64 b, .int .i64 c, .int .i64 d]] _ _); exact wd_of (rdeg_val a b c d dx _ H.out.a DX.out))
    | (go_at_call 62; (with_reducible change Calls Tryz.prog 62 #[.agg #[.int .i64 p, .int .i64 q, .int .i64 r, .int .i64 s]] _ _); exact wd_of (rdeg_val p q r s dy _ H.out.b DY.out)))))
  refine wpQuiet_nil ?_
  intro _ hw
  obtain ⟨nq, hq⟩ := hw
  subst hq
  have T4 : Hid (Two w nq.w a b c d p q r s) := T3.out.below nq.h
  clear wne rx0 rx1 rx2 rx3 ry0 ry1 ry2 ry3 T3
  obtain ⟨w4, h4⟩ : ∃ w4, w4 = nq.w := ⟨_, rfl⟩
  rw [← h4] at T4
  rw [← h4]
  clear h4 nq
  have xc0 := T4.out.x.c0
  have xc1 := T4.out.x.c1
  have xc2 := T4.out.x.c2
  have xc3 := T4.out.x.c3
  have yc0 := T4.out.y.c0
  have yc1 := T4.out.y.c1
  have yc2 := T4.out.y.c2
  have yc3 := T4.out.y.c3
  go_wp2_with fail
  refine (rlex_any a b c d p q r s _ H.out).mono ?_
  rintro e w5 ⟨rfl, g5⟩
  have HB : Hid (Below w.heap.size w w5) := chain T4.out.bel g5
  clear g5 T4 xc0 xc1 xc2 xc3 yc0 yc1 yc2 yc3
  go_wp2
  go_ret
  exact ⟨rfl, HB.out⟩

set_option maxHeartbeats 4000000 in
theorem rcmp_2eq0 (a b c d p q r s : Int) (w : World) (h : Both a b c d p q r s) (hd : a + b + c + d = p + q + r + s) (ed : d ≠ s) :
    Calls Tryz.prog 40 #[.int .i64 2, .agg #[.int .i64 a, .int .i64 b, .int .i64 c, .int .i64 d], .agg #[.int .i64 p, .int .i64 q, .int .i64 r, .int .i64 s]] w fun e w' => e = .returned (.int .i64 (cmpI s d)) ∧ Below w.heap.size w w' := by
  have gd : (d == s) = false := by simp [ed]
  clear ed
  have T : Hid (Two w ((w.alloc (.cells #[.int .i64 a, .int .i64 b, .int .i64 c, .int .i64 d] 47)).alloc (.cells #[.int .i64 p, .int .i64 q, .int .i64 r, .int .i64 s] 47)) a b c d p q r s) := Two.new w a b c d p q r s
  have H : Hid (Both a b c d p q r s) := h
  obtain ⟨⟨⟨a0, a1⟩, ⟨b0, b1⟩, ⟨c0, c1⟩, ⟨d0, d1⟩⟩, ⟨p0, p1⟩, ⟨q0, q1⟩, ⟨r0, r1⟩, ⟨s0, s1⟩⟩ := h
  obtain ⟨dx, edx⟩ : ∃ n, n = a + b + c + d := ⟨_, rfl⟩
  obtain ⟨dy, edy⟩ : ∃ n, n = p + q + r + s := ⟨_, rfl⟩
  have DX : Hid (dx = a + b + c + d) := edx
  have DY : Hid (dy = p + q + r + s) := edy
  have deq : (dx == dy) = true := by rw [beq_iff_eq, edx, edy]; exact hd
  clear edx edy hd
  go_enter Tryz.func40, Tryz.ntmps40
  go_wp2_with fail
  refine (rmay_yes _ _ _ _ _ H.out.a).mono ?_
  rintro e w1 ⟨rfl, g1⟩
  have T1 : Hid (Two w w1 a b c d p q r s) := T.out.below g1
  clear g1 T
  have yc0 := T1.out.y.c0
  have yc1 := T1.out.y.c1
  have yc2 := T1.out.y.c2
  have yc3 := T1.out.y.c3
  go_wp2_with fail
  refine (rmay_yes _ _ _ _ _ H.out.b).mono ?_
  rintro e w2 ⟨rfl, g2⟩
  have T2 : Hid (Two w w2 a b c d p q r s) := T1.out.below g2
  clear g2 T1 yc0 yc1 yc2 yc3
  go_wp2_with fail
  have T3 : Hid (Two w w2 a b c d p q r s) := T2.out
  clear T2
  have rx0 : ∀ n : Wd w2, n.w.cell? ⟨w.heap.size, 0, none⟩ = some (.int .i64 a) := fun n => at23_0 (n.at T3.out.x)
  have rx1 : ∀ n : Wd w2, n.w.cell? ⟨w.heap.size, 1, none⟩ = some (.int .i64 b) := fun n => at23_1 (n.at T3.out.x)
  have rx2 : ∀ n : Wd w2, n.w.cell? ⟨w.heap.size, 2, none⟩ = some (.int .i64 c) := fun n => at23_2 (n.at T3.out.x)
  have rx3 : ∀ n : Wd w2, n.w.cell? ⟨w.heap.size, 3, none⟩ = some (.int .i64 d) := fun n => at23_3 (n.at T3.out.x)
  have ry0 : ∀ n : Wd w2, n.w.cell? ⟨w.heap.size + 1, 0, none⟩ = some (.int .i64 p) := fun n => at23_0 (n.at T3.out.y)
  have ry1 : ∀ n : Wd w2, n.w.cell? ⟨w.heap.size + 1, 1, none⟩ = some (.int .i64 q) := fun n => at23_1 (n.at T3.out.y)
  have ry2 : ∀ n : Wd w2, n.w.cell? ⟨w.heap.size + 1, 2, none⟩ = some (.int .i64 r) := fun n => at23_2 (n.at T3.out.y)
  have ry3 : ∀ n : Wd w2, n.w.cell? ⟨w.heap.size + 1, 3, none⟩ = some (.int .i64 s) := fun n => at23_3 (n.at T3.out.y)
  have wne : Nonempty (Wd w2) := ⟨⟨_, Below.refl _ _⟩⟩
  refine region_wd (by kernel_rfl) (by kernel_rfl) ?_
  repeat (go_big_quiet_step ((first
    | (go_at_call 62; (with_reducible change Calls Tryz.prog 62 #[.agg #[.int .i64 a, .int .i64 b, .int .i64 c, .int .i64 d]] _ _); exact wd_of (rdeg_val a b c d dx _ H.out.a DX.out))
    | (go_at_call 62; (with_reducible change Calls Tryz.prog 62 #[.agg #[.int .i64 p, .int .i64 q, .int .i64 r, .int .i64 s]] _ _); exact wd_of (rdeg_val p q r s dy _ H.out.b DY.out)))))
  refine wpQuiet_nil ?_
  intro _ hw
  obtain ⟨nq, hq⟩ := hw
  subst hq
  have T4 : Hid (Two w nq.w a b c d p q r s) := T3.out.below nq.h
  clear wne rx0 rx1 rx2 rx3 ry0 ry1 ry2 ry3 T3
  obtain ⟨w4, h4⟩ : ∃ w4, w4 = nq.w := ⟨_, rfl⟩
  rw [← h4] at T4
  rw [← h4]
  clear h4 nq
  have xc0 := T4.out.x.c0
  have xc1 := T4.out.x.c1
  have xc2 := T4.out.x.c2
  have xc3 := T4.out.x.c3
  have yc0 := T4.out.y.c0
  have yc1 := T4.out.y.c1
  have yc2 := T4.out.y.c2
  have yc3 := T4.out.y.c3
  go_wp2
  refine wp_loop_rounds 5 ?_
  rw [rounds_succ]
  go_wp2
  go_quiet (fail)
  go_wp2
  go_quiet ((go_at_call 63; exact (sign_any _ s d _ rfl).mono fun _ _ ⟨he, hw⟩ => ⟨he, _, hw⟩))
  go_wp2
  go_ret
  refine ⟨rfl, ?_⟩
  repeat (first | exact T4.out.bel | refine below_drewN ?_ _)

set_option maxHeartbeats 4000000 in
theorem rcmp_2eq1 (a b c d p q r s : Int) (w : World) (h : Both a b c d p q r s) (hd : a + b + c + d = p + q + r + s) (ed : d = s) (ec : c ≠ r) :
    Calls Tryz.prog 40 #[.int .i64 2, .agg #[.int .i64 a, .int .i64 b, .int .i64 c, .int .i64 d], .agg #[.int .i64 p, .int .i64 q, .int .i64 r, .int .i64 s]] w fun e w' => e = .returned (.int .i64 (cmpI r c)) ∧ Below w.heap.size w w' := by
  have gd : (d == s) = true := by simp [ed]
  have gc : (c == r) = false := by simp [ec]
  clear ed ec
  have T : Hid (Two w ((w.alloc (.cells #[.int .i64 a, .int .i64 b, .int .i64 c, .int .i64 d] 47)).alloc (.cells #[.int .i64 p, .int .i64 q, .int .i64 r, .int .i64 s] 47)) a b c d p q r s) := Two.new w a b c d p q r s
  have H : Hid (Both a b c d p q r s) := h
  obtain ⟨⟨⟨a0, a1⟩, ⟨b0, b1⟩, ⟨c0, c1⟩, ⟨d0, d1⟩⟩, ⟨p0, p1⟩, ⟨q0, q1⟩, ⟨r0, r1⟩, ⟨s0, s1⟩⟩ := h
  obtain ⟨dx, edx⟩ : ∃ n, n = a + b + c + d := ⟨_, rfl⟩
  obtain ⟨dy, edy⟩ : ∃ n, n = p + q + r + s := ⟨_, rfl⟩
  have DX : Hid (dx = a + b + c + d) := edx
  have DY : Hid (dy = p + q + r + s) := edy
  have deq : (dx == dy) = true := by rw [beq_iff_eq, edx, edy]; exact hd
  clear edx edy hd
  go_enter Tryz.func40, Tryz.ntmps40
  go_wp2_with fail
  refine (rmay_yes _ _ _ _ _ H.out.a).mono ?_
  rintro e w1 ⟨rfl, g1⟩
  have T1 : Hid (Two w w1 a b c d p q r s) := T.out.below g1
  clear g1 T
  have yc0 := T1.out.y.c0
  have yc1 := T1.out.y.c1
  have yc2 := T1.out.y.c2
  have yc3 := T1.out.y.c3
  go_wp2_with fail
  refine (rmay_yes _ _ _ _ _ H.out.b).mono ?_
  rintro e w2 ⟨rfl, g2⟩
  have T2 : Hid (Two w w2 a b c d p q r s) := T1.out.below g2
  clear g2 T1 yc0 yc1 yc2 yc3
  go_wp2_with fail
  have T3 : Hid (Two w w2 a b c d p q r s) := T2.out
  clear T2
  have rx0 : ∀ n : Wd w2, n.w.cell? ⟨w.heap.size, 0, none⟩ = some (.int .i64 a) := fun n => at23_0 (n.at T3.out.x)
  have rx1 : ∀ n : Wd w2, n.w.cell? ⟨w.heap.size, 1, none⟩ = some (.int .i64 b) := fun n => at23_1 (n.at T3.out.x)
  have rx2 : ∀ n : Wd w2, n.w.cell? ⟨w.heap.size, 2, none⟩ = some (.int .i64 c) := fun n => at23_2 (n.at T3.out.x)
  have rx3 : ∀ n : Wd w2, n.w.cell? ⟨w.heap.size, 3, none⟩ = some (.int .i64 d) := fun n => at23_3 (n.at T3.out.x)
  have ry0 : ∀ n : Wd w2, n.w.cell? ⟨w.heap.size + 1, 0, none⟩ = some (.int .i64 p) := fun n => at23_0 (n.at T3.out.y)
  have ry1 : ∀ n : Wd w2, n.w.cell? ⟨w.heap.size + 1, 1, none⟩ = some (.int .i64 q) := fun n => at23_1 (n.at T3.out.y)
  have ry2 : ∀ n : Wd w2, n.w.cell? ⟨w.heap.size + 1, 2, none⟩ = some (.int .i64 r) := fun n => at23_2 (n.at T3.out.y)
  have ry3 : ∀ n : Wd w2, n.w.cell? ⟨w.heap.size + 1, 3, none⟩ = some (.int .i64 s) := fun n => at23_3 (n.at T3.out.y)
  have wne : Nonempty (Wd w2) := ⟨⟨_, Below.refl _ _⟩⟩
  refine region_wd (by kernel_rfl) (by kernel_rfl) ?_
  repeat (go_big_quiet_step ((first
    | (go_at_call 62; (with_reducible change Calls Tryz.prog 62 #[.agg #[.int .i64 a, .int .i64 b, .int .i64 c, .int .i64 d]] _ _); exact wd_of (rdeg_val a b c d dx _ H.out.a DX.out))
    | (go_at_call 62; (with_reducible change Calls Tryz.prog 62 #[.agg #[.int .i64 p, .int .i64 q, .int .i64 r, .int .i64 s]] _ _); exact wd_of (rdeg_val p q r s dy _ H.out.b DY.out)))))
  refine wpQuiet_nil ?_
  intro _ hw
  obtain ⟨nq, hq⟩ := hw
  subst hq
  have T4 : Hid (Two w nq.w a b c d p q r s) := T3.out.below nq.h
  clear wne rx0 rx1 rx2 rx3 ry0 ry1 ry2 ry3 T3
  obtain ⟨w4, h4⟩ : ∃ w4, w4 = nq.w := ⟨_, rfl⟩
  rw [← h4] at T4
  rw [← h4]
  clear h4 nq
  have xc0 := T4.out.x.c0
  have xc1 := T4.out.x.c1
  have xc2 := T4.out.x.c2
  have xc3 := T4.out.x.c3
  have yc0 := T4.out.y.c0
  have yc1 := T4.out.y.c1
  have yc2 := T4.out.y.c2
  have yc3 := T4.out.y.c3
  go_wp2
  refine wp_loop_rounds 5 ?_
  rw [rounds_succ]
  go_wp2
  go_quiet (fail)
  go_wp2
  rw [rounds_succ]
  go_wp2
  go_quiet (fail)
  go_wp2
  go_quiet ((go_at_call 63; exact (sign_any _ r c _ rfl).mono fun _ _ ⟨he, hw⟩ => ⟨he, _, hw⟩))
  go_wp2
  go_ret
  refine ⟨rfl, ?_⟩
  repeat (first | exact T4.out.bel | refine below_drewN ?_ _)

set_option maxHeartbeats 4000000 in
theorem rcmp_2eq2 (a b c d p q r s : Int) (w : World) (h : Both a b c d p q r s) (hd : a + b + c + d = p + q + r + s) (ed : d = s) (ec : c = r) (eb : b ≠ q) :
    Calls Tryz.prog 40 #[.int .i64 2, .agg #[.int .i64 a, .int .i64 b, .int .i64 c, .int .i64 d], .agg #[.int .i64 p, .int .i64 q, .int .i64 r, .int .i64 s]] w fun e w' => e = .returned (.int .i64 (cmpI q b)) ∧ Below w.heap.size w w' := by
  have gd : (d == s) = true := by simp [ed]
  have gc : (c == r) = true := by simp [ec]
  have gb : (b == q) = false := by simp [eb]
  clear ed ec eb
  have T : Hid (Two w ((w.alloc (.cells #[.int .i64 a, .int .i64 b, .int .i64 c, .int .i64 d] 47)).alloc (.cells #[.int .i64 p, .int .i64 q, .int .i64 r, .int .i64 s] 47)) a b c d p q r s) := Two.new w a b c d p q r s
  have H : Hid (Both a b c d p q r s) := h
  obtain ⟨⟨⟨a0, a1⟩, ⟨b0, b1⟩, ⟨c0, c1⟩, ⟨d0, d1⟩⟩, ⟨p0, p1⟩, ⟨q0, q1⟩, ⟨r0, r1⟩, ⟨s0, s1⟩⟩ := h
  obtain ⟨dx, edx⟩ : ∃ n, n = a + b + c + d := ⟨_, rfl⟩
  obtain ⟨dy, edy⟩ : ∃ n, n = p + q + r + s := ⟨_, rfl⟩
  have DX : Hid (dx = a + b + c + d) := edx
  have DY : Hid (dy = p + q + r + s) := edy
  have deq : (dx == dy) = true := by rw [beq_iff_eq, edx, edy]; exact hd
  clear edx edy hd
  go_enter Tryz.func40, Tryz.ntmps40
  go_wp2_with fail
  refine (rmay_yes _ _ _ _ _ H.out.a).mono ?_
  rintro e w1 ⟨rfl, g1⟩
  have T1 : Hid (Two w w1 a b c d p q r s) := T.out.below g1
  clear g1 T
  have yc0 := T1.out.y.c0
  have yc1 := T1.out.y.c1
  have yc2 := T1.out.y.c2
  have yc3 := T1.out.y.c3
  go_wp2_with fail
  refine (rmay_yes _ _ _ _ _ H.out.b).mono ?_
  rintro e w2 ⟨rfl, g2⟩
  have T2 : Hid (Two w w2 a b c d p q r s) := T1.out.below g2
  clear g2 T1 yc0 yc1 yc2 yc3
  go_wp2_with fail
  have T3 : Hid (Two w w2 a b c d p q r s) := T2.out
  clear T2
  have rx0 : ∀ n : Wd w2, n.w.cell? ⟨w.heap.size, 0, none⟩ = some (.int .i64 a) := fun n => at23_0 (n.at T3.out.x)
  have rx1 : ∀ n : Wd w2, n.w.cell? ⟨w.heap.size, 1, none⟩ = some (.int .i64 b) := fun n => at23_1 (n.at T3.out.x)
  have rx2 : ∀ n : Wd w2, n.w.cell? ⟨w.heap.size, 2, none⟩ = some (.int .i64 c) := fun n => at23_2 (n.at T3.out.x)
  have rx3 : ∀ n : Wd w2, n.w.cell? ⟨w.heap.size, 3, none⟩ = some (.int .i64 d) := fun n => at23_3 (n.at T3.out.x)
  have ry0 : ∀ n : Wd w2, n.w.cell? ⟨w.heap.size + 1, 0, none⟩ = some (.int .i64 p) := fun n => at23_0 (n.at T3.out.y)
  have ry1 : ∀ n : Wd w2, n.w.cell? ⟨w.heap.size + 1, 1, none⟩ = some (.int .i64 q) := fun n => at23_1 (n.at T3.out.y)
  have ry2 : ∀ n : Wd w2, n.w.cell? ⟨w.heap.size + 1, 2, none⟩ = some (.int .i64 r) := fun n => at23_2 (n.at T3.out.y)
  have ry3 : ∀ n : Wd w2, n.w.cell? ⟨w.heap.size + 1, 3, none⟩ = some (.int .i64 s) := fun n => at23_3 (n.at T3.out.y)
  have wne : Nonempty (Wd w2) := ⟨⟨_, Below.refl _ _⟩⟩
  refine region_wd (by kernel_rfl) (by kernel_rfl) ?_
  repeat (go_big_quiet_step ((first
    | (go_at_call 62; (with_reducible change Calls Tryz.prog 62 #[.agg #[.int .i64 a, .int .i64 b, .int .i64 c, .int .i64 d]] _ _); exact wd_of (rdeg_val a b c d dx _ H.out.a DX.out))
    | (go_at_call 62; (with_reducible change Calls Tryz.prog 62 #[.agg #[.int .i64 p, .int .i64 q, .int .i64 r, .int .i64 s]] _ _); exact wd_of (rdeg_val p q r s dy _ H.out.b DY.out)))))
  refine wpQuiet_nil ?_
  intro _ hw
  obtain ⟨nq, hq⟩ := hw
  subst hq
  have T4 : Hid (Two w nq.w a b c d p q r s) := T3.out.below nq.h
  clear wne rx0 rx1 rx2 rx3 ry0 ry1 ry2 ry3 T3
  obtain ⟨w4, h4⟩ : ∃ w4, w4 = nq.w := ⟨_, rfl⟩
  rw [← h4] at T4
  rw [← h4]
  clear h4 nq
  have xc0 := T4.out.x.c0
  have xc1 := T4.out.x.c1
  have xc2 := T4.out.x.c2
  have xc3 := T4.out.x.c3
  have yc0 := T4.out.y.c0
  have yc1 := T4.out.y.c1
  have yc2 := T4.out.y.c2
  have yc3 := T4.out.y.c3
  go_wp2
  refine wp_loop_rounds 5 ?_
  rw [rounds_succ]
  go_wp2
  go_quiet (fail)
  go_wp2
  rw [rounds_succ]
  go_wp2
  go_quiet (fail)
  go_wp2
  rw [rounds_succ]
  go_wp2
  go_quiet (fail)
  go_wp2
  go_quiet ((go_at_call 63; exact (sign_any _ q b _ rfl).mono fun _ _ ⟨he, hw⟩ => ⟨he, _, hw⟩))
  go_wp2
  go_ret
  refine ⟨rfl, ?_⟩
  repeat (first | exact T4.out.bel | refine below_drewN ?_ _)

set_option maxHeartbeats 4000000 in
theorem rcmp_2eq3 (a b c d p q r s : Int) (w : World) (h : Both a b c d p q r s) (hd : a + b + c + d = p + q + r + s) (ed : d = s) (ec : c = r) (eb : b = q) (ea : a ≠ p) :
    Calls Tryz.prog 40 #[.int .i64 2, .agg #[.int .i64 a, .int .i64 b, .int .i64 c, .int .i64 d], .agg #[.int .i64 p, .int .i64 q, .int .i64 r, .int .i64 s]] w fun e w' => e = .returned (.int .i64 (cmpI p a)) ∧ Below w.heap.size w w' := by
  have gd : (d == s) = true := by simp [ed]
  have gc : (c == r) = true := by simp [ec]
  have gb : (b == q) = true := by simp [eb]
  have ga : (a == p) = false := by simp [ea]
  clear ed ec eb ea
  have T : Hid (Two w ((w.alloc (.cells #[.int .i64 a, .int .i64 b, .int .i64 c, .int .i64 d] 47)).alloc (.cells #[.int .i64 p, .int .i64 q, .int .i64 r, .int .i64 s] 47)) a b c d p q r s) := Two.new w a b c d p q r s
  have H : Hid (Both a b c d p q r s) := h
  obtain ⟨⟨⟨a0, a1⟩, ⟨b0, b1⟩, ⟨c0, c1⟩, ⟨d0, d1⟩⟩, ⟨p0, p1⟩, ⟨q0, q1⟩, ⟨r0, r1⟩, ⟨s0, s1⟩⟩ := h
  obtain ⟨dx, edx⟩ : ∃ n, n = a + b + c + d := ⟨_, rfl⟩
  obtain ⟨dy, edy⟩ : ∃ n, n = p + q + r + s := ⟨_, rfl⟩
  have DX : Hid (dx = a + b + c + d) := edx
  have DY : Hid (dy = p + q + r + s) := edy
  have deq : (dx == dy) = true := by rw [beq_iff_eq, edx, edy]; exact hd
  clear edx edy hd
  go_enter Tryz.func40, Tryz.ntmps40
  go_wp2_with fail
  refine (rmay_yes _ _ _ _ _ H.out.a).mono ?_
  rintro e w1 ⟨rfl, g1⟩
  have T1 : Hid (Two w w1 a b c d p q r s) := T.out.below g1
  clear g1 T
  have yc0 := T1.out.y.c0
  have yc1 := T1.out.y.c1
  have yc2 := T1.out.y.c2
  have yc3 := T1.out.y.c3
  go_wp2_with fail
  refine (rmay_yes _ _ _ _ _ H.out.b).mono ?_
  rintro e w2 ⟨rfl, g2⟩
  have T2 : Hid (Two w w2 a b c d p q r s) := T1.out.below g2
  clear g2 T1 yc0 yc1 yc2 yc3
  go_wp2_with fail
  have T3 : Hid (Two w w2 a b c d p q r s) := T2.out
  clear T2
  have rx0 : ∀ n : Wd w2, n.w.cell? ⟨w.heap.size, 0, none⟩ = some (.int .i64 a) := fun n => at23_0 (n.at T3.out.x)
  have rx1 : ∀ n : Wd w2, n.w.cell? ⟨w.heap.size, 1, none⟩ = some (.int .i64 b) := fun n => at23_1 (n.at T3.out.x)
  have rx2 : ∀ n : Wd w2, n.w.cell? ⟨w.heap.size, 2, none⟩ = some (.int .i64 c) := fun n => at23_2 (n.at T3.out.x)
  have rx3 : ∀ n : Wd w2, n.w.cell? ⟨w.heap.size, 3, none⟩ = some (.int .i64 d) := fun n => at23_3 (n.at T3.out.x)
  have ry0 : ∀ n : Wd w2, n.w.cell? ⟨w.heap.size + 1, 0, none⟩ = some (.int .i64 p) := fun n => at23_0 (n.at T3.out.y)
  have ry1 : ∀ n : Wd w2, n.w.cell? ⟨w.heap.size + 1, 1, none⟩ = some (.int .i64 q) := fun n => at23_1 (n.at T3.out.y)
  have ry2 : ∀ n : Wd w2, n.w.cell? ⟨w.heap.size + 1, 2, none⟩ = some (.int .i64 r) := fun n => at23_2 (n.at T3.out.y)
  have ry3 : ∀ n : Wd w2, n.w.cell? ⟨w.heap.size + 1, 3, none⟩ = some (.int .i64 s) := fun n => at23_3 (n.at T3.out.y)
  have wne : Nonempty (Wd w2) := ⟨⟨_, Below.refl _ _⟩⟩
  refine region_wd (by kernel_rfl) (by kernel_rfl) ?_
  repeat (go_big_quiet_step ((first
    | (go_at_call 62; (with_reducible change Calls Tryz.prog 62 #[.agg #[.int .i64 a, .int .i64 b, .int .i64 c, .int .i64 d]] _ _); exact wd_of (rdeg_val a b c d dx _ H.out.a DX.out))
    | (go_at_call 62; (with_reducible change Calls Tryz.prog 62 #[.agg #[.int .i64 p, .int .i64 q, .int .i64 r, .int .i64 s]] _ _); exact wd_of (rdeg_val p q r s dy _ H.out.b DY.out)))))
  refine wpQuiet_nil ?_
  intro _ hw
  obtain ⟨nq, hq⟩ := hw
  subst hq
  have T4 : Hid (Two w nq.w a b c d p q r s) := T3.out.below nq.h
  clear wne rx0 rx1 rx2 rx3 ry0 ry1 ry2 ry3 T3
  obtain ⟨w4, h4⟩ : ∃ w4, w4 = nq.w := ⟨_, rfl⟩
  rw [← h4] at T4
  rw [← h4]
  clear h4 nq
  have xc0 := T4.out.x.c0
  have xc1 := T4.out.x.c1
  have xc2 := T4.out.x.c2
  have xc3 := T4.out.x.c3
  have yc0 := T4.out.y.c0
  have yc1 := T4.out.y.c1
  have yc2 := T4.out.y.c2
  have yc3 := T4.out.y.c3
  go_wp2
  refine wp_loop_rounds 5 ?_
  rw [rounds_succ]
  go_wp2
  go_quiet (fail)
  go_wp2
  rw [rounds_succ]
  go_wp2
  go_quiet (fail)
  go_wp2
  rw [rounds_succ]
  go_wp2
  go_quiet (fail)
  go_wp2
  rw [rounds_succ]
  go_wp2
  go_quiet (fail)
  go_wp2
  go_quiet ((go_at_call 63; exact (sign_any _ p a _ rfl).mono fun _ _ ⟨he, hw⟩ => ⟨he, _, hw⟩))
  go_wp2
  go_ret
  refine ⟨rfl, ?_⟩
  repeat (first | exact T4.out.bel | refine below_drewN ?_ _)

set_option maxHeartbeats 4000000 in
theorem rcmp_2eq4 (a b c d p q r s : Int) (w : World) (h : Both a b c d p q r s) (hd : a + b + c + d = p + q + r + s) (ed : d = s) (ec : c = r) (eb : b = q) (ea : a = p) :
    Calls Tryz.prog 40 #[.int .i64 2, .agg #[.int .i64 a, .int .i64 b, .int .i64 c, .int .i64 d], .agg #[.int .i64 p, .int .i64 q, .int .i64 r, .int .i64 s]] w fun e w' => e = .returned (.int .i64 (0)) ∧ Below w.heap.size w w' := by
  have gd : (d == s) = true := by simp [ed]
  have gc : (c == r) = true := by simp [ec]
  have gb : (b == q) = true := by simp [eb]
  have ga : (a == p) = true := by simp [ea]
  clear ed ec eb ea
  have T : Hid (Two w ((w.alloc (.cells #[.int .i64 a, .int .i64 b, .int .i64 c, .int .i64 d] 47)).alloc (.cells #[.int .i64 p, .int .i64 q, .int .i64 r, .int .i64 s] 47)) a b c d p q r s) := Two.new w a b c d p q r s
  have H : Hid (Both a b c d p q r s) := h
  obtain ⟨⟨⟨a0, a1⟩, ⟨b0, b1⟩, ⟨c0, c1⟩, ⟨d0, d1⟩⟩, ⟨p0, p1⟩, ⟨q0, q1⟩, ⟨r0, r1⟩, ⟨s0, s1⟩⟩ := h
  obtain ⟨dx, edx⟩ : ∃ n, n = a + b + c + d := ⟨_, rfl⟩
  obtain ⟨dy, edy⟩ : ∃ n, n = p + q + r + s := ⟨_, rfl⟩
  have DX : Hid (dx = a + b + c + d) := edx
  have DY : Hid (dy = p + q + r + s) := edy
  have deq : (dx == dy) = true := by rw [beq_iff_eq, edx, edy]; exact hd
  clear edx edy hd
  go_enter Tryz.func40, Tryz.ntmps40
  go_wp2_with fail
  refine (rmay_yes _ _ _ _ _ H.out.a).mono ?_
  rintro e w1 ⟨rfl, g1⟩
  have T1 : Hid (Two w w1 a b c d p q r s) := T.out.below g1
  clear g1 T
  have yc0 := T1.out.y.c0
  have yc1 := T1.out.y.c1
  have yc2 := T1.out.y.c2
  have yc3 := T1.out.y.c3
  go_wp2_with fail
  refine (rmay_yes _ _ _ _ _ H.out.b).mono ?_
  rintro e w2 ⟨rfl, g2⟩
  have T2 : Hid (Two w w2 a b c d p q r s) := T1.out.below g2
  clear g2 T1 yc0 yc1 yc2 yc3
  go_wp2_with fail
  have T3 : Hid (Two w w2 a b c d p q r s) := T2.out
  clear T2
  have rx0 : ∀ n : Wd w2, n.w.cell? ⟨w.heap.size, 0, none⟩ = some (.int .i64 a) := fun n => at23_0 (n.at T3.out.x)
  have rx1 : ∀ n : Wd w2, n.w.cell? ⟨w.heap.size, 1, none⟩ = some (.int .i64 b) := fun n => at23_1 (n.at T3.out.x)
  have rx2 : ∀ n : Wd w2, n.w.cell? ⟨w.heap.size, 2, none⟩ = some (.int .i64 c) := fun n => at23_2 (n.at T3.out.x)
  have rx3 : ∀ n : Wd w2, n.w.cell? ⟨w.heap.size, 3, none⟩ = some (.int .i64 d) := fun n => at23_3 (n.at T3.out.x)
  have ry0 : ∀ n : Wd w2, n.w.cell? ⟨w.heap.size + 1, 0, none⟩ = some (.int .i64 p) := fun n => at23_0 (n.at T3.out.y)
  have ry1 : ∀ n : Wd w2, n.w.cell? ⟨w.heap.size + 1, 1, none⟩ = some (.int .i64 q) := fun n => at23_1 (n.at T3.out.y)
  have ry2 : ∀ n : Wd w2, n.w.cell? ⟨w.heap.size + 1, 2, none⟩ = some (.int .i64 r) := fun n => at23_2 (n.at T3.out.y)
  have ry3 : ∀ n : Wd w2, n.w.cell? ⟨w.heap.size + 1, 3, none⟩ = some (.int .i64 s) := fun n => at23_3 (n.at T3.out.y)
  have wne : Nonempty (Wd w2) := ⟨⟨_, Below.refl _ _⟩⟩
  refine region_wd (by kernel_rfl) (by kernel_rfl) ?_
  repeat (go_big_quiet_step ((first
    | (go_at_call 62; (with_reducible change Calls Tryz.prog 62 #[.agg #[.int .i64 a, .int .i64 b, .int .i64 c, .int .i64 d]] _ _); exact wd_of (rdeg_val a b c d dx _ H.out.a DX.out))
    | (go_at_call 62; (with_reducible change Calls Tryz.prog 62 #[.agg #[.int .i64 p, .int .i64 q, .int .i64 r, .int .i64 s]] _ _); exact wd_of (rdeg_val p q r s dy _ H.out.b DY.out)))))
  refine wpQuiet_nil ?_
  intro _ hw
  obtain ⟨nq, hq⟩ := hw
  subst hq
  have T4 : Hid (Two w nq.w a b c d p q r s) := T3.out.below nq.h
  clear wne rx0 rx1 rx2 rx3 ry0 ry1 ry2 ry3 T3
  obtain ⟨w4, h4⟩ : ∃ w4, w4 = nq.w := ⟨_, rfl⟩
  rw [← h4] at T4
  rw [← h4]
  clear h4 nq
  have xc0 := T4.out.x.c0
  have xc1 := T4.out.x.c1
  have xc2 := T4.out.x.c2
  have xc3 := T4.out.x.c3
  have yc0 := T4.out.y.c0
  have yc1 := T4.out.y.c1
  have yc2 := T4.out.y.c2
  have yc3 := T4.out.y.c3
  go_wp2
  refine wp_loop_rounds 5 ?_
  rw [rounds_succ]
  go_wp2
  go_quiet (fail)
  go_wp2
  rw [rounds_succ]
  go_wp2
  go_quiet (fail)
  go_wp2
  rw [rounds_succ]
  go_wp2
  go_quiet (fail)
  go_wp2
  rw [rounds_succ]
  go_wp2
  go_quiet (fail)
  go_wp2
  rw [rounds_succ]
  go_wp2
  go_ret
  refine ⟨rfl, ?_⟩
  repeat (first | exact T4.out.bel | refine below_drewN ?_ _)

theorem rcmp_2eq (a b c d p q r s : Int) (w : World) (h : Both a b c d p q r s) (hd : a + b + c + d = p + q + r + s) : Calls Tryz.prog 40 #[.int .i64 2, .agg #[.int .i64 a, .int .i64 b, .int .i64 c, .int .i64 d], .agg #[.int .i64 p, .int .i64 q, .int .i64 r, .int .i64 s]] w fun e w' => e = .returned (.int .i64 (revI a b c d p q r s)) ∧ Below w.heap.size w w' := by
  by_cases ed : d = s
  · by_cases ec : c = r
    · by_cases eb : b = q
      · by_cases ea : a = p
        · have g := rcmp_2eq4 a b c d p q r s w h hd ed ec eb ea
          rwa [show (0 : Int) = revI a b c d p q r s by simp [revI, cmpI, ea, eb, ec, ed]] at g
        · have g := rcmp_2eq3 a b c d p q r s w h hd ed ec eb ea
          rwa [show cmpI p a = revI a b c d p q r s by simp [revI, ed, ec, eb]] at g
      · have g := rcmp_2eq2 a b c d p q r s w h hd ed ec eb
        rwa [show cmpI q b = revI a b c d p q r s by simp [revI, ed, ec, eb]] at g
    · have g := rcmp_2eq1 a b c d p q r s w h hd ed ec
      rwa [show cmpI r c = revI a b c d p q r s by simp [revI, ed, ec]] at g
  · have g := rcmp_2eq0 a b c d p q r s w h hd ed
    rwa [show cmpI s d = revI a b c d p q r s by simp [revI, ed]] at g

theorem rcmp_val (o a b c d p q r s k : Int) (w : World) (h : CmpIs o a b c d p q r s k) :
    Calls Tryz.prog 40 #[.int .i64 o, .agg #[.int .i64 a, .int .i64 b, .int .i64 c, .int .i64 d], .agg #[.int .i64 p, .int .i64 q, .int .i64 r, .int .i64 s]] w fun e w' => e = .returned (.int .i64 k) ∧ Below w.heap.size w w' := by
  by_cases hb : Both a b c d p q r s
  · by_cases ho : o < 0 ∨ 2 < o
    · rw [h.out ho]
      exact rcmp_out o a b c d p q r s w hb ho
    · have h3 : o = 0 ∨ o = 1 ∨ o = 2 := by omega
      rcases h3 with rfl | rfl | rfl
      · rw [h.lex hb rfl]
        exact rcmp_0 a b c d p q r s w hb
      · rw [h.grl hb rfl]
        unfold degI
        by_cases hd : a + b + c + d = p + q + r + s
        · rw [if_pos hd]
          exact rcmp_1eq a b c d p q r s w hb hd
        · rw [if_neg hd]
          exact rcmp_1ne a b c d p q r s w hb hd
      · rw [h.rev hb rfl]
        unfold degI
        by_cases hd : a + b + c + d = p + q + r + s
        · rw [if_pos hd]
          exact rcmp_2eq a b c d p q r s w hb hd
        · rw [if_neg hd]
          exact rcmp_2ne a b c d p q r s w hb hd
  · rw [h.arg hb]
    exact rcmp_arg o a b c d p q r s w hb

end Go.Proofs.YtnedghhcidohnaaGreat.Mn

/-! What layer 8's calls tell: of the program and of the reference the same. -/
namespace Go.Proofs.YtnedghhcidohnaaGreat.Mn
open Go.RowKit

/-- What Mul tells. -/
structure MulIs (a b c d p q r s x y z u k : Int) : Prop where
  arg : ¬ Both a b c d p q r s → x = 0 ∧ y = 0 ∧ z = 0 ∧ u = 0 ∧ k = 1
  exp : Both a b c d p q r s → ¬ May4 (a + p) (b + q) (c + r) (d + s) → x = 0 ∧ y = 0 ∧ z = 0 ∧ u = 0 ∧ k = 80
  ok : Both a b c d p q r s → May4 (a + p) (b + q) (c + r) (d + s) → x = a + p ∧ y = b + q ∧ z = c + r ∧ u = d + s ∧ k = 0
theorem MulIs.ex (a b c d p q r s : Int) : ∃ x y z u k, MulIs a b c d p q r s x y z u k := by
  by_cases hb : Both a b c d p q r s
  · by_cases hm : May4 (a + p) (b + q) (c + r) (d + s)
    · exact ⟨_, _, _, _, _, fun h => absurd hb h, fun _ h => absurd hm h, fun _ _ => ⟨rfl, rfl, rfl, rfl, rfl⟩⟩
    · exact ⟨_, _, _, _, _, fun h => absurd hb h, fun _ _ => ⟨rfl, rfl, rfl, rfl, rfl⟩, fun _ h => absurd h hm⟩
  · exact ⟨_, _, _, _, _, fun _ => ⟨rfl, rfl, rfl, rfl, rfl⟩, fun h => absurd h hb, fun h => absurd h hb⟩
theorem rmul_is (a b c d p q r s x y z u k : Int) (w : World) (h : MulIs a b c d p q r s x y z u k) :
    Calls Tryz.prog 71 #[.agg #[.int .i64 a, .int .i64 b, .int .i64 c, .int .i64 d], .agg #[.int .i64 p, .int .i64 q, .int .i64 r, .int .i64 s]] w fun e w' => e = .returned (.tuple #[.agg #[.int .i64 x, .int .i64 y, .int .i64 z, .int .i64 u], .int .i64 k]) ∧ Below w.heap.size w w' := by
  by_cases hb : Both a b c d p q r s
  · by_cases hm : May4 (a + p) (b + q) (c + r) (d + s)
    · obtain ⟨rfl, rfl, rfl, rfl, rfl⟩ := h.ok hb hm
      exact rmul_ok a b c d p q r s w hb hm
    · obtain ⟨rfl, rfl, rfl, rfl, rfl⟩ := h.exp hb hm
      exact rmul_exp a b c d p q r s w hb hm
  · obtain ⟨rfl, rfl, rfl, rfl, rfl⟩ := h.arg hb
    exact rmul_arg a b c d p q r s w hb


end Go.Proofs.YtnedghhcidohnaaGreat.Mn
