/-
  The reference's Lcm, in part.
-/
import Derived.Test.YtjecibpeahjenaaMS
import Derived.Test.YtjecibpeahjenaaMQ
namespace Go.Proofs.Ytjecibpeahjenaa
open Go.RowKit

set_option maxHeartbeats 1000000 in
theorem rlcm_arg (a b c d p q r s : Int) (w : World) (h : ¬ Both a b c d p q r s) :
    Calls Try.prog 18 #[.agg #[.int .i64 a, .int .i64 b, .int .i64 c, .int .i64 d], .agg #[.int .i64 p, .int .i64 q, .int .i64 r, .int .i64 s]] w fun e w' => e = .returned (.agg #[.int .i64 0, .int .i64 0, .int .i64 0, .int .i64 0]) ∧ Below w.heap.size w w' := by
  have F : Hid (Four w ((((w.alloc (.cells #[.int .i64 a, .int .i64 b, .int .i64 c, .int .i64 d] 23)).alloc (.cells #[.int .i64 p, .int .i64 q, .int .i64 r, .int .i64 s] 23)).alloc (.cells #[.int .i64 0, .int .i64 0, .int .i64 0, .int .i64 0] 23)).alloc (.cells #[.int .i64 0, .int .i64 0, .int .i64 0, .int .i64 0] 23)) (w.heap.size + 3) a b c d p q r s 0 0 0 0) := by have h := Four.new (Three.new w a b c d p q r s) 0 0 0 0; rw [size3] at h; exact h
  rcases not_both h with hn | ⟨hy, hn⟩
  · have H : Hid (¬ May4 a b c d) := hn
    clear h hn
    go_enter Try.func18, Try.ntmps18
    go_wp2_with fail
    refine (rmay_no _ _ _ _ _ H.out).mono ?_
    rintro e w1 ⟨rfl, q1⟩
    have F1 : Hid (Four w w1 (w.heap.size + 3) a b c d p q r s 0 0 0 0) := F.out.below q1
    clear q1 F
    have zc0 := F1.out.three.z.c0
    have zc1 := F1.out.three.z.c1
    have zc2 := F1.out.three.z.c2
    have zc3 := F1.out.three.z.c3
    have zf0 := F1.out.three.z.f 0
    have zf1 := F1.out.three.z.f 1
    have zf2 := F1.out.three.z.f 2
    have zf3 := F1.out.three.z.f 3
    have oc0 := F1.out.o.c0
    have oc1 := F1.out.o.c1
    have oc2 := F1.out.o.c2
    have oc3 := F1.out.o.c3
    go_wp2
    exact bodyPost_ret (results_m1 (by rfl) _ (F1.out.three.z.set 0 0 0 0) rfl) rfl ⟨rfl, below_set F1.out.three.two.bel (by omega) _ _ _ _⟩
  · have H : Hid (May4 a b c d ∧ ¬ May4 p q r s) := ⟨hy, hn⟩
    clear h hn hy
    go_enter Try.func18, Try.ntmps18
    go_wp2_with fail
    refine (rmay_yes _ _ _ _ _ H.out.1).mono ?_
    rintro e w1 ⟨rfl, q1⟩
    have F1 : Hid (Four w w1 (w.heap.size + 3) a b c d p q r s 0 0 0 0) := F.out.below q1
    clear q1 F
    have yc0 := F1.out.three.two.y.c0
    have yc1 := F1.out.three.two.y.c1
    have yc2 := F1.out.three.two.y.c2
    have yc3 := F1.out.three.two.y.c3
    go_wp2_with fail
    refine (rmay_no _ _ _ _ _ H.out.2).mono ?_
    rintro e w2 ⟨rfl, q2⟩
    have F2 : Hid (Four w w2 (w.heap.size + 3) a b c d p q r s 0 0 0 0) := F1.out.below q2
    clear q2 F1 yc0 yc1 yc2 yc3
    have zc0 := F2.out.three.z.c0
    have zc1 := F2.out.three.z.c1
    have zc2 := F2.out.three.z.c2
    have zc3 := F2.out.three.z.c3
    have zf0 := F2.out.three.z.f 0
    have zf1 := F2.out.three.z.f 1
    have zf2 := F2.out.three.z.f 2
    have zf3 := F2.out.three.z.f 3
    have oc0 := F2.out.o.c0
    have oc1 := F2.out.o.c1
    have oc2 := F2.out.o.c2
    have oc3 := F2.out.o.c3
    go_wp2
    exact bodyPost_ret (results_m1 (by rfl) _ (F2.out.three.z.set 0 0 0 0) rfl) rfl ⟨rfl, below_set F2.out.three.two.bel (by omega) _ _ _ _⟩

set_option maxHeartbeats 4000000 in
theorem rlcm_xxxx (a b c d p q r s : Int) (w : World) (h : Both a b c d p q r s) (n0 : p ≤ a) (n1 : q ≤ b) (n2 : r ≤ c) (n3 : s ≤ d) :
    Calls Try.prog 18 #[.agg #[.int .i64 a, .int .i64 b, .int .i64 c, .int .i64 d], .agg #[.int .i64 p, .int .i64 q, .int .i64 r, .int .i64 s]] w fun e w' => e = .returned (.agg #[.int .i64 a, .int .i64 b, .int .i64 c, .int .i64 d]) ∧ Below w.heap.size w w' := by
  have F : Hid (Four w ((((w.alloc (.cells #[.int .i64 a, .int .i64 b, .int .i64 c, .int .i64 d] 23)).alloc (.cells #[.int .i64 p, .int .i64 q, .int .i64 r, .int .i64 s] 23)).alloc (.cells #[.int .i64 0, .int .i64 0, .int .i64 0, .int .i64 0] 23)).alloc (.cells #[.int .i64 0, .int .i64 0, .int .i64 0, .int .i64 0] 23)) (w.heap.size + 3) a b c d p q r s 0 0 0 0) := by have h := Four.new (Three.new w a b c d p q r s) 0 0 0 0; rw [size3] at h; exact h
  have H : Hid (Both a b c d p q r s) := h
  obtain ⟨⟨⟨a0, a1⟩, ⟨b0, b1⟩, ⟨c0, c1⟩, ⟨d0, d1⟩⟩, ⟨p0, p1⟩, ⟨q0, q1⟩, ⟨r0, r1⟩, ⟨s0, s1⟩⟩ := h
  go_enter Try.func18, Try.ntmps18
  go_wp2_with fail
  refine (rmay_yes _ _ _ _ _ H.out.a).mono ?_
  rintro e w1 ⟨rfl, g1⟩
  have F1 : Hid (Four w w1 (w.heap.size + 3) a b c d p q r s 0 0 0 0) := F.out.below g1
  clear g1 F
  have yc0 := F1.out.three.two.y.c0
  have yc1 := F1.out.three.two.y.c1
  have yc2 := F1.out.three.two.y.c2
  have yc3 := F1.out.three.two.y.c3
  go_wp2_with fail
  refine (rmay_yes _ _ _ _ _ H.out.b).mono ?_
  rintro e w2 ⟨rfl, g2⟩
  have F0 : Hid (Four w w2 (w.heap.size + 3) a b c d p q r s 0 0 0 0) := F1.out.below g2
  clear g2 F1 yc0 yc1 yc2 yc3
  go_wp2
  refine wp_loop_rounds 5 ?_
  have xc := F0.out.three.two.x.c0
  have yc := F0.out.three.two.y.c0
  have oc := F0.out.o.c0
  have of := F0.out.o.f 0
  rw [rounds_succ]
  go_wp2
  go_region
  go_wp2
  have F1 : Hid (Four w (w2.setCell ⟨w.heap.size + 3, 0, none⟩ (.int .i64 a)).drew (w.heap.size + 3) a b c d p q r s a 0 0 0) := (F0.out.s0 a).below (Below.refl _ _).drew
  clear xc yc oc of F0
  obtain ⟨wv1, hv1⟩ : ∃ wv, wv = (w2.setCell ⟨w.heap.size + 3, 0, none⟩ (.int .i64 a)).drew := ⟨_, rfl⟩
  rw [← hv1] at F1
  rw [← hv1]
  clear hv1
  have xc := F1.out.three.two.x.c1
  have yc := F1.out.three.two.y.c1
  have oc := F1.out.o.c1
  have of := F1.out.o.f 1
  rw [rounds_succ]
  go_wp2
  go_region
  go_wp2
  have F2 : Hid (Four w (wv1.setCell ⟨w.heap.size + 3, 1, none⟩ (.int .i64 b)).drew (w.heap.size + 3) a b c d p q r s a b 0 0) := (F1.out.s1 b).below (Below.refl _ _).drew
  clear xc yc oc of F1
  obtain ⟨wv2, hv2⟩ : ∃ wv, wv = (wv1.setCell ⟨w.heap.size + 3, 1, none⟩ (.int .i64 b)).drew := ⟨_, rfl⟩
  rw [← hv2] at F2
  rw [← hv2]
  clear hv2
  have xc := F2.out.three.two.x.c2
  have yc := F2.out.three.two.y.c2
  have oc := F2.out.o.c2
  have of := F2.out.o.f 2
  rw [rounds_succ]
  go_wp2
  go_region
  go_wp2
  have F3 : Hid (Four w (wv2.setCell ⟨w.heap.size + 3, 2, none⟩ (.int .i64 c)).drew (w.heap.size + 3) a b c d p q r s a b c 0) := (F2.out.s2 c).below (Below.refl _ _).drew
  clear xc yc oc of F2
  obtain ⟨wv3, hv3⟩ : ∃ wv, wv = (wv2.setCell ⟨w.heap.size + 3, 2, none⟩ (.int .i64 c)).drew := ⟨_, rfl⟩
  rw [← hv3] at F3
  rw [← hv3]
  clear hv3
  have xc := F3.out.three.two.x.c3
  have yc := F3.out.three.two.y.c3
  have oc := F3.out.o.c3
  have of := F3.out.o.f 3
  rw [rounds_succ]
  go_wp2
  go_region
  go_wp2
  have F4 : Hid (Four w (wv3.setCell ⟨w.heap.size + 3, 3, none⟩ (.int .i64 d)).drew (w.heap.size + 3) a b c d p q r s a b c d) := (F3.out.s3 d).below (Below.refl _ _).drew
  clear xc yc oc of F3
  obtain ⟨wv4, hv4⟩ : ∃ wv, wv = (wv3.setCell ⟨w.heap.size + 3, 3, none⟩ (.int .i64 d)).drew := ⟨_, rfl⟩
  rw [← hv4] at F4
  rw [← hv4]
  clear hv4
  rw [rounds_succ]
  have oc0 := F4.out.o.c0
  have oc1 := F4.out.o.c1
  have oc2 := F4.out.o.c2
  have oc3 := F4.out.o.c3
  have zc0 := F4.out.three.z.c0
  have zc1 := F4.out.three.z.c1
  have zc2 := F4.out.three.z.c2
  have zc3 := F4.out.three.z.c3
  have zf0 := F4.out.three.z.f 0
  have zf1 := F4.out.three.z.f 1
  have zf2 := F4.out.three.z.f 2
  have zf3 := F4.out.three.z.f 3
  go_wp2
  exact bodyPost_ret (results_m1 (by rfl) _ (F4.out.three.z.set a b c d) rfl) rfl ⟨rfl, below_set F4.out.three.two.bel (by omega) _ _ _ _⟩

set_option maxHeartbeats 4000000 in
theorem rlcm_xxxy (a b c d p q r s : Int) (w : World) (h : Both a b c d p q r s) (n0 : p ≤ a) (n1 : q ≤ b) (n2 : r ≤ c) (n3 : d < s) :
    Calls Try.prog 18 #[.agg #[.int .i64 a, .int .i64 b, .int .i64 c, .int .i64 d], .agg #[.int .i64 p, .int .i64 q, .int .i64 r, .int .i64 s]] w fun e w' => e = .returned (.agg #[.int .i64 a, .int .i64 b, .int .i64 c, .int .i64 s]) ∧ Below w.heap.size w w' := by
  have F : Hid (Four w ((((w.alloc (.cells #[.int .i64 a, .int .i64 b, .int .i64 c, .int .i64 d] 23)).alloc (.cells #[.int .i64 p, .int .i64 q, .int .i64 r, .int .i64 s] 23)).alloc (.cells #[.int .i64 0, .int .i64 0, .int .i64 0, .int .i64 0] 23)).alloc (.cells #[.int .i64 0, .int .i64 0, .int .i64 0, .int .i64 0] 23)) (w.heap.size + 3) a b c d p q r s 0 0 0 0) := by have h := Four.new (Three.new w a b c d p q r s) 0 0 0 0; rw [size3] at h; exact h
  have H : Hid (Both a b c d p q r s) := h
  obtain ⟨⟨⟨a0, a1⟩, ⟨b0, b1⟩, ⟨c0, c1⟩, ⟨d0, d1⟩⟩, ⟨p0, p1⟩, ⟨q0, q1⟩, ⟨r0, r1⟩, ⟨s0, s1⟩⟩ := h
  go_enter Try.func18, Try.ntmps18
  go_wp2_with fail
  refine (rmay_yes _ _ _ _ _ H.out.a).mono ?_
  rintro e w1 ⟨rfl, g1⟩
  have F1 : Hid (Four w w1 (w.heap.size + 3) a b c d p q r s 0 0 0 0) := F.out.below g1
  clear g1 F
  have yc0 := F1.out.three.two.y.c0
  have yc1 := F1.out.three.two.y.c1
  have yc2 := F1.out.three.two.y.c2
  have yc3 := F1.out.three.two.y.c3
  go_wp2_with fail
  refine (rmay_yes _ _ _ _ _ H.out.b).mono ?_
  rintro e w2 ⟨rfl, g2⟩
  have F0 : Hid (Four w w2 (w.heap.size + 3) a b c d p q r s 0 0 0 0) := F1.out.below g2
  clear g2 F1 yc0 yc1 yc2 yc3
  go_wp2
  refine wp_loop_rounds 5 ?_
  have xc := F0.out.three.two.x.c0
  have yc := F0.out.three.two.y.c0
  have oc := F0.out.o.c0
  have of := F0.out.o.f 0
  rw [rounds_succ]
  go_wp2
  go_region
  go_wp2
  have F1 : Hid (Four w (w2.setCell ⟨w.heap.size + 3, 0, none⟩ (.int .i64 a)).drew (w.heap.size + 3) a b c d p q r s a 0 0 0) := (F0.out.s0 a).below (Below.refl _ _).drew
  clear xc yc oc of F0
  obtain ⟨wv1, hv1⟩ : ∃ wv, wv = (w2.setCell ⟨w.heap.size + 3, 0, none⟩ (.int .i64 a)).drew := ⟨_, rfl⟩
  rw [← hv1] at F1
  rw [← hv1]
  clear hv1
  have xc := F1.out.three.two.x.c1
  have yc := F1.out.three.two.y.c1
  have oc := F1.out.o.c1
  have of := F1.out.o.f 1
  rw [rounds_succ]
  go_wp2
  go_region
  go_wp2
  have F2 : Hid (Four w (wv1.setCell ⟨w.heap.size + 3, 1, none⟩ (.int .i64 b)).drew (w.heap.size + 3) a b c d p q r s a b 0 0) := (F1.out.s1 b).below (Below.refl _ _).drew
  clear xc yc oc of F1
  obtain ⟨wv2, hv2⟩ : ∃ wv, wv = (wv1.setCell ⟨w.heap.size + 3, 1, none⟩ (.int .i64 b)).drew := ⟨_, rfl⟩
  rw [← hv2] at F2
  rw [← hv2]
  clear hv2
  have xc := F2.out.three.two.x.c2
  have yc := F2.out.three.two.y.c2
  have oc := F2.out.o.c2
  have of := F2.out.o.f 2
  rw [rounds_succ]
  go_wp2
  go_region
  go_wp2
  have F3 : Hid (Four w (wv2.setCell ⟨w.heap.size + 3, 2, none⟩ (.int .i64 c)).drew (w.heap.size + 3) a b c d p q r s a b c 0) := (F2.out.s2 c).below (Below.refl _ _).drew
  clear xc yc oc of F2
  obtain ⟨wv3, hv3⟩ : ∃ wv, wv = (wv2.setCell ⟨w.heap.size + 3, 2, none⟩ (.int .i64 c)).drew := ⟨_, rfl⟩
  rw [← hv3] at F3
  rw [← hv3]
  clear hv3
  have xc := F3.out.three.two.x.c3
  have yc := F3.out.three.two.y.c3
  have oc := F3.out.o.c3
  have of := F3.out.o.f 3
  rw [rounds_succ]
  go_wp2
  go_region
  go_wp2
  have F4 : Hid (Four w (wv3.setCell ⟨w.heap.size + 3, 3, none⟩ (.int .i64 s)).drew (w.heap.size + 3) a b c d p q r s a b c s) := (F3.out.s3 s).below (Below.refl _ _).drew
  clear xc yc oc of F3
  obtain ⟨wv4, hv4⟩ : ∃ wv, wv = (wv3.setCell ⟨w.heap.size + 3, 3, none⟩ (.int .i64 s)).drew := ⟨_, rfl⟩
  rw [← hv4] at F4
  rw [← hv4]
  clear hv4
  rw [rounds_succ]
  have oc0 := F4.out.o.c0
  have oc1 := F4.out.o.c1
  have oc2 := F4.out.o.c2
  have oc3 := F4.out.o.c3
  have zc0 := F4.out.three.z.c0
  have zc1 := F4.out.three.z.c1
  have zc2 := F4.out.three.z.c2
  have zc3 := F4.out.three.z.c3
  have zf0 := F4.out.three.z.f 0
  have zf1 := F4.out.three.z.f 1
  have zf2 := F4.out.three.z.f 2
  have zf3 := F4.out.three.z.f 3
  go_wp2
  exact bodyPost_ret (results_m1 (by rfl) _ (F4.out.three.z.set a b c s) rfl) rfl ⟨rfl, below_set F4.out.three.two.bel (by omega) _ _ _ _⟩

set_option maxHeartbeats 4000000 in
theorem rlcm_xxyx (a b c d p q r s : Int) (w : World) (h : Both a b c d p q r s) (n0 : p ≤ a) (n1 : q ≤ b) (n2 : c < r) (n3 : s ≤ d) :
    Calls Try.prog 18 #[.agg #[.int .i64 a, .int .i64 b, .int .i64 c, .int .i64 d], .agg #[.int .i64 p, .int .i64 q, .int .i64 r, .int .i64 s]] w fun e w' => e = .returned (.agg #[.int .i64 a, .int .i64 b, .int .i64 r, .int .i64 d]) ∧ Below w.heap.size w w' := by
  have F : Hid (Four w ((((w.alloc (.cells #[.int .i64 a, .int .i64 b, .int .i64 c, .int .i64 d] 23)).alloc (.cells #[.int .i64 p, .int .i64 q, .int .i64 r, .int .i64 s] 23)).alloc (.cells #[.int .i64 0, .int .i64 0, .int .i64 0, .int .i64 0] 23)).alloc (.cells #[.int .i64 0, .int .i64 0, .int .i64 0, .int .i64 0] 23)) (w.heap.size + 3) a b c d p q r s 0 0 0 0) := by have h := Four.new (Three.new w a b c d p q r s) 0 0 0 0; rw [size3] at h; exact h
  have H : Hid (Both a b c d p q r s) := h
  obtain ⟨⟨⟨a0, a1⟩, ⟨b0, b1⟩, ⟨c0, c1⟩, ⟨d0, d1⟩⟩, ⟨p0, p1⟩, ⟨q0, q1⟩, ⟨r0, r1⟩, ⟨s0, s1⟩⟩ := h
  go_enter Try.func18, Try.ntmps18
  go_wp2_with fail
  refine (rmay_yes _ _ _ _ _ H.out.a).mono ?_
  rintro e w1 ⟨rfl, g1⟩
  have F1 : Hid (Four w w1 (w.heap.size + 3) a b c d p q r s 0 0 0 0) := F.out.below g1
  clear g1 F
  have yc0 := F1.out.three.two.y.c0
  have yc1 := F1.out.three.two.y.c1
  have yc2 := F1.out.three.two.y.c2
  have yc3 := F1.out.three.two.y.c3
  go_wp2_with fail
  refine (rmay_yes _ _ _ _ _ H.out.b).mono ?_
  rintro e w2 ⟨rfl, g2⟩
  have F0 : Hid (Four w w2 (w.heap.size + 3) a b c d p q r s 0 0 0 0) := F1.out.below g2
  clear g2 F1 yc0 yc1 yc2 yc3
  go_wp2
  refine wp_loop_rounds 5 ?_
  have xc := F0.out.three.two.x.c0
  have yc := F0.out.three.two.y.c0
  have oc := F0.out.o.c0
  have of := F0.out.o.f 0
  rw [rounds_succ]
  go_wp2
  go_region
  go_wp2
  have F1 : Hid (Four w (w2.setCell ⟨w.heap.size + 3, 0, none⟩ (.int .i64 a)).drew (w.heap.size + 3) a b c d p q r s a 0 0 0) := (F0.out.s0 a).below (Below.refl _ _).drew
  clear xc yc oc of F0
  obtain ⟨wv1, hv1⟩ : ∃ wv, wv = (w2.setCell ⟨w.heap.size + 3, 0, none⟩ (.int .i64 a)).drew := ⟨_, rfl⟩
  rw [← hv1] at F1
  rw [← hv1]
  clear hv1
  have xc := F1.out.three.two.x.c1
  have yc := F1.out.three.two.y.c1
  have oc := F1.out.o.c1
  have of := F1.out.o.f 1
  rw [rounds_succ]
  go_wp2
  go_region
  go_wp2
  have F2 : Hid (Four w (wv1.setCell ⟨w.heap.size + 3, 1, none⟩ (.int .i64 b)).drew (w.heap.size + 3) a b c d p q r s a b 0 0) := (F1.out.s1 b).below (Below.refl _ _).drew
  clear xc yc oc of F1
  obtain ⟨wv2, hv2⟩ : ∃ wv, wv = (wv1.setCell ⟨w.heap.size + 3, 1, none⟩ (.int .i64 b)).drew := ⟨_, rfl⟩
  rw [← hv2] at F2
  rw [← hv2]
  clear hv2
  have xc := F2.out.three.two.x.c2
  have yc := F2.out.three.two.y.c2
  have oc := F2.out.o.c2
  have of := F2.out.o.f 2
  rw [rounds_succ]
  go_wp2
  go_region
  go_wp2
  have F3 : Hid (Four w (wv2.setCell ⟨w.heap.size + 3, 2, none⟩ (.int .i64 r)).drew (w.heap.size + 3) a b c d p q r s a b r 0) := (F2.out.s2 r).below (Below.refl _ _).drew
  clear xc yc oc of F2
  obtain ⟨wv3, hv3⟩ : ∃ wv, wv = (wv2.setCell ⟨w.heap.size + 3, 2, none⟩ (.int .i64 r)).drew := ⟨_, rfl⟩
  rw [← hv3] at F3
  rw [← hv3]
  clear hv3
  have xc := F3.out.three.two.x.c3
  have yc := F3.out.three.two.y.c3
  have oc := F3.out.o.c3
  have of := F3.out.o.f 3
  rw [rounds_succ]
  go_wp2
  go_region
  go_wp2
  have F4 : Hid (Four w (wv3.setCell ⟨w.heap.size + 3, 3, none⟩ (.int .i64 d)).drew (w.heap.size + 3) a b c d p q r s a b r d) := (F3.out.s3 d).below (Below.refl _ _).drew
  clear xc yc oc of F3
  obtain ⟨wv4, hv4⟩ : ∃ wv, wv = (wv3.setCell ⟨w.heap.size + 3, 3, none⟩ (.int .i64 d)).drew := ⟨_, rfl⟩
  rw [← hv4] at F4
  rw [← hv4]
  clear hv4
  rw [rounds_succ]
  have oc0 := F4.out.o.c0
  have oc1 := F4.out.o.c1
  have oc2 := F4.out.o.c2
  have oc3 := F4.out.o.c3
  have zc0 := F4.out.three.z.c0
  have zc1 := F4.out.three.z.c1
  have zc2 := F4.out.three.z.c2
  have zc3 := F4.out.three.z.c3
  have zf0 := F4.out.three.z.f 0
  have zf1 := F4.out.three.z.f 1
  have zf2 := F4.out.three.z.f 2
  have zf3 := F4.out.three.z.f 3
  go_wp2
  exact bodyPost_ret (results_m1 (by rfl) _ (F4.out.three.z.set a b r d) rfl) rfl ⟨rfl, below_set F4.out.three.two.bel (by omega) _ _ _ _⟩

set_option maxHeartbeats 4000000 in
theorem rlcm_xxyy (a b c d p q r s : Int) (w : World) (h : Both a b c d p q r s) (n0 : p ≤ a) (n1 : q ≤ b) (n2 : c < r) (n3 : d < s) :
    Calls Try.prog 18 #[.agg #[.int .i64 a, .int .i64 b, .int .i64 c, .int .i64 d], .agg #[.int .i64 p, .int .i64 q, .int .i64 r, .int .i64 s]] w fun e w' => e = .returned (.agg #[.int .i64 a, .int .i64 b, .int .i64 r, .int .i64 s]) ∧ Below w.heap.size w w' := by
  have F : Hid (Four w ((((w.alloc (.cells #[.int .i64 a, .int .i64 b, .int .i64 c, .int .i64 d] 23)).alloc (.cells #[.int .i64 p, .int .i64 q, .int .i64 r, .int .i64 s] 23)).alloc (.cells #[.int .i64 0, .int .i64 0, .int .i64 0, .int .i64 0] 23)).alloc (.cells #[.int .i64 0, .int .i64 0, .int .i64 0, .int .i64 0] 23)) (w.heap.size + 3) a b c d p q r s 0 0 0 0) := by have h := Four.new (Three.new w a b c d p q r s) 0 0 0 0; rw [size3] at h; exact h
  have H : Hid (Both a b c d p q r s) := h
  obtain ⟨⟨⟨a0, a1⟩, ⟨b0, b1⟩, ⟨c0, c1⟩, ⟨d0, d1⟩⟩, ⟨p0, p1⟩, ⟨q0, q1⟩, ⟨r0, r1⟩, ⟨s0, s1⟩⟩ := h
  go_enter Try.func18, Try.ntmps18
  go_wp2_with fail
  refine (rmay_yes _ _ _ _ _ H.out.a).mono ?_
  rintro e w1 ⟨rfl, g1⟩
  have F1 : Hid (Four w w1 (w.heap.size + 3) a b c d p q r s 0 0 0 0) := F.out.below g1
  clear g1 F
  have yc0 := F1.out.three.two.y.c0
  have yc1 := F1.out.three.two.y.c1
  have yc2 := F1.out.three.two.y.c2
  have yc3 := F1.out.three.two.y.c3
  go_wp2_with fail
  refine (rmay_yes _ _ _ _ _ H.out.b).mono ?_
  rintro e w2 ⟨rfl, g2⟩
  have F0 : Hid (Four w w2 (w.heap.size + 3) a b c d p q r s 0 0 0 0) := F1.out.below g2
  clear g2 F1 yc0 yc1 yc2 yc3
  go_wp2
  refine wp_loop_rounds 5 ?_
  have xc := F0.out.three.two.x.c0
  have yc := F0.out.three.two.y.c0
  have oc := F0.out.o.c0
  have of := F0.out.o.f 0
  rw [rounds_succ]
  go_wp2
  go_region
  go_wp2
  have F1 : Hid (Four w (w2.setCell ⟨w.heap.size + 3, 0, none⟩ (.int .i64 a)).drew (w.heap.size + 3) a b c d p q r s a 0 0 0) := (F0.out.s0 a).below (Below.refl _ _).drew
  clear xc yc oc of F0
  obtain ⟨wv1, hv1⟩ : ∃ wv, wv = (w2.setCell ⟨w.heap.size + 3, 0, none⟩ (.int .i64 a)).drew := ⟨_, rfl⟩
  rw [← hv1] at F1
  rw [← hv1]
  clear hv1
  have xc := F1.out.three.two.x.c1
  have yc := F1.out.three.two.y.c1
  have oc := F1.out.o.c1
  have of := F1.out.o.f 1
  rw [rounds_succ]
  go_wp2
  go_region
  go_wp2
  have F2 : Hid (Four w (wv1.setCell ⟨w.heap.size + 3, 1, none⟩ (.int .i64 b)).drew (w.heap.size + 3) a b c d p q r s a b 0 0) := (F1.out.s1 b).below (Below.refl _ _).drew
  clear xc yc oc of F1
  obtain ⟨wv2, hv2⟩ : ∃ wv, wv = (wv1.setCell ⟨w.heap.size + 3, 1, none⟩ (.int .i64 b)).drew := ⟨_, rfl⟩
  rw [← hv2] at F2
  rw [← hv2]
  clear hv2
  have xc := F2.out.three.two.x.c2
  have yc := F2.out.three.two.y.c2
  have oc := F2.out.o.c2
  have of := F2.out.o.f 2
  rw [rounds_succ]
  go_wp2
  go_region
  go_wp2
  have F3 : Hid (Four w (wv2.setCell ⟨w.heap.size + 3, 2, none⟩ (.int .i64 r)).drew (w.heap.size + 3) a b c d p q r s a b r 0) := (F2.out.s2 r).below (Below.refl _ _).drew
  clear xc yc oc of F2
  obtain ⟨wv3, hv3⟩ : ∃ wv, wv = (wv2.setCell ⟨w.heap.size + 3, 2, none⟩ (.int .i64 r)).drew := ⟨_, rfl⟩
  rw [← hv3] at F3
  rw [← hv3]
  clear hv3
  have xc := F3.out.three.two.x.c3
  have yc := F3.out.three.two.y.c3
  have oc := F3.out.o.c3
  have of := F3.out.o.f 3
  rw [rounds_succ]
  go_wp2
  go_region
  go_wp2
  have F4 : Hid (Four w (wv3.setCell ⟨w.heap.size + 3, 3, none⟩ (.int .i64 s)).drew (w.heap.size + 3) a b c d p q r s a b r s) := (F3.out.s3 s).below (Below.refl _ _).drew
  clear xc yc oc of F3
  obtain ⟨wv4, hv4⟩ : ∃ wv, wv = (wv3.setCell ⟨w.heap.size + 3, 3, none⟩ (.int .i64 s)).drew := ⟨_, rfl⟩
  rw [← hv4] at F4
  rw [← hv4]
  clear hv4
  rw [rounds_succ]
  have oc0 := F4.out.o.c0
  have oc1 := F4.out.o.c1
  have oc2 := F4.out.o.c2
  have oc3 := F4.out.o.c3
  have zc0 := F4.out.three.z.c0
  have zc1 := F4.out.three.z.c1
  have zc2 := F4.out.three.z.c2
  have zc3 := F4.out.three.z.c3
  have zf0 := F4.out.three.z.f 0
  have zf1 := F4.out.three.z.f 1
  have zf2 := F4.out.three.z.f 2
  have zf3 := F4.out.three.z.f 3
  go_wp2
  exact bodyPost_ret (results_m1 (by rfl) _ (F4.out.three.z.set a b r s) rfl) rfl ⟨rfl, below_set F4.out.three.two.bel (by omega) _ _ _ _⟩

set_option maxHeartbeats 4000000 in
theorem rlcm_xyxx (a b c d p q r s : Int) (w : World) (h : Both a b c d p q r s) (n0 : p ≤ a) (n1 : b < q) (n2 : r ≤ c) (n3 : s ≤ d) :
    Calls Try.prog 18 #[.agg #[.int .i64 a, .int .i64 b, .int .i64 c, .int .i64 d], .agg #[.int .i64 p, .int .i64 q, .int .i64 r, .int .i64 s]] w fun e w' => e = .returned (.agg #[.int .i64 a, .int .i64 q, .int .i64 c, .int .i64 d]) ∧ Below w.heap.size w w' := by
  have F : Hid (Four w ((((w.alloc (.cells #[.int .i64 a, .int .i64 b, .int .i64 c, .int .i64 d] 23)).alloc (.cells #[.int .i64 p, .int .i64 q, .int .i64 r, .int .i64 s] 23)).alloc (.cells #[.int .i64 0, .int .i64 0, .int .i64 0, .int .i64 0] 23)).alloc (.cells #[.int .i64 0, .int .i64 0, .int .i64 0, .int .i64 0] 23)) (w.heap.size + 3) a b c d p q r s 0 0 0 0) := by have h := Four.new (Three.new w a b c d p q r s) 0 0 0 0; rw [size3] at h; exact h
  have H : Hid (Both a b c d p q r s) := h
  obtain ⟨⟨⟨a0, a1⟩, ⟨b0, b1⟩, ⟨c0, c1⟩, ⟨d0, d1⟩⟩, ⟨p0, p1⟩, ⟨q0, q1⟩, ⟨r0, r1⟩, ⟨s0, s1⟩⟩ := h
  go_enter Try.func18, Try.ntmps18
  go_wp2_with fail
  refine (rmay_yes _ _ _ _ _ H.out.a).mono ?_
  rintro e w1 ⟨rfl, g1⟩
  have F1 : Hid (Four w w1 (w.heap.size + 3) a b c d p q r s 0 0 0 0) := F.out.below g1
  clear g1 F
  have yc0 := F1.out.three.two.y.c0
  have yc1 := F1.out.three.two.y.c1
  have yc2 := F1.out.three.two.y.c2
  have yc3 := F1.out.three.two.y.c3
  go_wp2_with fail
  refine (rmay_yes _ _ _ _ _ H.out.b).mono ?_
  rintro e w2 ⟨rfl, g2⟩
  have F0 : Hid (Four w w2 (w.heap.size + 3) a b c d p q r s 0 0 0 0) := F1.out.below g2
  clear g2 F1 yc0 yc1 yc2 yc3
  go_wp2
  refine wp_loop_rounds 5 ?_
  have xc := F0.out.three.two.x.c0
  have yc := F0.out.three.two.y.c0
  have oc := F0.out.o.c0
  have of := F0.out.o.f 0
  rw [rounds_succ]
  go_wp2
  go_region
  go_wp2
  have F1 : Hid (Four w (w2.setCell ⟨w.heap.size + 3, 0, none⟩ (.int .i64 a)).drew (w.heap.size + 3) a b c d p q r s a 0 0 0) := (F0.out.s0 a).below (Below.refl _ _).drew
  clear xc yc oc of F0
  obtain ⟨wv1, hv1⟩ : ∃ wv, wv = (w2.setCell ⟨w.heap.size + 3, 0, none⟩ (.int .i64 a)).drew := ⟨_, rfl⟩
  rw [← hv1] at F1
  rw [← hv1]
  clear hv1
  have xc := F1.out.three.two.x.c1
  have yc := F1.out.three.two.y.c1
  have oc := F1.out.o.c1
  have of := F1.out.o.f 1
  rw [rounds_succ]
  go_wp2
  go_region
  go_wp2
  have F2 : Hid (Four w (wv1.setCell ⟨w.heap.size + 3, 1, none⟩ (.int .i64 q)).drew (w.heap.size + 3) a b c d p q r s a q 0 0) := (F1.out.s1 q).below (Below.refl _ _).drew
  clear xc yc oc of F1
  obtain ⟨wv2, hv2⟩ : ∃ wv, wv = (wv1.setCell ⟨w.heap.size + 3, 1, none⟩ (.int .i64 q)).drew := ⟨_, rfl⟩
  rw [← hv2] at F2
  rw [← hv2]
  clear hv2
  have xc := F2.out.three.two.x.c2
  have yc := F2.out.three.two.y.c2
  have oc := F2.out.o.c2
  have of := F2.out.o.f 2
  rw [rounds_succ]
  go_wp2
  go_region
  go_wp2
  have F3 : Hid (Four w (wv2.setCell ⟨w.heap.size + 3, 2, none⟩ (.int .i64 c)).drew (w.heap.size + 3) a b c d p q r s a q c 0) := (F2.out.s2 c).below (Below.refl _ _).drew
  clear xc yc oc of F2
  obtain ⟨wv3, hv3⟩ : ∃ wv, wv = (wv2.setCell ⟨w.heap.size + 3, 2, none⟩ (.int .i64 c)).drew := ⟨_, rfl⟩
  rw [← hv3] at F3
  rw [← hv3]
  clear hv3
  have xc := F3.out.three.two.x.c3
  have yc := F3.out.three.two.y.c3
  have oc := F3.out.o.c3
  have of := F3.out.o.f 3
  rw [rounds_succ]
  go_wp2
  go_region
  go_wp2
  have F4 : Hid (Four w (wv3.setCell ⟨w.heap.size + 3, 3, none⟩ (.int .i64 d)).drew (w.heap.size + 3) a b c d p q r s a q c d) := (F3.out.s3 d).below (Below.refl _ _).drew
  clear xc yc oc of F3
  obtain ⟨wv4, hv4⟩ : ∃ wv, wv = (wv3.setCell ⟨w.heap.size + 3, 3, none⟩ (.int .i64 d)).drew := ⟨_, rfl⟩
  rw [← hv4] at F4
  rw [← hv4]
  clear hv4
  rw [rounds_succ]
  have oc0 := F4.out.o.c0
  have oc1 := F4.out.o.c1
  have oc2 := F4.out.o.c2
  have oc3 := F4.out.o.c3
  have zc0 := F4.out.three.z.c0
  have zc1 := F4.out.three.z.c1
  have zc2 := F4.out.three.z.c2
  have zc3 := F4.out.three.z.c3
  have zf0 := F4.out.three.z.f 0
  have zf1 := F4.out.three.z.f 1
  have zf2 := F4.out.three.z.f 2
  have zf3 := F4.out.three.z.f 3
  go_wp2
  exact bodyPost_ret (results_m1 (by rfl) _ (F4.out.three.z.set a q c d) rfl) rfl ⟨rfl, below_set F4.out.three.two.bel (by omega) _ _ _ _⟩

set_option maxHeartbeats 4000000 in
theorem rlcm_xyxy (a b c d p q r s : Int) (w : World) (h : Both a b c d p q r s) (n0 : p ≤ a) (n1 : b < q) (n2 : r ≤ c) (n3 : d < s) :
    Calls Try.prog 18 #[.agg #[.int .i64 a, .int .i64 b, .int .i64 c, .int .i64 d], .agg #[.int .i64 p, .int .i64 q, .int .i64 r, .int .i64 s]] w fun e w' => e = .returned (.agg #[.int .i64 a, .int .i64 q, .int .i64 c, .int .i64 s]) ∧ Below w.heap.size w w' := by
  have F : Hid (Four w ((((w.alloc (.cells #[.int .i64 a, .int .i64 b, .int .i64 c, .int .i64 d] 23)).alloc (.cells #[.int .i64 p, .int .i64 q, .int .i64 r, .int .i64 s] 23)).alloc (.cells #[.int .i64 0, .int .i64 0, .int .i64 0, .int .i64 0] 23)).alloc (.cells #[.int .i64 0, .int .i64 0, .int .i64 0, .int .i64 0] 23)) (w.heap.size + 3) a b c d p q r s 0 0 0 0) := by have h := Four.new (Three.new w a b c d p q r s) 0 0 0 0; rw [size3] at h; exact h
  have H : Hid (Both a b c d p q r s) := h
  obtain ⟨⟨⟨a0, a1⟩, ⟨b0, b1⟩, ⟨c0, c1⟩, ⟨d0, d1⟩⟩, ⟨p0, p1⟩, ⟨q0, q1⟩, ⟨r0, r1⟩, ⟨s0, s1⟩⟩ := h
  go_enter Try.func18, Try.ntmps18
  go_wp2_with fail
  refine (rmay_yes _ _ _ _ _ H.out.a).mono ?_
  rintro e w1 ⟨rfl, g1⟩
  have F1 : Hid (Four w w1 (w.heap.size + 3) a b c d p q r s 0 0 0 0) := F.out.below g1
  clear g1 F
  have yc0 := F1.out.three.two.y.c0
  have yc1 := F1.out.three.two.y.c1
  have yc2 := F1.out.three.two.y.c2
  have yc3 := F1.out.three.two.y.c3
  go_wp2_with fail
  refine (rmay_yes _ _ _ _ _ H.out.b).mono ?_
  rintro e w2 ⟨rfl, g2⟩
  have F0 : Hid (Four w w2 (w.heap.size + 3) a b c d p q r s 0 0 0 0) := F1.out.below g2
  clear g2 F1 yc0 yc1 yc2 yc3
  go_wp2
  refine wp_loop_rounds 5 ?_
  have xc := F0.out.three.two.x.c0
  have yc := F0.out.three.two.y.c0
  have oc := F0.out.o.c0
  have of := F0.out.o.f 0
  rw [rounds_succ]
  go_wp2
  go_region
  go_wp2
  have F1 : Hid (Four w (w2.setCell ⟨w.heap.size + 3, 0, none⟩ (.int .i64 a)).drew (w.heap.size + 3) a b c d p q r s a 0 0 0) := (F0.out.s0 a).below (Below.refl _ _).drew
  clear xc yc oc of F0
  obtain ⟨wv1, hv1⟩ : ∃ wv, wv = (w2.setCell ⟨w.heap.size + 3, 0, none⟩ (.int .i64 a)).drew := ⟨_, rfl⟩
  rw [← hv1] at F1
  rw [← hv1]
  clear hv1
  have xc := F1.out.three.two.x.c1
  have yc := F1.out.three.two.y.c1
  have oc := F1.out.o.c1
  have of := F1.out.o.f 1
  rw [rounds_succ]
  go_wp2
  go_region
  go_wp2
  have F2 : Hid (Four w (wv1.setCell ⟨w.heap.size + 3, 1, none⟩ (.int .i64 q)).drew (w.heap.size + 3) a b c d p q r s a q 0 0) := (F1.out.s1 q).below (Below.refl _ _).drew
  clear xc yc oc of F1
  obtain ⟨wv2, hv2⟩ : ∃ wv, wv = (wv1.setCell ⟨w.heap.size + 3, 1, none⟩ (.int .i64 q)).drew := ⟨_, rfl⟩
  rw [← hv2] at F2
  rw [← hv2]
  clear hv2
  have xc := F2.out.three.two.x.c2
  have yc := F2.out.three.two.y.c2
  have oc := F2.out.o.c2
  have of := F2.out.o.f 2
  rw [rounds_succ]
  go_wp2
  go_region
  go_wp2
  have F3 : Hid (Four w (wv2.setCell ⟨w.heap.size + 3, 2, none⟩ (.int .i64 c)).drew (w.heap.size + 3) a b c d p q r s a q c 0) := (F2.out.s2 c).below (Below.refl _ _).drew
  clear xc yc oc of F2
  obtain ⟨wv3, hv3⟩ : ∃ wv, wv = (wv2.setCell ⟨w.heap.size + 3, 2, none⟩ (.int .i64 c)).drew := ⟨_, rfl⟩
  rw [← hv3] at F3
  rw [← hv3]
  clear hv3
  have xc := F3.out.three.two.x.c3
  have yc := F3.out.three.two.y.c3
  have oc := F3.out.o.c3
  have of := F3.out.o.f 3
  rw [rounds_succ]
  go_wp2
  go_region
  go_wp2
  have F4 : Hid (Four w (wv3.setCell ⟨w.heap.size + 3, 3, none⟩ (.int .i64 s)).drew (w.heap.size + 3) a b c d p q r s a q c s) := (F3.out.s3 s).below (Below.refl _ _).drew
  clear xc yc oc of F3
  obtain ⟨wv4, hv4⟩ : ∃ wv, wv = (wv3.setCell ⟨w.heap.size + 3, 3, none⟩ (.int .i64 s)).drew := ⟨_, rfl⟩
  rw [← hv4] at F4
  rw [← hv4]
  clear hv4
  rw [rounds_succ]
  have oc0 := F4.out.o.c0
  have oc1 := F4.out.o.c1
  have oc2 := F4.out.o.c2
  have oc3 := F4.out.o.c3
  have zc0 := F4.out.three.z.c0
  have zc1 := F4.out.three.z.c1
  have zc2 := F4.out.three.z.c2
  have zc3 := F4.out.three.z.c3
  have zf0 := F4.out.three.z.f 0
  have zf1 := F4.out.three.z.f 1
  have zf2 := F4.out.three.z.f 2
  have zf3 := F4.out.three.z.f 3
  go_wp2
  exact bodyPost_ret (results_m1 (by rfl) _ (F4.out.three.z.set a q c s) rfl) rfl ⟨rfl, below_set F4.out.three.two.bel (by omega) _ _ _ _⟩

set_option maxHeartbeats 4000000 in
theorem rlcm_xyyx (a b c d p q r s : Int) (w : World) (h : Both a b c d p q r s) (n0 : p ≤ a) (n1 : b < q) (n2 : c < r) (n3 : s ≤ d) :
    Calls Try.prog 18 #[.agg #[.int .i64 a, .int .i64 b, .int .i64 c, .int .i64 d], .agg #[.int .i64 p, .int .i64 q, .int .i64 r, .int .i64 s]] w fun e w' => e = .returned (.agg #[.int .i64 a, .int .i64 q, .int .i64 r, .int .i64 d]) ∧ Below w.heap.size w w' := by
  have F : Hid (Four w ((((w.alloc (.cells #[.int .i64 a, .int .i64 b, .int .i64 c, .int .i64 d] 23)).alloc (.cells #[.int .i64 p, .int .i64 q, .int .i64 r, .int .i64 s] 23)).alloc (.cells #[.int .i64 0, .int .i64 0, .int .i64 0, .int .i64 0] 23)).alloc (.cells #[.int .i64 0, .int .i64 0, .int .i64 0, .int .i64 0] 23)) (w.heap.size + 3) a b c d p q r s 0 0 0 0) := by have h := Four.new (Three.new w a b c d p q r s) 0 0 0 0; rw [size3] at h; exact h
  have H : Hid (Both a b c d p q r s) := h
  obtain ⟨⟨⟨a0, a1⟩, ⟨b0, b1⟩, ⟨c0, c1⟩, ⟨d0, d1⟩⟩, ⟨p0, p1⟩, ⟨q0, q1⟩, ⟨r0, r1⟩, ⟨s0, s1⟩⟩ := h
  go_enter Try.func18, Try.ntmps18
  go_wp2_with fail
  refine (rmay_yes _ _ _ _ _ H.out.a).mono ?_
  rintro e w1 ⟨rfl, g1⟩
  have F1 : Hid (Four w w1 (w.heap.size + 3) a b c d p q r s 0 0 0 0) := F.out.below g1
  clear g1 F
  have yc0 := F1.out.three.two.y.c0
  have yc1 := F1.out.three.two.y.c1
  have yc2 := F1.out.three.two.y.c2
  have yc3 := F1.out.three.two.y.c3
  go_wp2_with fail
  refine (rmay_yes _ _ _ _ _ H.out.b).mono ?_
  rintro e w2 ⟨rfl, g2⟩
  have F0 : Hid (Four w w2 (w.heap.size + 3) a b c d p q r s 0 0 0 0) := F1.out.below g2
  clear g2 F1 yc0 yc1 yc2 yc3
  go_wp2
  refine wp_loop_rounds 5 ?_
  have xc := F0.out.three.two.x.c0
  have yc := F0.out.three.two.y.c0
  have oc := F0.out.o.c0
  have of := F0.out.o.f 0
  rw [rounds_succ]
  go_wp2
  go_region
  go_wp2
  have F1 : Hid (Four w (w2.setCell ⟨w.heap.size + 3, 0, none⟩ (.int .i64 a)).drew (w.heap.size + 3) a b c d p q r s a 0 0 0) := (F0.out.s0 a).below (Below.refl _ _).drew
  clear xc yc oc of F0
  obtain ⟨wv1, hv1⟩ : ∃ wv, wv = (w2.setCell ⟨w.heap.size + 3, 0, none⟩ (.int .i64 a)).drew := ⟨_, rfl⟩
  rw [← hv1] at F1
  rw [← hv1]
  clear hv1
  have xc := F1.out.three.two.x.c1
  have yc := F1.out.three.two.y.c1
  have oc := F1.out.o.c1
  have of := F1.out.o.f 1
  rw [rounds_succ]
  go_wp2
  go_region
  go_wp2
  have F2 : Hid (Four w (wv1.setCell ⟨w.heap.size + 3, 1, none⟩ (.int .i64 q)).drew (w.heap.size + 3) a b c d p q r s a q 0 0) := (F1.out.s1 q).below (Below.refl _ _).drew
  clear xc yc oc of F1
  obtain ⟨wv2, hv2⟩ : ∃ wv, wv = (wv1.setCell ⟨w.heap.size + 3, 1, none⟩ (.int .i64 q)).drew := ⟨_, rfl⟩
  rw [← hv2] at F2
  rw [← hv2]
  clear hv2
  have xc := F2.out.three.two.x.c2
  have yc := F2.out.three.two.y.c2
  have oc := F2.out.o.c2
  have of := F2.out.o.f 2
  rw [rounds_succ]
  go_wp2
  go_region
  go_wp2
  have F3 : Hid (Four w (wv2.setCell ⟨w.heap.size + 3, 2, none⟩ (.int .i64 r)).drew (w.heap.size + 3) a b c d p q r s a q r 0) := (F2.out.s2 r).below (Below.refl _ _).drew
  clear xc yc oc of F2
  obtain ⟨wv3, hv3⟩ : ∃ wv, wv = (wv2.setCell ⟨w.heap.size + 3, 2, none⟩ (.int .i64 r)).drew := ⟨_, rfl⟩
  rw [← hv3] at F3
  rw [← hv3]
  clear hv3
  have xc := F3.out.three.two.x.c3
  have yc := F3.out.three.two.y.c3
  have oc := F3.out.o.c3
  have of := F3.out.o.f 3
  rw [rounds_succ]
  go_wp2
  go_region
  go_wp2
  have F4 : Hid (Four w (wv3.setCell ⟨w.heap.size + 3, 3, none⟩ (.int .i64 d)).drew (w.heap.size + 3) a b c d p q r s a q r d) := (F3.out.s3 d).below (Below.refl _ _).drew
  clear xc yc oc of F3
  obtain ⟨wv4, hv4⟩ : ∃ wv, wv = (wv3.setCell ⟨w.heap.size + 3, 3, none⟩ (.int .i64 d)).drew := ⟨_, rfl⟩
  rw [← hv4] at F4
  rw [← hv4]
  clear hv4
  rw [rounds_succ]
  have oc0 := F4.out.o.c0
  have oc1 := F4.out.o.c1
  have oc2 := F4.out.o.c2
  have oc3 := F4.out.o.c3
  have zc0 := F4.out.three.z.c0
  have zc1 := F4.out.three.z.c1
  have zc2 := F4.out.three.z.c2
  have zc3 := F4.out.three.z.c3
  have zf0 := F4.out.three.z.f 0
  have zf1 := F4.out.three.z.f 1
  have zf2 := F4.out.three.z.f 2
  have zf3 := F4.out.three.z.f 3
  go_wp2
  exact bodyPost_ret (results_m1 (by rfl) _ (F4.out.three.z.set a q r d) rfl) rfl ⟨rfl, below_set F4.out.three.two.bel (by omega) _ _ _ _⟩

set_option maxHeartbeats 4000000 in
theorem rlcm_xyyy (a b c d p q r s : Int) (w : World) (h : Both a b c d p q r s) (n0 : p ≤ a) (n1 : b < q) (n2 : c < r) (n3 : d < s) :
    Calls Try.prog 18 #[.agg #[.int .i64 a, .int .i64 b, .int .i64 c, .int .i64 d], .agg #[.int .i64 p, .int .i64 q, .int .i64 r, .int .i64 s]] w fun e w' => e = .returned (.agg #[.int .i64 a, .int .i64 q, .int .i64 r, .int .i64 s]) ∧ Below w.heap.size w w' := by
  have F : Hid (Four w ((((w.alloc (.cells #[.int .i64 a, .int .i64 b, .int .i64 c, .int .i64 d] 23)).alloc (.cells #[.int .i64 p, .int .i64 q, .int .i64 r, .int .i64 s] 23)).alloc (.cells #[.int .i64 0, .int .i64 0, .int .i64 0, .int .i64 0] 23)).alloc (.cells #[.int .i64 0, .int .i64 0, .int .i64 0, .int .i64 0] 23)) (w.heap.size + 3) a b c d p q r s 0 0 0 0) := by have h := Four.new (Three.new w a b c d p q r s) 0 0 0 0; rw [size3] at h; exact h
  have H : Hid (Both a b c d p q r s) := h
  obtain ⟨⟨⟨a0, a1⟩, ⟨b0, b1⟩, ⟨c0, c1⟩, ⟨d0, d1⟩⟩, ⟨p0, p1⟩, ⟨q0, q1⟩, ⟨r0, r1⟩, ⟨s0, s1⟩⟩ := h
  go_enter Try.func18, Try.ntmps18
  go_wp2_with fail
  refine (rmay_yes _ _ _ _ _ H.out.a).mono ?_
  rintro e w1 ⟨rfl, g1⟩
  have F1 : Hid (Four w w1 (w.heap.size + 3) a b c d p q r s 0 0 0 0) := F.out.below g1
  clear g1 F
  have yc0 := F1.out.three.two.y.c0
  have yc1 := F1.out.three.two.y.c1
  have yc2 := F1.out.three.two.y.c2
  have yc3 := F1.out.three.two.y.c3
  go_wp2_with fail
  refine (rmay_yes _ _ _ _ _ H.out.b).mono ?_
  rintro e w2 ⟨rfl, g2⟩
  have F0 : Hid (Four w w2 (w.heap.size + 3) a b c d p q r s 0 0 0 0) := F1.out.below g2
  clear g2 F1 yc0 yc1 yc2 yc3
  go_wp2
  refine wp_loop_rounds 5 ?_
  have xc := F0.out.three.two.x.c0
  have yc := F0.out.three.two.y.c0
  have oc := F0.out.o.c0
  have of := F0.out.o.f 0
  rw [rounds_succ]
  go_wp2
  go_region
  go_wp2
  have F1 : Hid (Four w (w2.setCell ⟨w.heap.size + 3, 0, none⟩ (.int .i64 a)).drew (w.heap.size + 3) a b c d p q r s a 0 0 0) := (F0.out.s0 a).below (Below.refl _ _).drew
  clear xc yc oc of F0
  obtain ⟨wv1, hv1⟩ : ∃ wv, wv = (w2.setCell ⟨w.heap.size + 3, 0, none⟩ (.int .i64 a)).drew := ⟨_, rfl⟩
  rw [← hv1] at F1
  rw [← hv1]
  clear hv1
  have xc := F1.out.three.two.x.c1
  have yc := F1.out.three.two.y.c1
  have oc := F1.out.o.c1
  have of := F1.out.o.f 1
  rw [rounds_succ]
  go_wp2
  go_region
  go_wp2
  have F2 : Hid (Four w (wv1.setCell ⟨w.heap.size + 3, 1, none⟩ (.int .i64 q)).drew (w.heap.size + 3) a b c d p q r s a q 0 0) := (F1.out.s1 q).below (Below.refl _ _).drew
  clear xc yc oc of F1
  obtain ⟨wv2, hv2⟩ : ∃ wv, wv = (wv1.setCell ⟨w.heap.size + 3, 1, none⟩ (.int .i64 q)).drew := ⟨_, rfl⟩
  rw [← hv2] at F2
  rw [← hv2]
  clear hv2
  have xc := F2.out.three.two.x.c2
  have yc := F2.out.three.two.y.c2
  have oc := F2.out.o.c2
  have of := F2.out.o.f 2
  rw [rounds_succ]
  go_wp2
  go_region
  go_wp2
  have F3 : Hid (Four w (wv2.setCell ⟨w.heap.size + 3, 2, none⟩ (.int .i64 r)).drew (w.heap.size + 3) a b c d p q r s a q r 0) := (F2.out.s2 r).below (Below.refl _ _).drew
  clear xc yc oc of F2
  obtain ⟨wv3, hv3⟩ : ∃ wv, wv = (wv2.setCell ⟨w.heap.size + 3, 2, none⟩ (.int .i64 r)).drew := ⟨_, rfl⟩
  rw [← hv3] at F3
  rw [← hv3]
  clear hv3
  have xc := F3.out.three.two.x.c3
  have yc := F3.out.three.two.y.c3
  have oc := F3.out.o.c3
  have of := F3.out.o.f 3
  rw [rounds_succ]
  go_wp2
  go_region
  go_wp2
  have F4 : Hid (Four w (wv3.setCell ⟨w.heap.size + 3, 3, none⟩ (.int .i64 s)).drew (w.heap.size + 3) a b c d p q r s a q r s) := (F3.out.s3 s).below (Below.refl _ _).drew
  clear xc yc oc of F3
  obtain ⟨wv4, hv4⟩ : ∃ wv, wv = (wv3.setCell ⟨w.heap.size + 3, 3, none⟩ (.int .i64 s)).drew := ⟨_, rfl⟩
  rw [← hv4] at F4
  rw [← hv4]
  clear hv4
  rw [rounds_succ]
  have oc0 := F4.out.o.c0
  have oc1 := F4.out.o.c1
  have oc2 := F4.out.o.c2
  have oc3 := F4.out.o.c3
  have zc0 := F4.out.three.z.c0
  have zc1 := F4.out.three.z.c1
  have zc2 := F4.out.three.z.c2
  have zc3 := F4.out.three.z.c3
  have zf0 := F4.out.three.z.f 0
  have zf1 := F4.out.three.z.f 1
  have zf2 := F4.out.three.z.f 2
  have zf3 := F4.out.three.z.f 3
  go_wp2
  exact bodyPost_ret (results_m1 (by rfl) _ (F4.out.three.z.set a q r s) rfl) rfl ⟨rfl, below_set F4.out.three.two.bel (by omega) _ _ _ _⟩

end Go.Proofs.Ytjecibpeahjenaa
