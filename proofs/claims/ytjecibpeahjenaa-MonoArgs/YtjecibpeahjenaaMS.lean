/-
  The reference's Div.
-/
import Derived.Test.YtjecibpeahjenaaMR
import Derived.Test.YtjecibpeahjenaaMQ
namespace Go.Proofs.Ytjecibpeahjenaa
open Go.RowKit
theorem size3 (w : World) (o o' o'' : Obj) : (((w.alloc o).alloc o').alloc o'').heap.size = w.heap.size + 3 := by simp

set_option maxHeartbeats 1000000 in
theorem rdiv_arg (a b c d p q r s : Int) (w : World) (h : ¬ Both a b c d p q r s) :
    Calls Try.prog 12 #[.agg #[.int .i64 a, .int .i64 b, .int .i64 c, .int .i64 d], .agg #[.int .i64 p, .int .i64 q, .int .i64 r, .int .i64 s]] w fun e w' => e = .returned (.tuple #[.agg #[.int .i64 0, .int .i64 0, .int .i64 0, .int .i64 0], .bool false]) ∧ Below w.heap.size w w' := by
  have F : Hid (Four w ((((w.alloc (.cells #[.int .i64 a, .int .i64 b, .int .i64 c, .int .i64 d] 23)).alloc (.cells #[.int .i64 p, .int .i64 q, .int .i64 r, .int .i64 s] 23)).alloc (.cells #[.int .i64 0, .int .i64 0, .int .i64 0, .int .i64 0] 23)).alloc (.cells #[.int .i64 0, .int .i64 0, .int .i64 0, .int .i64 0] 23)) (w.heap.size + 3) a b c d p q r s 0 0 0 0) := by have h := Four.new (Three.new w a b c d p q r s) 0 0 0 0; rw [size3] at h; exact h
  rcases not_both h with hn | ⟨hy, hn⟩
  · have H : Hid (¬ May4 a b c d) := hn
    clear h hn
    go_enter Try.func12, Try.ntmps12
    go_wp2_with fail
    refine (rmay_no _ _ _ _ _ H.out).mono ?_
    rintro e w1 ⟨rfl, q1⟩
    have F1 : Hid (Four w w1 (w.heap.size + 3) a b c d p q r s 0 0 0 0) := F.out.below q1
    clear q1 F
    have zc0 := F1.out.three.z.c0
    have zc1 := F1.out.three.z.c1
    have zc2 := F1.out.three.z.c2
    have zc3 := F1.out.three.z.c3
    have zf0 := F1.out.three.z.f 0
    have zf1 := F1.out.three.z.f 1
    have zf2 := F1.out.three.z.f 2
    have zf3 := F1.out.three.z.f 3
    have oc0 := F1.out.o.c0
    have oc1 := F1.out.o.c1
    have oc2 := F1.out.o.c2
    have oc3 := F1.out.o.c3
    go_wp2
    exact bodyPost_ret (results_m2 (by rfl) _ (F1.out.three.z.set 0 0 0 0) rfl _ rfl) rfl ⟨rfl, below_set F1.out.three.two.bel (by omega) _ _ _ _⟩
  · have H : Hid (May4 a b c d ∧ ¬ May4 p q r s) := ⟨hy, hn⟩
    clear h hn hy
    go_enter Try.func12, Try.ntmps12
    go_wp2_with fail
    refine (rmay_yes _ _ _ _ _ H.out.1).mono ?_
    rintro e w1 ⟨rfl, q1⟩
    have F1 : Hid (Four w w1 (w.heap.size + 3) a b c d p q r s 0 0 0 0) := F.out.below q1
    clear q1 F
    have yc0 := F1.out.three.two.y.c0
    have yc1 := F1.out.three.two.y.c1
    have yc2 := F1.out.three.two.y.c2
    have yc3 := F1.out.three.two.y.c3
    go_wp2_with fail
    refine (rmay_no _ _ _ _ _ H.out.2).mono ?_
    rintro e w2 ⟨rfl, q2⟩
    have F2 : Hid (Four w w2 (w.heap.size + 3) a b c d p q r s 0 0 0 0) := F1.out.below q2
    clear q2 F1 yc0 yc1 yc2 yc3
    have zc0 := F2.out.three.z.c0
    have zc1 := F2.out.three.z.c1
    have zc2 := F2.out.three.z.c2
    have zc3 := F2.out.three.z.c3
    have zf0 := F2.out.three.z.f 0
    have zf1 := F2.out.three.z.f 1
    have zf2 := F2.out.three.z.f 2
    have zf3 := F2.out.three.z.f 3
    have oc0 := F2.out.o.c0
    have oc1 := F2.out.o.c1
    have oc2 := F2.out.o.c2
    have oc3 := F2.out.o.c3
    go_wp2
    exact bodyPost_ret (results_m2 (by rfl) _ (F2.out.three.z.set 0 0 0 0) rfl _ rfl) rfl ⟨rfl, below_set F2.out.three.two.bel (by omega) _ _ _ _⟩

set_option maxHeartbeats 4000000 in
theorem rdiv_no0 (a b c d p q r s : Int) (w : World) (h : Both a b c d p q r s)  (g0 : a < p) :
    Calls Try.prog 12 #[.agg #[.int .i64 a, .int .i64 b, .int .i64 c, .int .i64 d], .agg #[.int .i64 p, .int .i64 q, .int .i64 r, .int .i64 s]] w fun e w' => e = .returned (.tuple #[.agg #[.int .i64 0, .int .i64 0, .int .i64 0, .int .i64 0], .bool false]) ∧ Below w.heap.size w w' := by
  have F : Hid (Four w ((((w.alloc (.cells #[.int .i64 a, .int .i64 b, .int .i64 c, .int .i64 d] 23)).alloc (.cells #[.int .i64 p, .int .i64 q, .int .i64 r, .int .i64 s] 23)).alloc (.cells #[.int .i64 0, .int .i64 0, .int .i64 0, .int .i64 0] 23)).alloc (.cells #[.int .i64 0, .int .i64 0, .int .i64 0, .int .i64 0] 23)) (w.heap.size + 3) a b c d p q r s 0 0 0 0) := by have h := Four.new (Three.new w a b c d p q r s) 0 0 0 0; rw [size3] at h; exact h
  have H : Hid (Both a b c d p q r s) := h
  obtain ⟨⟨⟨a0, a1⟩, ⟨b0, b1⟩, ⟨c0, c1⟩, ⟨d0, d1⟩⟩, ⟨p0, p1⟩, ⟨q0, q1⟩, ⟨r0, r1⟩, ⟨s0, s1⟩⟩ := h
  go_enter Try.func12, Try.ntmps12
  go_wp2_with fail
  refine (rmay_yes _ _ _ _ _ H.out.a).mono ?_
  rintro e w1 ⟨rfl, g1⟩
  have F1 : Hid (Four w w1 (w.heap.size + 3) a b c d p q r s 0 0 0 0) := F.out.below g1
  clear g1 F
  have yc0 := F1.out.three.two.y.c0
  have yc1 := F1.out.three.two.y.c1
  have yc2 := F1.out.three.two.y.c2
  have yc3 := F1.out.three.two.y.c3
  go_wp2_with fail
  refine (rmay_yes _ _ _ _ _ H.out.b).mono ?_
  rintro e w2 ⟨rfl, g2⟩
  have F0 : Hid (Four w w2 (w.heap.size + 3) a b c d p q r s 0 0 0 0) := F1.out.below g2
  clear g2 F1 yc0 yc1 yc2 yc3
  go_wp2
  refine wp_loop_rounds 5 ?_
  have xc := F0.out.three.two.x.c0
  have yc := F0.out.three.two.y.c0
  have zc0 := F0.out.three.z.c0
  have zc1 := F0.out.three.z.c1
  have zc2 := F0.out.three.z.c2
  have zc3 := F0.out.three.z.c3
  have zf0 := F0.out.three.z.f 0
  have zf1 := F0.out.three.z.f 1
  have zf2 := F0.out.three.z.f 2
  have zf3 := F0.out.three.z.f 3
  rw [rounds_succ]
  go_wp2
  go_quiet (fail)
  go_wp2
  have G := F0.out.below (below_drewN (Below.refl _ _) nq)
  exact bodyPost_ret (results_m2 (by rfl) _ (G.three.z.set 0 0 0 0) rfl _ rfl) rfl ⟨rfl, below_set G.three.two.bel (by omega) _ _ _ _⟩

set_option maxHeartbeats 4000000 in
theorem rdiv_no1 (a b c d p q r s : Int) (w : World) (h : Both a b c d p q r s) (g0 : p ≤ a) (g1 : b < q) :
    Calls Try.prog 12 #[.agg #[.int .i64 a, .int .i64 b, .int .i64 c, .int .i64 d], .agg #[.int .i64 p, .int .i64 q, .int .i64 r, .int .i64 s]] w fun e w' => e = .returned (.tuple #[.agg #[.int .i64 0, .int .i64 0, .int .i64 0, .int .i64 0], .bool false]) ∧ Below w.heap.size w w' := by
  have F : Hid (Four w ((((w.alloc (.cells #[.int .i64 a, .int .i64 b, .int .i64 c, .int .i64 d] 23)).alloc (.cells #[.int .i64 p, .int .i64 q, .int .i64 r, .int .i64 s] 23)).alloc (.cells #[.int .i64 0, .int .i64 0, .int .i64 0, .int .i64 0] 23)).alloc (.cells #[.int .i64 0, .int .i64 0, .int .i64 0, .int .i64 0] 23)) (w.heap.size + 3) a b c d p q r s 0 0 0 0) := by have h := Four.new (Three.new w a b c d p q r s) 0 0 0 0; rw [size3] at h; exact h
  have H : Hid (Both a b c d p q r s) := h
  obtain ⟨⟨⟨a0, a1⟩, ⟨b0, b1⟩, ⟨c0, c1⟩, ⟨d0, d1⟩⟩, ⟨p0, p1⟩, ⟨q0, q1⟩, ⟨r0, r1⟩, ⟨s0, s1⟩⟩ := h
  go_enter Try.func12, Try.ntmps12
  go_wp2_with fail
  refine (rmay_yes _ _ _ _ _ H.out.a).mono ?_
  rintro e w1 ⟨rfl, g1⟩
  have F1 : Hid (Four w w1 (w.heap.size + 3) a b c d p q r s 0 0 0 0) := F.out.below g1
  clear g1 F
  have yc0 := F1.out.three.two.y.c0
  have yc1 := F1.out.three.two.y.c1
  have yc2 := F1.out.three.two.y.c2
  have yc3 := F1.out.three.two.y.c3
  go_wp2_with fail
  refine (rmay_yes _ _ _ _ _ H.out.b).mono ?_
  rintro e w2 ⟨rfl, g2⟩
  have F0 : Hid (Four w w2 (w.heap.size + 3) a b c d p q r s 0 0 0 0) := F1.out.below g2
  clear g2 F1 yc0 yc1 yc2 yc3
  go_wp2
  refine wp_loop_rounds 5 ?_
  have xc := F0.out.three.two.x.c0
  have yc := F0.out.three.two.y.c0
  have oc := F0.out.o.c0
  have of := F0.out.o.f 0
  rw [rounds_succ]
  go_wp2
  go_quiet (fail)
  go_wp2
  have G0 : Hid (Four w (w2.drewN nq) (w.heap.size + 3) a b c d p q r s 0 0 0 0) := F0.out.below (below_drewN (Below.refl _ _) nq)
  obtain ⟨wq0, hq0⟩ : ∃ wq, wq = w2.drewN nq := ⟨_, rfl⟩
  rw [← hq0] at G0
  rw [← hq0]
  clear hq0 xc yc oc of F0 nq
  have xc := G0.out.three.two.x.c0
  have yc := G0.out.three.two.y.c0
  have oc := G0.out.o.c0
  have of := G0.out.o.f 0
  go_region
  go_wp2
  have F1 : Hid (Four w (wq0.setCell ⟨w.heap.size + 3, 0, none⟩ (.int .i64 (a - p))).drew (w.heap.size + 3) a b c d p q r s (a - p) 0 0 0) := (G0.out.s0 (a - p)).below (Below.refl _ _).drew
  clear xc yc oc of G0
  obtain ⟨wv1, hv1⟩ : ∃ wv, wv = (wq0.setCell ⟨w.heap.size + 3, 0, none⟩ (.int .i64 (a - p))).drew := ⟨_, rfl⟩
  rw [← hv1] at F1
  rw [← hv1]
  clear hv1
  have xc := F1.out.three.two.x.c1
  have yc := F1.out.three.two.y.c1
  have zc0 := F1.out.three.z.c0
  have zc1 := F1.out.three.z.c1
  have zc2 := F1.out.three.z.c2
  have zc3 := F1.out.three.z.c3
  have zf0 := F1.out.three.z.f 0
  have zf1 := F1.out.three.z.f 1
  have zf2 := F1.out.three.z.f 2
  have zf3 := F1.out.three.z.f 3
  rw [rounds_succ]
  go_wp2
  go_quiet (fail)
  go_wp2
  have G := F1.out.below (below_drewN (Below.refl _ _) nq)
  exact bodyPost_ret (results_m2 (by rfl) _ (G.three.z.set 0 0 0 0) rfl _ rfl) rfl ⟨rfl, below_set G.three.two.bel (by omega) _ _ _ _⟩

set_option maxHeartbeats 4000000 in
theorem rdiv_no2 (a b c d p q r s : Int) (w : World) (h : Both a b c d p q r s) (g0 : p ≤ a) (g1 : q ≤ b) (g2 : c < r) :
    Calls Try.prog 12 #[.agg #[.int .i64 a, .int .i64 b, .int .i64 c, .int .i64 d], .agg #[.int .i64 p, .int .i64 q, .int .i64 r, .int .i64 s]] w fun e w' => e = .returned (.tuple #[.agg #[.int .i64 0, .int .i64 0, .int .i64 0, .int .i64 0], .bool false]) ∧ Below w.heap.size w w' := by
  have F : Hid (Four w ((((w.alloc (.cells #[.int .i64 a, .int .i64 b, .int .i64 c, .int .i64 d] 23)).alloc (.cells #[.int .i64 p, .int .i64 q, .int .i64 r, .int .i64 s] 23)).alloc (.cells #[.int .i64 0, .int .i64 0, .int .i64 0, .int .i64 0] 23)).alloc (.cells #[.int .i64 0, .int .i64 0, .int .i64 0, .int .i64 0] 23)) (w.heap.size + 3) a b c d p q r s 0 0 0 0) := by have h := Four.new (Three.new w a b c d p q r s) 0 0 0 0; rw [size3] at h; exact h
  have H : Hid (Both a b c d p q r s) := h
  obtain ⟨⟨⟨a0, a1⟩, ⟨b0, b1⟩, ⟨c0, c1⟩, ⟨d0, d1⟩⟩, ⟨p0, p1⟩, ⟨q0, q1⟩, ⟨r0, r1⟩, ⟨s0, s1⟩⟩ := h
  go_enter Try.func12, Try.ntmps12
  go_wp2_with fail
  refine (rmay_yes _ _ _ _ _ H.out.a).mono ?_
  rintro e w1 ⟨rfl, g1⟩
  have F1 : Hid (Four w w1 (w.heap.size + 3) a b c d p q r s 0 0 0 0) := F.out.below g1
  clear g1 F
  have yc0 := F1.out.three.two.y.c0
  have yc1 := F1.out.three.two.y.c1
  have yc2 := F1.out.three.two.y.c2
  have yc3 := F1.out.three.two.y.c3
  go_wp2_with fail
  refine (rmay_yes _ _ _ _ _ H.out.b).mono ?_
  rintro e w2 ⟨rfl, g2⟩
  have F0 : Hid (Four w w2 (w.heap.size + 3) a b c d p q r s 0 0 0 0) := F1.out.below g2
  clear g2 F1 yc0 yc1 yc2 yc3
  go_wp2
  refine wp_loop_rounds 5 ?_
  have xc := F0.out.three.two.x.c0
  have yc := F0.out.three.two.y.c0
  have oc := F0.out.o.c0
  have of := F0.out.o.f 0
  rw [rounds_succ]
  go_wp2
  go_quiet (fail)
  go_wp2
  have G0 : Hid (Four w (w2.drewN nq) (w.heap.size + 3) a b c d p q r s 0 0 0 0) := F0.out.below (below_drewN (Below.refl _ _) nq)
  obtain ⟨wq0, hq0⟩ : ∃ wq, wq = w2.drewN nq := ⟨_, rfl⟩
  rw [← hq0] at G0
  rw [← hq0]
  clear hq0 xc yc oc of F0 nq
  have xc := G0.out.three.two.x.c0
  have yc := G0.out.three.two.y.c0
  have oc := G0.out.o.c0
  have of := G0.out.o.f 0
  go_region
  go_wp2
  have F1 : Hid (Four w (wq0.setCell ⟨w.heap.size + 3, 0, none⟩ (.int .i64 (a - p))).drew (w.heap.size + 3) a b c d p q r s (a - p) 0 0 0) := (G0.out.s0 (a - p)).below (Below.refl _ _).drew
  clear xc yc oc of G0
  obtain ⟨wv1, hv1⟩ : ∃ wv, wv = (wq0.setCell ⟨w.heap.size + 3, 0, none⟩ (.int .i64 (a - p))).drew := ⟨_, rfl⟩
  rw [← hv1] at F1
  rw [← hv1]
  clear hv1
  have xc := F1.out.three.two.x.c1
  have yc := F1.out.three.two.y.c1
  have oc := F1.out.o.c1
  have of := F1.out.o.f 1
  rw [rounds_succ]
  go_wp2
  go_quiet (fail)
  go_wp2
  have G1 : Hid (Four w (wv1.drewN nq) (w.heap.size + 3) a b c d p q r s (a - p) 0 0 0) := F1.out.below (below_drewN (Below.refl _ _) nq)
  obtain ⟨wq1, hq1⟩ : ∃ wq, wq = wv1.drewN nq := ⟨_, rfl⟩
  rw [← hq1] at G1
  rw [← hq1]
  clear hq1 xc yc oc of F1 nq
  have xc := G1.out.three.two.x.c1
  have yc := G1.out.three.two.y.c1
  have oc := G1.out.o.c1
  have of := G1.out.o.f 1
  go_region
  go_wp2
  have F2 : Hid (Four w (wq1.setCell ⟨w.heap.size + 3, 1, none⟩ (.int .i64 (b - q))).drew (w.heap.size + 3) a b c d p q r s (a - p) (b - q) 0 0) := (G1.out.s1 (b - q)).below (Below.refl _ _).drew
  clear xc yc oc of G1
  obtain ⟨wv2, hv2⟩ : ∃ wv, wv = (wq1.setCell ⟨w.heap.size + 3, 1, none⟩ (.int .i64 (b - q))).drew := ⟨_, rfl⟩
  rw [← hv2] at F2
  rw [← hv2]
  clear hv2
  have xc := F2.out.three.two.x.c2
  have yc := F2.out.three.two.y.c2
  have zc0 := F2.out.three.z.c0
  have zc1 := F2.out.three.z.c1
  have zc2 := F2.out.three.z.c2
  have zc3 := F2.out.three.z.c3
  have zf0 := F2.out.three.z.f 0
  have zf1 := F2.out.three.z.f 1
  have zf2 := F2.out.three.z.f 2
  have zf3 := F2.out.three.z.f 3
  rw [rounds_succ]
  go_wp2
  go_quiet (fail)
  go_wp2
  have G := F2.out.below (below_drewN (Below.refl _ _) nq)
  exact bodyPost_ret (results_m2 (by rfl) _ (G.three.z.set 0 0 0 0) rfl _ rfl) rfl ⟨rfl, below_set G.three.two.bel (by omega) _ _ _ _⟩

set_option maxHeartbeats 4000000 in
theorem rdiv_no3 (a b c d p q r s : Int) (w : World) (h : Both a b c d p q r s) (g0 : p ≤ a) (g1 : q ≤ b) (g2 : r ≤ c) (g3 : d < s) :
    Calls Try.prog 12 #[.agg #[.int .i64 a, .int .i64 b, .int .i64 c, .int .i64 d], .agg #[.int .i64 p, .int .i64 q, .int .i64 r, .int .i64 s]] w fun e w' => e = .returned (.tuple #[.agg #[.int .i64 0, .int .i64 0, .int .i64 0, .int .i64 0], .bool false]) ∧ Below w.heap.size w w' := by
  have F : Hid (Four w ((((w.alloc (.cells #[.int .i64 a, .int .i64 b, .int .i64 c, .int .i64 d] 23)).alloc (.cells #[.int .i64 p, .int .i64 q, .int .i64 r, .int .i64 s] 23)).alloc (.cells #[.int .i64 0, .int .i64 0, .int .i64 0, .int .i64 0] 23)).alloc (.cells #[.int .i64 0, .int .i64 0, .int .i64 0, .int .i64 0] 23)) (w.heap.size + 3) a b c d p q r s 0 0 0 0) := by have h := Four.new (Three.new w a b c d p q r s) 0 0 0 0; rw [size3] at h; exact h
  have H : Hid (Both a b c d p q r s) := h
  obtain ⟨⟨⟨a0, a1⟩, ⟨b0, b1⟩, ⟨c0, c1⟩, ⟨d0, d1⟩⟩, ⟨p0, p1⟩, ⟨q0, q1⟩, ⟨r0, r1⟩, ⟨s0, s1⟩⟩ := h
  go_enter Try.func12, Try.ntmps12
  go_wp2_with fail
  refine (rmay_yes _ _ _ _ _ H.out.a).mono ?_
  rintro e w1 ⟨rfl, g1⟩
  have F1 : Hid (Four w w1 (w.heap.size + 3) a b c d p q r s 0 0 0 0) := F.out.below g1
  clear g1 F
  have yc0 := F1.out.three.two.y.c0
  have yc1 := F1.out.three.two.y.c1
  have yc2 := F1.out.three.two.y.c2
  have yc3 := F1.out.three.two.y.c3
  go_wp2_with fail
  refine (rmay_yes _ _ _ _ _ H.out.b).mono ?_
  rintro e w2 ⟨rfl, g2⟩
  have F0 : Hid (Four w w2 (w.heap.size + 3) a b c d p q r s 0 0 0 0) := F1.out.below g2
  clear g2 F1 yc0 yc1 yc2 yc3
  go_wp2
  refine wp_loop_rounds 5 ?_
  have xc := F0.out.three.two.x.c0
  have yc := F0.out.three.two.y.c0
  have oc := F0.out.o.c0
  have of := F0.out.o.f 0
  rw [rounds_succ]
  go_wp2
  go_quiet (fail)
  go_wp2
  have G0 : Hid (Four w (w2.drewN nq) (w.heap.size + 3) a b c d p q r s 0 0 0 0) := F0.out.below (below_drewN (Below.refl _ _) nq)
  obtain ⟨wq0, hq0⟩ : ∃ wq, wq = w2.drewN nq := ⟨_, rfl⟩
  rw [← hq0] at G0
  rw [← hq0]
  clear hq0 xc yc oc of F0 nq
  have xc := G0.out.three.two.x.c0
  have yc := G0.out.three.two.y.c0
  have oc := G0.out.o.c0
  have of := G0.out.o.f 0
  go_region
  go_wp2
  have F1 : Hid (Four w (wq0.setCell ⟨w.heap.size + 3, 0, none⟩ (.int .i64 (a - p))).drew (w.heap.size + 3) a b c d p q r s (a - p) 0 0 0) := (G0.out.s0 (a - p)).below (Below.refl _ _).drew
  clear xc yc oc of G0
  obtain ⟨wv1, hv1⟩ : ∃ wv, wv = (wq0.setCell ⟨w.heap.size + 3, 0, none⟩ (.int .i64 (a - p))).drew := ⟨_, rfl⟩
  rw [← hv1] at F1
  rw [← hv1]
  clear hv1
  have xc := F1.out.three.two.x.c1
  have yc := F1.out.three.two.y.c1
  have oc := F1.out.o.c1
  have of := F1.out.o.f 1
  rw [rounds_succ]
  go_wp2
  go_quiet (fail)
  go_wp2
  have G1 : Hid (Four w (wv1.drewN nq) (w.heap.size + 3) a b c d p q r s (a - p) 0 0 0) := F1.out.below (below_drewN (Below.refl _ _) nq)
  obtain ⟨wq1, hq1⟩ : ∃ wq, wq = wv1.drewN nq := ⟨_, rfl⟩
  rw [← hq1] at G1
  rw [← hq1]
  clear hq1 xc yc oc of F1 nq
  have xc := G1.out.three.two.x.c1
  have yc := G1.out.three.two.y.c1
  have oc := G1.out.o.c1
  have of := G1.out.o.f 1
  go_region
  go_wp2
  have F2 : Hid (Four w (wq1.setCell ⟨w.heap.size + 3, 1, none⟩ (.int .i64 (b - q))).drew (w.heap.size + 3) a b c d p q r s (a - p) (b - q) 0 0) := (G1.out.s1 (b - q)).below (Below.refl _ _).drew
  clear xc yc oc of G1
  obtain ⟨wv2, hv2⟩ : ∃ wv, wv = (wq1.setCell ⟨w.heap.size + 3, 1, none⟩ (.int .i64 (b - q))).drew := ⟨_, rfl⟩
  rw [← hv2] at F2
  rw [← hv2]
  clear hv2
  have xc := F2.out.three.two.x.c2
  have yc := F2.out.three.two.y.c2
  have oc := F2.out.o.c2
  have of := F2.out.o.f 2
  rw [rounds_succ]
  go_wp2
  go_quiet (fail)
  go_wp2
  have G2 : Hid (Four w (wv2.drewN nq) (w.heap.size + 3) a b c d p q r s (a - p) (b - q) 0 0) := F2.out.below (below_drewN (Below.refl _ _) nq)
  obtain ⟨wq2, hq2⟩ : ∃ wq, wq = wv2.drewN nq := ⟨_, rfl⟩
  rw [← hq2] at G2
  rw [← hq2]
  clear hq2 xc yc oc of F2 nq
  have xc := G2.out.three.two.x.c2
  have yc := G2.out.three.two.y.c2
  have oc := G2.out.o.c2
  have of := G2.out.o.f 2
  go_region
  go_wp2
  have F3 : Hid (Four w (wq2.setCell ⟨w.heap.size + 3, 2, none⟩ (.int .i64 (c - r))).drew (w.heap.size + 3) a b c d p q r s (a - p) (b - q) (c - r) 0) := (G2.out.s2 (c - r)).below (Below.refl _ _).drew
  clear xc yc oc of G2
  obtain ⟨wv3, hv3⟩ : ∃ wv, wv = (wq2.setCell ⟨w.heap.size + 3, 2, none⟩ (.int .i64 (c - r))).drew := ⟨_, rfl⟩
  rw [← hv3] at F3
  rw [← hv3]
  clear hv3
  have xc := F3.out.three.two.x.c3
  have yc := F3.out.three.two.y.c3
  have zc0 := F3.out.three.z.c0
  have zc1 := F3.out.three.z.c1
  have zc2 := F3.out.three.z.c2
  have zc3 := F3.out.three.z.c3
  have zf0 := F3.out.three.z.f 0
  have zf1 := F3.out.three.z.f 1
  have zf2 := F3.out.three.z.f 2
  have zf3 := F3.out.three.z.f 3
  rw [rounds_succ]
  go_wp2
  go_quiet (fail)
  go_wp2
  have G := F3.out.below (below_drewN (Below.refl _ _) nq)
  exact bodyPost_ret (results_m2 (by rfl) _ (G.three.z.set 0 0 0 0) rfl _ rfl) rfl ⟨rfl, below_set G.three.two.bel (by omega) _ _ _ _⟩

set_option maxHeartbeats 4000000 in
theorem rdiv_ok (a b c d p q r s : Int) (w : World) (h : Both a b c d p q r s) (g0 : p ≤ a) (g1 : q ≤ b) (g2 : r ≤ c) (g3 : s ≤ d) :
    Calls Try.prog 12 #[.agg #[.int .i64 a, .int .i64 b, .int .i64 c, .int .i64 d], .agg #[.int .i64 p, .int .i64 q, .int .i64 r, .int .i64 s]] w fun e w' => e = .returned (.tuple #[.agg #[.int .i64 (a - p), .int .i64 (b - q), .int .i64 (c - r), .int .i64 (d - s)], .bool true]) ∧ Below w.heap.size w w' := by
  have F : Hid (Four w ((((w.alloc (.cells #[.int .i64 a, .int .i64 b, .int .i64 c, .int .i64 d] 23)).alloc (.cells #[.int .i64 p, .int .i64 q, .int .i64 r, .int .i64 s] 23)).alloc (.cells #[.int .i64 0, .int .i64 0, .int .i64 0, .int .i64 0] 23)).alloc (.cells #[.int .i64 0, .int .i64 0, .int .i64 0, .int .i64 0] 23)) (w.heap.size + 3) a b c d p q r s 0 0 0 0) := by have h := Four.new (Three.new w a b c d p q r s) 0 0 0 0; rw [size3] at h; exact h
  have H : Hid (Both a b c d p q r s) := h
  obtain ⟨⟨⟨a0, a1⟩, ⟨b0, b1⟩, ⟨c0, c1⟩, ⟨d0, d1⟩⟩, ⟨p0, p1⟩, ⟨q0, q1⟩, ⟨r0, r1⟩, ⟨s0, s1⟩⟩ := h
  go_enter Try.func12, Try.ntmps12
  go_wp2_with fail
  refine (rmay_yes _ _ _ _ _ H.out.a).mono ?_
  rintro e w1 ⟨rfl, g1⟩
  have F1 : Hid (Four w w1 (w.heap.size + 3) a b c d p q r s 0 0 0 0) := F.out.below g1
  clear g1 F
  have yc0 := F1.out.three.two.y.c0
  have yc1 := F1.out.three.two.y.c1
  have yc2 := F1.out.three.two.y.c2
  have yc3 := F1.out.three.two.y.c3
  go_wp2_with fail
  refine (rmay_yes _ _ _ _ _ H.out.b).mono ?_
  rintro e w2 ⟨rfl, g2⟩
  have F0 : Hid (Four w w2 (w.heap.size + 3) a b c d p q r s 0 0 0 0) := F1.out.below g2
  clear g2 F1 yc0 yc1 yc2 yc3
  go_wp2
  refine wp_loop_rounds 5 ?_
  have xc := F0.out.three.two.x.c0
  have yc := F0.out.three.two.y.c0
  have oc := F0.out.o.c0
  have of := F0.out.o.f 0
  rw [rounds_succ]
  go_wp2
  go_quiet (fail)
  go_wp2
  have G0 : Hid (Four w (w2.drewN nq) (w.heap.size + 3) a b c d p q r s 0 0 0 0) := F0.out.below (below_drewN (Below.refl _ _) nq)
  obtain ⟨wq0, hq0⟩ : ∃ wq, wq = w2.drewN nq := ⟨_, rfl⟩
  rw [← hq0] at G0
  rw [← hq0]
  clear hq0 xc yc oc of F0 nq
  have xc := G0.out.three.two.x.c0
  have yc := G0.out.three.two.y.c0
  have oc := G0.out.o.c0
  have of := G0.out.o.f 0
  go_region
  go_wp2
  have F1 : Hid (Four w (wq0.setCell ⟨w.heap.size + 3, 0, none⟩ (.int .i64 (a - p))).drew (w.heap.size + 3) a b c d p q r s (a - p) 0 0 0) := (G0.out.s0 (a - p)).below (Below.refl _ _).drew
  clear xc yc oc of G0
  obtain ⟨wv1, hv1⟩ : ∃ wv, wv = (wq0.setCell ⟨w.heap.size + 3, 0, none⟩ (.int .i64 (a - p))).drew := ⟨_, rfl⟩
  rw [← hv1] at F1
  rw [← hv1]
  clear hv1
  have xc := F1.out.three.two.x.c1
  have yc := F1.out.three.two.y.c1
  have oc := F1.out.o.c1
  have of := F1.out.o.f 1
  rw [rounds_succ]
  go_wp2
  go_quiet (fail)
  go_wp2
  have G1 : Hid (Four w (wv1.drewN nq) (w.heap.size + 3) a b c d p q r s (a - p) 0 0 0) := F1.out.below (below_drewN (Below.refl _ _) nq)
  obtain ⟨wq1, hq1⟩ : ∃ wq, wq = wv1.drewN nq := ⟨_, rfl⟩
  rw [← hq1] at G1
  rw [← hq1]
  clear hq1 xc yc oc of F1 nq
  have xc := G1.out.three.two.x.c1
  have yc := G1.out.three.two.y.c1
  have oc := G1.out.o.c1
  have of := G1.out.o.f 1
  go_region
  go_wp2
  have F2 : Hid (Four w (wq1.setCell ⟨w.heap.size + 3, 1, none⟩ (.int .i64 (b - q))).drew (w.heap.size + 3) a b c d p q r s (a - p) (b - q) 0 0) := (G1.out.s1 (b - q)).below (Below.refl _ _).drew
  clear xc yc oc of G1
  obtain ⟨wv2, hv2⟩ : ∃ wv, wv = (wq1.setCell ⟨w.heap.size + 3, 1, none⟩ (.int .i64 (b - q))).drew := ⟨_, rfl⟩
  rw [← hv2] at F2
  rw [← hv2]
  clear hv2
  have xc := F2.out.three.two.x.c2
  have yc := F2.out.three.two.y.c2
  have oc := F2.out.o.c2
  have of := F2.out.o.f 2
  rw [rounds_succ]
  go_wp2
  go_quiet (fail)
  go_wp2
  have G2 : Hid (Four w (wv2.drewN nq) (w.heap.size + 3) a b c d p q r s (a - p) (b - q) 0 0) := F2.out.below (below_drewN (Below.refl _ _) nq)
  obtain ⟨wq2, hq2⟩ : ∃ wq, wq = wv2.drewN nq := ⟨_, rfl⟩
  rw [← hq2] at G2
  rw [← hq2]
  clear hq2 xc yc oc of F2 nq
  have xc := G2.out.three.two.x.c2
  have yc := G2.out.three.two.y.c2
  have oc := G2.out.o.c2
  have of := G2.out.o.f 2
  go_region
  go_wp2
  have F3 : Hid (Four w (wq2.setCell ⟨w.heap.size + 3, 2, none⟩ (.int .i64 (c - r))).drew (w.heap.size + 3) a b c d p q r s (a - p) (b - q) (c - r) 0) := (G2.out.s2 (c - r)).below (Below.refl _ _).drew
  clear xc yc oc of G2
  obtain ⟨wv3, hv3⟩ : ∃ wv, wv = (wq2.setCell ⟨w.heap.size + 3, 2, none⟩ (.int .i64 (c - r))).drew := ⟨_, rfl⟩
  rw [← hv3] at F3
  rw [← hv3]
  clear hv3
  have xc := F3.out.three.two.x.c3
  have yc := F3.out.three.two.y.c3
  have oc := F3.out.o.c3
  have of := F3.out.o.f 3
  rw [rounds_succ]
  go_wp2
  go_quiet (fail)
  go_wp2
  have G3 : Hid (Four w (wv3.drewN nq) (w.heap.size + 3) a b c d p q r s (a - p) (b - q) (c - r) 0) := F3.out.below (below_drewN (Below.refl _ _) nq)
  obtain ⟨wq3, hq3⟩ : ∃ wq, wq = wv3.drewN nq := ⟨_, rfl⟩
  rw [← hq3] at G3
  rw [← hq3]
  clear hq3 xc yc oc of F3 nq
  have xc := G3.out.three.two.x.c3
  have yc := G3.out.three.two.y.c3
  have oc := G3.out.o.c3
  have of := G3.out.o.f 3
  go_region
  go_wp2
  have F4 : Hid (Four w (wq3.setCell ⟨w.heap.size + 3, 3, none⟩ (.int .i64 (d - s))).drew (w.heap.size + 3) a b c d p q r s (a - p) (b - q) (c - r) (d - s)) := (G3.out.s3 (d - s)).below (Below.refl _ _).drew
  clear xc yc oc of G3
  obtain ⟨wv4, hv4⟩ : ∃ wv, wv = (wq3.setCell ⟨w.heap.size + 3, 3, none⟩ (.int .i64 (d - s))).drew := ⟨_, rfl⟩
  rw [← hv4] at F4
  rw [← hv4]
  clear hv4
  rw [rounds_succ]
  have oc0 := F4.out.o.c0
  have oc1 := F4.out.o.c1
  have oc2 := F4.out.o.c2
  have oc3 := F4.out.o.c3
  have zc0 := F4.out.three.z.c0
  have zc1 := F4.out.three.z.c1
  have zc2 := F4.out.three.z.c2
  have zc3 := F4.out.three.z.c3
  have zf0 := F4.out.three.z.f 0
  have zf1 := F4.out.three.z.f 1
  have zf2 := F4.out.three.z.f 2
  have zf3 := F4.out.three.z.f 3
  go_wp2
  exact bodyPost_ret (results_m2 (by rfl) _ (F4.out.three.z.set (a - p) (b - q) (c - r) (d - s)) rfl _ rfl) rfl ⟨rfl, below_set F4.out.three.two.bel (by omega) _ _ _ _⟩

end Go.Proofs.Ytjecibpeahjenaa
