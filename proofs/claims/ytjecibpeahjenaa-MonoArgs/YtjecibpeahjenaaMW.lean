/-
  The reference's Cmp, of the same degree; all of it.
-/
import Derived.Test.YtjecibpeahjenaaMV
namespace Go.Proofs.Ytjecibpeahjenaa
open Go.RowKit

set_option maxHeartbeats 4000000 in
theorem rcmp_1eq (a b c d p q r s : Int) (w : World) (h : Both a b c d p q r s) (hd : a + b + c + d = p + q + r + s) :
    Calls Try.prog 22 #[.int .i64 1, .agg #[.int .i64 a, .int .i64 b, .int .i64 c, .int .i64 d], .agg #[.int .i64 p, .int .i64 q, .int .i64 r, .int .i64 s]] w fun e w' => e = .returned (.int .i64 (lexI a b c d p q r s)) ∧ Below w.heap.size w w' := by
  have T : Hid (Two w ((w.alloc (.cells #[.int .i64 a, .int .i64 b, .int .i64 c, .int .i64 d] 23)).alloc (.cells #[.int .i64 p, .int .i64 q, .int .i64 r, .int .i64 s] 23)) a b c d p q r s) := Two.new w a b c d p q r s
  have H : Hid (Both a b c d p q r s) := h
  obtain ⟨⟨⟨a0, a1⟩, ⟨b0, b1⟩, ⟨c0, c1⟩, ⟨d0, d1⟩⟩, ⟨p0, p1⟩, ⟨q0, q1⟩, ⟨r0, r1⟩, ⟨s0, s1⟩⟩ := h
  obtain ⟨dx, edx⟩ : ∃ n, n = a + b + c + d := ⟨_, rfl⟩
  obtain ⟨dy, edy⟩ : ∃ n, n = p + q + r + s := ⟨_, rfl⟩
  have DX : Hid (dx = a + b + c + d) := edx
  have DY : Hid (dy = p + q + r + s) := edy
  have deq : (dx == dy) = true := by rw [beq_iff_eq, edx, edy]; exact hd
  clear edx edy hd a0 a1 b0 b1 c0 c1 d0 d1 p0 p1 q0 q1 r0 r1 s0 s1
  go_enter Try.func22, Try.ntmps22
  go_wp2_with fail
  refine (rmay_yes _ _ _ _ _ H.out.a).mono ?_
  rintro e w1 ⟨rfl, g1⟩
  have T1 : Hid (Two w w1 a b c d p q r s) := T.out.below g1
  clear g1 T
  have yc0 := T1.out.y.c0
  have yc1 := T1.out.y.c1
  have yc2 := T1.out.y.c2
  have yc3 := T1.out.y.c3
  go_wp2_with fail
  refine (rmay_yes _ _ _ _ _ H.out.b).mono ?_
  rintro e w2 ⟨rfl, g2⟩
  have T2 : Hid (Two w w2 a b c d p q r s) := T1.out.below g2
  clear g2 T1 yc0 yc1 yc2 yc3
  go_wp2_with fail
  have T3 : Hid (Two w w2 a b c d p q r s) := T2.out
  clear T2
  have rx0 : ∀ n : Wd w2, n.w.cell? ⟨w.heap.size, 0, none⟩ = some (.int .i64 a) := fun n => at23_0 (n.at T3.out.x)
  have rx1 : ∀ n : Wd w2, n.w.cell? ⟨w.heap.size, 1, none⟩ = some (.int .i64 b) := fun n => at23_1 (n.at T3.out.x)
  have rx2 : ∀ n : Wd w2, n.w.cell? ⟨w.heap.size, 2, none⟩ = some (.int .i64 c) := fun n => at23_2 (n.at T3.out.x)
  have rx3 : ∀ n : Wd w2, n.w.cell? ⟨w.heap.size, 3, none⟩ = some (.int .i64 d) := fun n => at23_3 (n.at T3.out.x)
  have ry0 : ∀ n : Wd w2, n.w.cell? ⟨w.heap.size + 1, 0, none⟩ = some (.int .i64 p) := fun n => at23_0 (n.at T3.out.y)
  have ry1 : ∀ n : Wd w2, n.w.cell? ⟨w.heap.size + 1, 1, none⟩ = some (.int .i64 q) := fun n => at23_1 (n.at T3.out.y)
  have ry2 : ∀ n : Wd w2, n.w.cell? ⟨w.heap.size + 1, 2, none⟩ = some (.int .i64 r) := fun n => at23_2 (n.at T3.out.y)
  have ry3 : ∀ n : Wd w2, n.w.cell? ⟨w.heap.size + 1, 3, none⟩ = some (.int .i64 s) := fun n => at23_3 (n.at T3.out.y)
  have wne : Nonempty (Wd w2) := ⟨⟨_, Below.refl _ _⟩⟩
  refine region_wd (by kernel_rfl) (by kernel_rfl) ?_
  repeat (go_big_quiet_step ((first
    | (go_at_call 16; (with_reducible change Calls Try.prog 16 #[.agg #[.int .i64 a, .int .i64 b, .int .i64 c, .int .i64 d]] _ _); exact wd_of (rdeg_val a b c d dx _ H.out.a DX.out))
    | (go_at_call 16; (with_reducible change Calls Try.prog 16 #[.agg #[.int .i64 p, .int .i64 q, .int .i64 r, .int .i64 s]] _ _); exact wd_of (rdeg_val p q r s dy _ H.out.b DY.out)))))
  refine wpQuiet_nil ?_
  intro _ hw
  obtain ⟨nq, hq⟩ := hw
  subst hq
  have T4 : Hid (Two w nq.w a b c d p q r s) := T3.out.below nq.h
  clear wne rx0 rx1 rx2 rx3 ry0 ry1 ry2 ry3 T3
  obtain ⟨w4, h4⟩ : ∃ w4, w4 = nq.w := ⟨_, rfl⟩
  rw [← h4] at T4
  rw [← h4]
  clear h4 nq
  have xc0 := T4.out.x.c0
  have xc1 := T4.out.x.c1
  have xc2 := T4.out.x.c2
  have xc3 := T4.out.x.c3
  have yc0 := T4.out.y.c0
  have yc1 := T4.out.y.c1
  have yc2 := T4.out.y.c2
  have yc3 := T4.out.y.c3
  go_wp2_with fail
  refine (rlex_any a b c d p q r s _ H.out).mono ?_
  rintro e w5 ⟨rfl, g5⟩
  have HB : Hid (Below w.heap.size w w5) := chain T4.out.bel g5
  clear g5 T4 xc0 xc1 xc2 xc3 yc0 yc1 yc2 yc3
  go_wp2
  go_ret
  exact ⟨rfl, HB.out⟩

set_option maxHeartbeats 4000000 in
theorem rcmp_2eq0 (a b c d p q r s : Int) (w : World) (h : Both a b c d p q r s) (hd : a + b + c + d = p + q + r + s) (ed : d ≠ s) :
    Calls Try.prog 22 #[.int .i64 2, .agg #[.int .i64 a, .int .i64 b, .int .i64 c, .int .i64 d], .agg #[.int .i64 p, .int .i64 q, .int .i64 r, .int .i64 s]] w fun e w' => e = .returned (.int .i64 (cmpI s d)) ∧ Below w.heap.size w w' := by
  have gd : (d == s) = false := by simp [ed]
  clear ed
  have T : Hid (Two w ((w.alloc (.cells #[.int .i64 a, .int .i64 b, .int .i64 c, .int .i64 d] 23)).alloc (.cells #[.int .i64 p, .int .i64 q, .int .i64 r, .int .i64 s] 23)) a b c d p q r s) := Two.new w a b c d p q r s
  have H : Hid (Both a b c d p q r s) := h
  obtain ⟨⟨⟨a0, a1⟩, ⟨b0, b1⟩, ⟨c0, c1⟩, ⟨d0, d1⟩⟩, ⟨p0, p1⟩, ⟨q0, q1⟩, ⟨r0, r1⟩, ⟨s0, s1⟩⟩ := h
  obtain ⟨dx, edx⟩ : ∃ n, n = a + b + c + d := ⟨_, rfl⟩
  obtain ⟨dy, edy⟩ : ∃ n, n = p + q + r + s := ⟨_, rfl⟩
  have DX : Hid (dx = a + b + c + d) := edx
  have DY : Hid (dy = p + q + r + s) := edy
  have deq : (dx == dy) = true := by rw [beq_iff_eq, edx, edy]; exact hd
  clear edx edy hd
  go_enter Try.func22, Try.ntmps22
  go_wp2_with fail
  refine (rmay_yes _ _ _ _ _ H.out.a).mono ?_
  rintro e w1 ⟨rfl, g1⟩
  have T1 : Hid (Two w w1 a b c d p q r s) := T.out.below g1
  clear g1 T
  have yc0 := T1.out.y.c0
  have yc1 := T1.out.y.c1
  have yc2 := T1.out.y.c2
  have yc3 := T1.out.y.c3
  go_wp2_with fail
  refine (rmay_yes _ _ _ _ _ H.out.b).mono ?_
  rintro e w2 ⟨rfl, g2⟩
  have T2 : Hid (Two w w2 a b c d p q r s) := T1.out.below g2
  clear g2 T1 yc0 yc1 yc2 yc3
  go_wp2_with fail
  have T3 : Hid (Two w w2 a b c d p q r s) := T2.out
  clear T2
  have rx0 : ∀ n : Wd w2, n.w.cell? ⟨w.heap.size, 0, none⟩ = some (.int .i64 a) := fun n => at23_0 (n.at T3.out.x)
  have rx1 : ∀ n : Wd w2, n.w.cell? ⟨w.heap.size, 1, none⟩ = some (.int .i64 b) := fun n => at23_1 (n.at T3.out.x)
  have rx2 : ∀ n : Wd w2, n.w.cell? ⟨w.heap.size, 2, none⟩ = some (.int .i64 c) := fun n => at23_2 (n.at T3.out.x)
  have rx3 : ∀ n : Wd w2, n.w.cell? ⟨w.heap.size, 3, none⟩ = some (.int .i64 d) := fun n => at23_3 (n.at T3.out.x)
  have ry0 : ∀ n : Wd w2, n.w.cell? ⟨w.heap.size + 1, 0, none⟩ = some (.int .i64 p) := fun n => at23_0 (n.at T3.out.y)
  have ry1 : ∀ n : Wd w2, n.w.cell? ⟨w.heap.size + 1, 1, none⟩ = some (.int .i64 q) := fun n => at23_1 (n.at T3.out.y)
  have ry2 : ∀ n : Wd w2, n.w.cell? ⟨w.heap.size + 1, 2, none⟩ = some (.int .i64 r) := fun n => at23_2 (n.at T3.out.y)
  have ry3 : ∀ n : Wd w2, n.w.cell? ⟨w.heap.size + 1, 3, none⟩ = some (.int .i64 s) := fun n => at23_3 (n.at T3.out.y)
  have wne : Nonempty (Wd w2) := ⟨⟨_, Below.refl _ _⟩⟩
  refine region_wd (by kernel_rfl) (by kernel_rfl) ?_
  repeat (go_big_quiet_step ((first
    | (go_at_call 16; (with_reducible change Calls Try.prog 16 #[.agg #[.int .i64 a, .int .i64 b, .int .i64 c, .int .i64 d]] _ _); exact wd_of (rdeg_val a b c d dx _ H.out.a DX.out))
    | (go_at_call 16; (with_reducible change Calls Try.prog 16 #[.agg #[.int .i64 p, .int .i64 q, .int .i64 r, .int .i64 s]] _ _); exact wd_of (rdeg_val p q r s dy _ H.out.b DY.out)))))
  refine wpQuiet_nil ?_
  intro _ hw
  obtain ⟨nq, hq⟩ := hw
  subst hq
  have T4 : Hid (Two w nq.w a b c d p q r s) := T3.out.below nq.h
  clear wne rx0 rx1 rx2 rx3 ry0 ry1 ry2 ry3 T3
  obtain ⟨w4, h4⟩ : ∃ w4, w4 = nq.w := ⟨_, rfl⟩
  rw [← h4] at T4
  rw [← h4]
  clear h4 nq
  have xc0 := T4.out.x.c0
  have xc1 := T4.out.x.c1
  have xc2 := T4.out.x.c2
  have xc3 := T4.out.x.c3
  have yc0 := T4.out.y.c0
  have yc1 := T4.out.y.c1
  have yc2 := T4.out.y.c2
  have yc3 := T4.out.y.c3
  go_wp2
  refine wp_loop_rounds 5 ?_
  rw [rounds_succ]
  go_wp2
  go_quiet (fail)
  go_wp2
  go_quiet ((go_at_call 33; exact (sign_any _ s d _ rfl).mono fun _ _ ⟨he, hw⟩ => ⟨he, _, hw⟩))
  go_wp2
  go_ret
  refine ⟨rfl, ?_⟩
  repeat (first | exact T4.out.bel | refine below_drewN ?_ _)

set_option maxHeartbeats 4000000 in
theorem rcmp_2eq1 (a b c d p q r s : Int) (w : World) (h : Both a b c d p q r s) (hd : a + b + c + d = p + q + r + s) (ed : d = s) (ec : c ≠ r) :
    Calls Try.prog 22 #[.int .i64 2, .agg #[.int .i64 a, .int .i64 b, .int .i64 c, .int .i64 d], .agg #[.int .i64 p, .int .i64 q, .int .i64 r, .int .i64 s]] w fun e w' => e = .returned (.int .i64 (cmpI r c)) ∧ Below w.heap.size w w' := by
  have gd : (d == s) = true := by simp [ed]
  have gc : (c == r) = false := by simp [ec]
  clear ed ec
  have T : Hid (Two w ((w.alloc (.cells #[.int .i64 a, .int .i64 b, .int .i64 c, .int .i64 d] 23)).alloc (.cells #[.int .i64 p, .int .i64 q, .int .i64 r, .int .i64 s] 23)) a b c d p q r s) := Two.new w a b c d p q r s
  have H : Hid (Both a b c d p q r s) := h
  obtain ⟨⟨⟨a0, a1⟩, ⟨b0, b1⟩, ⟨c0, c1⟩, ⟨d0, d1⟩⟩, ⟨p0, p1⟩, ⟨q0, q1⟩, ⟨r0, r1⟩, ⟨s0, s1⟩⟩ := h
  obtain ⟨dx, edx⟩ : ∃ n, n = a + b + c + d := ⟨_, rfl⟩
  obtain ⟨dy, edy⟩ : ∃ n, n = p + q + r + s := ⟨_, rfl⟩
  have DX : Hid (dx = a + b + c + d) := edx
  have DY : Hid (dy = p + q + r + s) := edy
  have deq : (dx == dy) = true := by rw [beq_iff_eq, edx, edy]; exact hd
  clear edx edy hd
  go_enter Try.func22, Try.ntmps22
  go_wp2_with fail
  refine (rmay_yes _ _ _ _ _ H.out.a).mono ?_
  rintro e w1 ⟨rfl, g1⟩
  have T1 : Hid (Two w w1 a b c d p q r s) := T.out.below g1
  clear g1 T
  have yc0 := T1.out.y.c0
  have yc1 := T1.out.y.c1
  have yc2 := T1.out.y.c2
  have yc3 := T1.out.y.c3
  go_wp2_with fail
  refine (rmay_yes _ _ _ _ _ H.out.b).mono ?_
  rintro e w2 ⟨rfl, g2⟩
  have T2 : Hid (Two w w2 a b c d p q r s) := T1.out.below g2
  clear g2 T1 yc0 yc1 yc2 yc3
  go_wp2_with fail
  have T3 : Hid (Two w w2 a b c d p q r s) := T2.out
  clear T2
  have rx0 : ∀ n : Wd w2, n.w.cell? ⟨w.heap.size, 0, none⟩ = some (.int .i64 a) := fun n => at23_0 (n.at T3.out.x)
  have rx1 : ∀ n : Wd w2, n.w.cell? ⟨w.heap.size, 1, none⟩ = some (.int .i64 b) := fun n => at23_1 (n.at T3.out.x)
  have rx2 : ∀ n : Wd w2, n.w.cell? ⟨w.heap.size, 2, none⟩ = some (.int .i64 c) := fun n => at23_2 (n.at T3.out.x)
  have rx3 : ∀ n : Wd w2, n.w.cell? ⟨w.heap.size, 3, none⟩ = some (.int .i64 d) := fun n => at23_3 (n.at T3.out.x)
  have ry0 : ∀ n : Wd w2, n.w.cell? ⟨w.heap.size + 1, 0, none⟩ = some (.int .i64 p) := fun n => at23_0 (n.at T3.out.y)
  have ry1 : ∀ n : Wd w2, n.w.cell? ⟨w.heap.size + 1, 1, none⟩ = some (.int .i64 q) := fun n => at23_1 (n.at T3.out.y)
  have ry2 : ∀ n : Wd w2, n.w.cell? ⟨w.heap.size + 1, 2, none⟩ = some (.int .i64 r) := fun n => at23_2 (n.at T3.out.y)
  have ry3 : ∀ n : Wd w2, n.w.cell? ⟨w.heap.size + 1, 3, none⟩ = some (.int .i64 s) := fun n => at23_3 (n.at T3.out.y)
  have wne : Nonempty (Wd w2) := ⟨⟨_, Below.refl _ _⟩⟩
  refine region_wd (by kernel_rfl) (by kernel_rfl) ?_
  repeat (go_big_quiet_step ((first
    | (go_at_call 16; (with_reducible change Calls Try.prog 16 #[.agg #[.int .i64 a, .int .i64 b, .int .i64 c, .int .i64 d]] _ _); exact wd_of (rdeg_val a b c d dx _ H.out.a DX.out))
    | (go_at_call 16; (with_reducible change Calls Try.prog 16 #[.agg #[.int .i64 p, .int .i64 q, .int .i64 r, .int .i64 s]] _ _); exact wd_of (rdeg_val p q r s dy _ H.out.b DY.out)))))
  refine wpQuiet_nil ?_
  intro _ hw
  obtain ⟨nq, hq⟩ := hw
  subst hq
  have T4 : Hid (Two w nq.w a b c d p q r s) := T3.out.below nq.h
  clear wne rx0 rx1 rx2 rx3 ry0 ry1 ry2 ry3 T3
  obtain ⟨w4, h4⟩ : ∃ w4, w4 = nq.w := ⟨_, rfl⟩
  rw [← h4] at T4
  rw [← h4]
  clear h4 nq
  have xc0 := T4.out.x.c0
  have xc1 := T4.out.x.c1
  have xc2 := T4.out.x.c2
  have xc3 := T4.out.x.c3
  have yc0 := T4.out.y.c0
  have yc1 := T4.out.y.c1
  have yc2 := T4.out.y.c2
  have yc3 := T4.out.y.c3
  go_wp2
  refine wp_loop_rounds 5 ?_
  rw [rounds_succ]
  go_wp2
  go_quiet (fail)
  go_wp2
  rw [rounds_succ]
  go_wp2
  go_quiet (fail)
  go_wp2
  go_quiet ((go_at_call 33; exact (sign_any _ r c _ rfl).mono fun _ _ ⟨he, hw⟩ => ⟨he, _, hw⟩))
  go_wp2
  go_ret
  refine ⟨rfl, ?_⟩
  repeat (first | exact T4.out.bel | refine below_drewN ?_ _)

set_option maxHeartbeats 4000000 in
theorem rcmp_2eq2 (a b c d p q r s : Int) (w : World) (h : Both a b c d p q r s) (hd : a + b + c + d = p + q + r + s) (ed : d = s) (ec : c = r) (eb : b ≠ q) :
    Calls Try.prog 22 #[.int .i64 2, .agg #[.int .i64 a, .int .i64 b, .int .i64 c, .int .i64 d], .agg #[.int .i64 p, .int .i64 q, .int .i64 r, .int .i64 s]] w fun e w' => e = .returned (.int .i64 (cmpI q b)) ∧ Below w.heap.size w w' := by
  have gd : (d == s) = true := by simp [ed]
  have gc : (c == r) = true := by simp [ec]
  have gb : (b == q) = false := by simp [eb]
  clear ed ec eb
  have T : Hid (Two w ((w.alloc (.cells #[.int .i64 a, .int .i64 b, .int .i64 c, .int .i64 d] 23)).alloc (.cells #[.int .i64 p, .int .i64 q, .int .i64 r, .int .i64 s] 23)) a b c d p q r s) := Two.new w a b c d p q r s
  have H : Hid (Both a b c d p q r s) := h
  obtain ⟨⟨⟨a0, a1⟩, ⟨b0, b1⟩, ⟨c0, c1⟩, ⟨d0, d1⟩⟩, ⟨p0, p1⟩, ⟨q0, q1⟩, ⟨r0, r1⟩, ⟨s0, s1⟩⟩ := h
  obtain ⟨dx, edx⟩ : ∃ n, n = a + b + c + d := ⟨_, rfl⟩
  obtain ⟨dy, edy⟩ : ∃ n, n = p + q + r + s := ⟨_, rfl⟩
  have DX : Hid (dx = a + b + c + d) := edx
  have DY : Hid (dy = p + q + r + s) := edy
  have deq : (dx == dy) = true := by rw [beq_iff_eq, edx, edy]; exact hd
  clear edx edy hd
  go_enter Try.func22, Try.ntmps22
  go_wp2_with fail
  refine (rmay_yes _ _ _ _ _ H.out.a).mono ?_
  rintro e w1 ⟨rfl, g1⟩
  have T1 : Hid (Two w w1 a b c d p q r s) := T.out.below g1
  clear g1 T
  have yc0 := T1.out.y.c0
  have yc1 := T1.out.y.c1
  have yc2 := T1.out.y.c2
  have yc3 := T1.out.y.c3
  go_wp2_with fail
  refine (rmay_yes _ _ _ _ _ H.out.b).mono ?_
  rintro e w2 ⟨rfl, g2⟩
  have T2 : Hid (Two w w2 a b c d p q r s) := T1.out.below g2
  clear g2 T1 yc0 yc1 yc2 yc3
  go_wp2_with fail
  have T3 : Hid (Two w w2 a b c d p q r s) := T2.out
  clear T2
  have rx0 : ∀ n : Wd w2, n.w.cell? ⟨w.heap.size, 0, none⟩ = some (.int .i64 a) := fun n => at23_0 (n.at T3.out.x)
  have rx1 : ∀ n : Wd w2, n.w.cell? ⟨w.heap.size, 1, none⟩ = some (.int .i64 b) := fun n => at23_1 (n.at T3.out.x)
  have rx2 : ∀ n : Wd w2, n.w.cell? ⟨w.heap.size, 2, none⟩ = some (.int .i64 c) := fun n => at23_2 (n.at T3.out.x)
  have rx3 : ∀ n : Wd w2, n.w.cell? ⟨w.heap.size, 3, none⟩ = some (.int .i64 d) := fun n => at23_3 (n.at T3.out.x)
  have ry0 : ∀ n : Wd w2, n.w.cell? ⟨w.heap.size + 1, 0, none⟩ = some (.int .i64 p) := fun n => at23_0 (n.at T3.out.y)
  have ry1 : ∀ n : Wd w2, n.w.cell? ⟨w.heap.size + 1, 1, none⟩ = some (.int .i64 q) := fun n => at23_1 (n.at T3.out.y)
  have ry2 : ∀ n : Wd w2, n.w.cell? ⟨w.heap.size + 1, 2, none⟩ = some (.int .i64 r) := fun n => at23_2 (n.at T3.out.y)
  have ry3 : ∀ n : Wd w2, n.w.cell? ⟨w.heap.size + 1, 3, none⟩ = some (.int .i64 s) := fun n => at23_3 (n.at T3.out.y)
  have wne : Nonempty (Wd w2) := ⟨⟨_, Below.refl _ _⟩⟩
  refine region_wd (by kernel_rfl) (by kernel_rfl) ?_
  repeat (go_big_quiet_step ((first
    | (go_at_call 16; (with_reducible change Calls Try.prog 16 #[.agg #[.int .i64 a, .int .i64 b, .int .i64 c, .int .i64 d]] _ _); exact wd_of (rdeg_val a b c d dx _ H.out.a DX.out))
    | (go_at_call 16; (with_reducible change Calls Try.prog 16 #[.agg #[.int .i64 p, .int .i64 q, .int .i64 r, .int .i64 s]] _ _); exact wd_of (rdeg_val p q r s dy _ H.out.b DY.out)))))
  refine wpQuiet_nil ?_
  intro _ hw
  obtain ⟨nq, hq⟩ := hw
  subst hq
  have T4 : Hid (Two w nq.w a b c d p q r s) := T3.out.below nq.h
  clear wne rx0 rx1 rx2 rx3 ry0 ry1 ry2 ry3 T3
  obtain ⟨w4, h4⟩ : ∃ w4, w4 = nq.w := ⟨_, rfl⟩
  rw [← h4] at T4
  rw [← h4]
  clear h4 nq
  have xc0 := T4.out.x.c0
  have xc1 := T4.out.x.c1
  have xc2 := T4.out.x.c2
  have xc3 := T4.out.x.c3
  have yc0 := T4.out.y.c0
  have yc1 := T4.out.y.c1
  have yc2 := T4.out.y.c2
  have yc3 := T4.out.y.c3
  go_wp2
  refine wp_loop_rounds 5 ?_
  rw [rounds_succ]
  go_wp2
  go_quiet (fail)
  go_wp2
  rw [rounds_succ]
  go_wp2
  go_quiet (fail)
  go_wp2
  rw [rounds_succ]
  go_wp2
  go_quiet (fail)
  go_wp2
  go_quiet ((go_at_call 33; exact (sign_any _ q b _ rfl).mono fun _ _ ⟨he, hw⟩ => ⟨he, _, hw⟩))
  go_wp2
  go_ret
  refine ⟨rfl, ?_⟩
  repeat (first | exact T4.out.bel | refine below_drewN ?_ _)

set_option maxHeartbeats 4000000 in
theorem rcmp_2eq3 (a b c d p q r s : Int) (w : World) (h : Both a b c d p q r s) (hd : a + b + c + d = p + q + r + s) (ed : d = s) (ec : c = r) (eb : b = q) (ea : a ≠ p) :
    Calls Try.prog 22 #[.int .i64 2, .agg #[.int .i64 a, .int .i64 b, .int .i64 c, .int .i64 d], .agg #[.int .i64 p, .int .i64 q, .int .i64 r, .int .i64 s]] w fun e w' => e = .returned (.int .i64 (cmpI p a)) ∧ Below w.heap.size w w' := by
  have gd : (d == s) = true := by simp [ed]
  have gc : (c == r) = true := by simp [ec]
  have gb : (b == q) = true := by simp [eb]
  have ga : (a == p) = false := by simp [ea]
  clear ed ec eb ea
  have T : Hid (Two w ((w.alloc (.cells #[.int .i64 a, .int .i64 b, .int .i64 c, .int .i64 d] 23)).alloc (.cells #[.int .i64 p, .int .i64 q, .int .i64 r, .int .i64 s] 23)) a b c d p q r s) := Two.new w a b c d p q r s
  have H : Hid (Both a b c d p q r s) := h
  obtain ⟨⟨⟨a0, a1⟩, ⟨b0, b1⟩, ⟨c0, c1⟩, ⟨d0, d1⟩⟩, ⟨p0, p1⟩, ⟨q0, q1⟩, ⟨r0, r1⟩, ⟨s0, s1⟩⟩ := h
  obtain ⟨dx, edx⟩ : ∃ n, n = a + b + c + d := ⟨_, rfl⟩
  obtain ⟨dy, edy⟩ : ∃ n, n = p + q + r + s := ⟨_, rfl⟩
  have DX : Hid (dx = a + b + c + d) := edx
  have DY : Hid (dy = p + q + r + s) := edy
  have deq : (dx == dy) = true := by rw [beq_iff_eq, edx, edy]; exact hd
  clear edx edy hd
  go_enter Try.func22, Try.ntmps22
  go_wp2_with fail
  refine (rmay_yes _ _ _ _ _ H.out.a).mono ?_
  rintro e w1 ⟨rfl, g1⟩
  have T1 : Hid (Two w w1 a b c d p q r s) := T.out.below g1
  clear g1 T
  have yc0 := T1.out.y.c0
  have yc1 := T1.out.y.c1
  have yc2 := T1.out.y.c2
  have yc3 := T1.out.y.c3
  go_wp2_with fail
  refine (rmay_yes _ _ _ _ _ H.out.b).mono ?_
  rintro e w2 ⟨rfl, g2⟩
  have T2 : Hid (Two w w2 a b c d p q r s) := T1.out.below g2
  clear g2 T1 yc0 yc1 yc2 yc3
  go_wp2_with fail
  have T3 : Hid (Two w w2 a b c d p q r s) := T2.out
  clear T2
  have rx0 : ∀ n : Wd w2, n.w.cell? ⟨w.heap.size, 0, none⟩ = some (.int .i64 a) := fun n => at23_0 (n.at T3.out.x)
  have rx1 : ∀ n : Wd w2, n.w.cell? ⟨w.heap.size, 1, none⟩ = some (.int .i64 b) := fun n => at23_1 (n.at T3.out.x)
  have rx2 : ∀ n : Wd w2, n.w.cell? ⟨w.heap.size, 2, none⟩ = some (.int .i64 c) := fun n => at23_2 (n.at T3.out.x)
  have rx3 : ∀ n : Wd w2, n.w.cell? ⟨w.heap.size, 3, none⟩ = some (.int .i64 d) := fun n => at23_3 (n.at T3.out.x)
  have ry0 : ∀ n : Wd w2, n.w.cell? ⟨w.heap.size + 1, 0, none⟩ = some (.int .i64 p) := fun n => at23_0 (n.at T3.out.y)
  have ry1 : ∀ n : Wd w2, n.w.cell? ⟨w.heap.size + 1, 1, none⟩ = some (.int .i64 q) := fun n => at23_1 (n.at T3.out.y)
  have ry2 : ∀ n : Wd w2, n.w.cell? ⟨w.heap.size + 1, 2, none⟩ = some (.int .i64 r) := fun n => at23_2 (n.at T3.out.y)
  have ry3 : ∀ n : Wd w2, n.w.cell? ⟨w.heap.size + 1, 3, none⟩ = some (.int .i64 s) := fun n => at23_3 (n.at T3.out.y)
  have wne : Nonempty (Wd w2) := ⟨⟨_, Below.refl _ _⟩⟩
  refine region_wd (by kernel_rfl) (by kernel_rfl) ?_
  repeat (go_big_quiet_step ((first
    | (go_at_call 16; (with_reducible change Calls Try.prog 16 #[.agg #[.int .i64 a, .int .i64 b, .int .i64 c, .int .i64 d]] _ _); exact wd_of (rdeg_val a b c d dx _ H.out.a DX.out))
    | (go_at_call 16; (with_reducible change Calls Try.prog 16 #[.agg #[.int .i64 p, .int .i64 q, .int .i64 r, .int .i64 s]] _ _); exact wd_of (rdeg_val p q r s dy _ H.out.b DY.out)))))
  refine wpQuiet_nil ?_
  intro _ hw
  obtain ⟨nq, hq⟩ := hw
  subst hq
  have T4 : Hid (Two w nq.w a b c d p q r s) := T3.out.below nq.h
  clear wne rx0 rx1 rx2 rx3 ry0 ry1 ry2 ry3 T3
  obtain ⟨w4, h4⟩ : ∃ w4, w4 = nq.w := ⟨_, rfl⟩
  rw [← h4] at T4
  rw [← h4]
  clear h4 nq
  have xc0 := T4.out.x.c0
  have xc1 := T4.out.x.c1
  have xc2 := T4.out.x.c2
  have xc3 := T4.out.x.c3
  have yc0 := T4.out.y.c0
  have yc1 := T4.out.y.c1
  have yc2 := T4.out.y.c2
  have yc3 := T4.out.y.c3
  go_wp2
  refine wp_loop_rounds 5 ?_
  rw [rounds_succ]
  go_wp2
  go_quiet (fail)
  go_wp2
  rw [rounds_succ]
  go_wp2
  go_quiet (fail)
  go_wp2
  rw [rounds_succ]
  go_wp2
  go_quiet (fail)
  go_wp2
  rw [rounds_succ]
  go_wp2
  go_quiet (fail)
  go_wp2
  go_quiet ((go_at_call 33; exact (sign_any _ p a _ rfl).mono fun _ _ ⟨he, hw⟩ => ⟨he, _, hw⟩))
  go_wp2
  go_ret
  refine ⟨rfl, ?_⟩
  repeat (first | exact T4.out.bel | refine below_drewN ?_ _)

set_option maxHeartbeats 4000000 in
theorem rcmp_2eq4 (a b c d p q r s : Int) (w : World) (h : Both a b c d p q r s) (hd : a + b + c + d = p + q + r + s) (ed : d = s) (ec : c = r) (eb : b = q) (ea : a = p) :
    Calls Try.prog 22 #[.int .i64 2, .agg #[.int .i64 a, .int .i64 b, .int .i64 c, .int .i64 d], .agg #[.int .i64 p, .int .i64 q, .int .i64 r, .int .i64 s]] w fun e w' => e = .returned (.int .i64 (0)) ∧ Below w.heap.size w w' := by
  have gd : (d == s) = true := by simp [ed]
  have gc : (c == r) = true := by simp [ec]
  have gb : (b == q) = true := by simp [eb]
  have ga : (a == p) = true := by simp [ea]
  clear ed ec eb ea
  have T : Hid (Two w ((w.alloc (.cells #[.int .i64 a, .int .i64 b, .int .i64 c, .int .i64 d] 23)).alloc (.cells #[.int .i64 p, .int .i64 q, .int .i64 r, .int .i64 s] 23)) a b c d p q r s) := Two.new w a b c d p q r s
  have H : Hid (Both a b c d p q r s) := h
  obtain ⟨⟨⟨a0, a1⟩, ⟨b0, b1⟩, ⟨c0, c1⟩, ⟨d0, d1⟩⟩, ⟨p0, p1⟩, ⟨q0, q1⟩, ⟨r0, r1⟩, ⟨s0, s1⟩⟩ := h
  obtain ⟨dx, edx⟩ : ∃ n, n = a + b + c + d := ⟨_, rfl⟩
  obtain ⟨dy, edy⟩ : ∃ n, n = p + q + r + s := ⟨_, rfl⟩
  have DX : Hid (dx = a + b + c + d) := edx
  have DY : Hid (dy = p + q + r + s) := edy
  have deq : (dx == dy) = true := by rw [beq_iff_eq, edx, edy]; exact hd
  clear edx edy hd
  go_enter Try.func22, Try.ntmps22
  go_wp2_with fail
  refine (rmay_yes _ _ _ _ _ H.out.a).mono ?_
  rintro e w1 ⟨rfl, g1⟩
  have T1 : Hid (Two w w1 a b c d p q r s) := T.out.below g1
  clear g1 T
  have yc0 := T1.out.y.c0
  have yc1 := T1.out.y.c1
  have yc2 := T1.out.y.c2
  have yc3 := T1.out.y.c3
  go_wp2_with fail
  refine (rmay_yes _ _ _ _ _ H.out.b).mono ?_
  rintro e w2 ⟨rfl, g2⟩
  have T2 : Hid (Two w w2 a b c d p q r s) := T1.out.below g2
  clear g2 T1 yc0 yc1 yc2 yc3
  go_wp2_with fail
  have T3 : Hid (Two w w2 a b c d p q r s) := T2.out
  clear T2
  have rx0 : ∀ n : Wd w2, n.w.cell? ⟨w.heap.size, 0, none⟩ = some (.int .i64 a) := fun n => at23_0 (n.at T3.out.x)
  have rx1 : ∀ n : Wd w2, n.w.cell? ⟨w.heap.size, 1, none⟩ = some (.int .i64 b) := fun n => at23_1 (n.at T3.out.x)
  have rx2 : ∀ n : Wd w2, n.w.cell? ⟨w.heap.size, 2, none⟩ = some (.int .i64 c) := fun n => at23_2 (n.at T3.out.x)
  have rx3 : ∀ n : Wd w2, n.w.cell? ⟨w.heap.size, 3, none⟩ = some (.int .i64 d) := fun n => at23_3 (n.at T3.out.x)
  have ry0 : ∀ n : Wd w2, n.w.cell? ⟨w.heap.size + 1, 0, none⟩ = some (.int .i64 p) := fun n => at23_0 (n.at T3.out.y)
  have ry1 : ∀ n : Wd w2, n.w.cell? ⟨w.heap.size + 1, 1, none⟩ = some (.int .i64 q) := fun n => at23_1 (n.at T3.out.y)
  have ry2 : ∀ n : Wd w2, n.w.cell? ⟨w.heap.size + 1, 2, none⟩ = some (.int .i64 r) := fun n => at23_2 (n.at T3.out.y)
  have ry3 : ∀ n : Wd w2, n.w.cell? ⟨w.heap.size + 1, 3, none⟩ = some (.int .i64 s) := fun n => at23_3 (n.at T3.out.y)
  have wne : Nonempty (Wd w2) := ⟨⟨_, Below.refl _ _⟩⟩
  refine region_wd (by kernel_rfl) (by kernel_rfl) ?_
  repeat (go_big_quiet_step ((first
    | (go_at_call 16; (with_reducible change Calls Try.prog 16 #[.agg #[.int .i64 a, .int .i64 b, .int .i64 c, .int .i64 d]] _ _); exact wd_of (rdeg_val a b c d dx _ H.out.a DX.out))
    | (go_at_call 16; (with_reducible change Calls Try.prog 16 #[.agg #[.int .i64 p, .int .i64 q, .int .i64 r, .int .i64 s]] _ _); exact wd_of (rdeg_val p q r s dy _ H.out.b DY.out)))))
  refine wpQuiet_nil ?_
  intro _ hw
  obtain ⟨nq, hq⟩ := hw
  subst hq
  have T4 : Hid (Two w nq.w a b c d p q r s) := T3.out.below nq.h
  clear wne rx0 rx1 rx2 rx3 ry0 ry1 ry2 ry3 T3
  obtain ⟨w4, h4⟩ : ∃ w4, w4 = nq.w := ⟨_, rfl⟩
  rw [← h4] at T4
  rw [← h4]
  clear h4 nq
  have xc0 := T4.out.x.c0
  have xc1 := T4.out.x.c1
  have xc2 := T4.out.x.c2
  have xc3 := T4.out.x.c3
  have yc0 := T4.out.y.c0
  have yc1 := T4.out.y.c1
  have yc2 := T4.out.y.c2
  have yc3 := T4.out.y.c3
  go_wp2
  refine wp_loop_rounds 5 ?_
  rw [rounds_succ]
  go_wp2
  go_quiet (fail)
  go_wp2
  rw [rounds_succ]
  go_wp2
  go_quiet (fail)
  go_wp2
  rw [rounds_succ]
  go_wp2
  go_quiet (fail)
  go_wp2
  rw [rounds_succ]
  go_wp2
  go_quiet (fail)
  go_wp2
  rw [rounds_succ]
  go_wp2
  go_ret
  refine ⟨rfl, ?_⟩
  repeat (first | exact T4.out.bel | refine below_drewN ?_ _)

theorem rcmp_2eq (a b c d p q r s : Int) (w : World) (h : Both a b c d p q r s) (hd : a + b + c + d = p + q + r + s) : Calls Try.prog 22 #[.int .i64 2, .agg #[.int .i64 a, .int .i64 b, .int .i64 c, .int .i64 d], .agg #[.int .i64 p, .int .i64 q, .int .i64 r, .int .i64 s]] w fun e w' => e = .returned (.int .i64 (revI a b c d p q r s)) ∧ Below w.heap.size w w' := by
  by_cases ed : d = s
  · by_cases ec : c = r
    · by_cases eb : b = q
      · by_cases ea : a = p
        · have g := rcmp_2eq4 a b c d p q r s w h hd ed ec eb ea
          rwa [show (0 : Int) = revI a b c d p q r s by simp [revI, cmpI, ea, eb, ec, ed]] at g
        · have g := rcmp_2eq3 a b c d p q r s w h hd ed ec eb ea
          rwa [show cmpI p a = revI a b c d p q r s by simp [revI, ed, ec, eb]] at g
      · have g := rcmp_2eq2 a b c d p q r s w h hd ed ec eb
        rwa [show cmpI q b = revI a b c d p q r s by simp [revI, ed, ec, eb]] at g
    · have g := rcmp_2eq1 a b c d p q r s w h hd ed ec
      rwa [show cmpI r c = revI a b c d p q r s by simp [revI, ed, ec]] at g
  · have g := rcmp_2eq0 a b c d p q r s w h hd ed
    rwa [show cmpI s d = revI a b c d p q r s by simp [revI, ed]] at g

theorem rcmp_val (o a b c d p q r s k : Int) (w : World) (h : CmpIs o a b c d p q r s k) :
    Calls Try.prog 22 #[.int .i64 o, .agg #[.int .i64 a, .int .i64 b, .int .i64 c, .int .i64 d], .agg #[.int .i64 p, .int .i64 q, .int .i64 r, .int .i64 s]] w fun e w' => e = .returned (.int .i64 k) ∧ Below w.heap.size w w' := by
  by_cases hb : Both a b c d p q r s
  · by_cases ho : o < 0 ∨ 2 < o
    · rw [h.out ho]
      exact rcmp_out o a b c d p q r s w hb ho
    · have h3 : o = 0 ∨ o = 1 ∨ o = 2 := by omega
      rcases h3 with rfl | rfl | rfl
      · rw [h.lex hb rfl]
        exact rcmp_0 a b c d p q r s w hb
      · rw [h.grl hb rfl]
        unfold degI
        by_cases hd : a + b + c + d = p + q + r + s
        · rw [if_pos hd]
          exact rcmp_1eq a b c d p q r s w hb hd
        · rw [if_neg hd]
          exact rcmp_1ne a b c d p q r s w hb hd
      · rw [h.rev hb rfl]
        unfold degI
        by_cases hd : a + b + c + d = p + q + r + s
        · rw [if_pos hd]
          exact rcmp_2eq a b c d p q r s w hb hd
        · rw [if_neg hd]
          exact rcmp_2ne a b c d p q r s w hb hd
  · rw [h.arg hb]
    exact rcmp_arg o a b c d p q r s w hb

end Go.Proofs.Ytjecibpeahjenaa
