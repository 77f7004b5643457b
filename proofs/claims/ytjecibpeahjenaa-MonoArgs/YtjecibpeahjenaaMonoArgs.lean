/-
  Proved here: for every input MonoArgs returns true, and leaves its arguments as they were. No condition.
-/
import Derived.Test.YtjecibpeahjenaaMY
import Derived.Deep.Cut
import Derived.Deep.CutRange
import Derived.Deep.CutBlock
namespace Go.Proofs.Ytjecibpeahjenaa.monoArgs
open Go.ChangeShapes Go.WideShapes Go.ChangeAt Go.RowKit

/-- The first exponent that may not be, of both. -/
theorem first_bad {a0 a1 a2 a3 b0 b1 b2 b3 : Int} (h : ¬ Both a0 a1 a2 a3 b0 b1 b2 b3) : (a0 < 0) ∨ (0 ≤ a0 ∧ 40 < a0) ∨ (0 ≤ a0 ∧ a0 ≤ 40 ∧ b0 < 0) ∨ (0 ≤ a0 ∧ a0 ≤ 40 ∧ 0 ≤ b0 ∧ 40 < b0) ∨ (0 ≤ a0 ∧ a0 ≤ 40 ∧ 0 ≤ b0 ∧ b0 ≤ 40 ∧ a1 < 0) ∨ (0 ≤ a0 ∧ a0 ≤ 40 ∧ 0 ≤ b0 ∧ b0 ≤ 40 ∧ 0 ≤ a1 ∧ 40 < a1) ∨ (0 ≤ a0 ∧ a0 ≤ 40 ∧ 0 ≤ b0 ∧ b0 ≤ 40 ∧ 0 ≤ a1 ∧ a1 ≤ 40 ∧ b1 < 0) ∨ (0 ≤ a0 ∧ a0 ≤ 40 ∧ 0 ≤ b0 ∧ b0 ≤ 40 ∧ 0 ≤ a1 ∧ a1 ≤ 40 ∧ 0 ≤ b1 ∧ 40 < b1) ∨ (0 ≤ a0 ∧ a0 ≤ 40 ∧ 0 ≤ b0 ∧ b0 ≤ 40 ∧ 0 ≤ a1 ∧ a1 ≤ 40 ∧ 0 ≤ b1 ∧ b1 ≤ 40 ∧ a2 < 0) ∨ (0 ≤ a0 ∧ a0 ≤ 40 ∧ 0 ≤ b0 ∧ b0 ≤ 40 ∧ 0 ≤ a1 ∧ a1 ≤ 40 ∧ 0 ≤ b1 ∧ b1 ≤ 40 ∧ 0 ≤ a2 ∧ 40 < a2) ∨ (0 ≤ a0 ∧ a0 ≤ 40 ∧ 0 ≤ b0 ∧ b0 ≤ 40 ∧ 0 ≤ a1 ∧ a1 ≤ 40 ∧ 0 ≤ b1 ∧ b1 ≤ 40 ∧ 0 ≤ a2 ∧ a2 ≤ 40 ∧ b2 < 0) ∨ (0 ≤ a0 ∧ a0 ≤ 40 ∧ 0 ≤ b0 ∧ b0 ≤ 40 ∧ 0 ≤ a1 ∧ a1 ≤ 40 ∧ 0 ≤ b1 ∧ b1 ≤ 40 ∧ 0 ≤ a2 ∧ a2 ≤ 40 ∧ 0 ≤ b2 ∧ 40 < b2) ∨ (0 ≤ a0 ∧ a0 ≤ 40 ∧ 0 ≤ b0 ∧ b0 ≤ 40 ∧ 0 ≤ a1 ∧ a1 ≤ 40 ∧ 0 ≤ b1 ∧ b1 ≤ 40 ∧ 0 ≤ a2 ∧ a2 ≤ 40 ∧ 0 ≤ b2 ∧ b2 ≤ 40 ∧ a3 < 0) ∨ (0 ≤ a0 ∧ a0 ≤ 40 ∧ 0 ≤ b0 ∧ b0 ≤ 40 ∧ 0 ≤ a1 ∧ a1 ≤ 40 ∧ 0 ≤ b1 ∧ b1 ≤ 40 ∧ 0 ≤ a2 ∧ a2 ≤ 40 ∧ 0 ≤ b2 ∧ b2 ≤ 40 ∧ 0 ≤ a3 ∧ 40 < a3) ∨ (0 ≤ a0 ∧ a0 ≤ 40 ∧ 0 ≤ b0 ∧ b0 ≤ 40 ∧ 0 ≤ a1 ∧ a1 ≤ 40 ∧ 0 ≤ b1 ∧ b1 ≤ 40 ∧ 0 ≤ a2 ∧ a2 ≤ 40 ∧ 0 ≤ b2 ∧ b2 ≤ 40 ∧ 0 ≤ a3 ∧ a3 ≤ 40 ∧ b3 < 0) ∨ (0 ≤ a0 ∧ a0 ≤ 40 ∧ 0 ≤ b0 ∧ b0 ≤ 40 ∧ 0 ≤ a1 ∧ a1 ≤ 40 ∧ 0 ≤ b1 ∧ b1 ≤ 40 ∧ 0 ≤ a2 ∧ a2 ≤ 40 ∧ 0 ≤ b2 ∧ b2 ≤ 40 ∧ 0 ≤ a3 ∧ a3 ≤ 40 ∧ 0 ≤ b3 ∧ 40 < b3) := by
  rcases Int.lt_or_le a0 0 with f0 | f0
  · exact (Or.inl f0)
  rcases Int.lt_or_le 40 a0 with f1 | f1
  · exact (Or.inr (Or.inl ⟨f0, f1⟩))
  rcases Int.lt_or_le b0 0 with f2 | f2
  · exact (Or.inr (Or.inr (Or.inl ⟨f0, f1, f2⟩)))
  rcases Int.lt_or_le 40 b0 with f3 | f3
  · exact (Or.inr (Or.inr (Or.inr (Or.inl ⟨f0, f1, f2, f3⟩))))
  rcases Int.lt_or_le a1 0 with f4 | f4
  · exact (Or.inr (Or.inr (Or.inr (Or.inr (Or.inl ⟨f0, f1, f2, f3, f4⟩)))))
  rcases Int.lt_or_le 40 a1 with f5 | f5
  · exact (Or.inr (Or.inr (Or.inr (Or.inr (Or.inr (Or.inl ⟨f0, f1, f2, f3, f4, f5⟩))))))
  rcases Int.lt_or_le b1 0 with f6 | f6
  · exact (Or.inr (Or.inr (Or.inr (Or.inr (Or.inr (Or.inr (Or.inl ⟨f0, f1, f2, f3, f4, f5, f6⟩)))))))
  rcases Int.lt_or_le 40 b1 with f7 | f7
  · exact (Or.inr (Or.inr (Or.inr (Or.inr (Or.inr (Or.inr (Or.inr (Or.inl ⟨f0, f1, f2, f3, f4, f5, f6, f7⟩))))))))
  rcases Int.lt_or_le a2 0 with f8 | f8
  · exact (Or.inr (Or.inr (Or.inr (Or.inr (Or.inr (Or.inr (Or.inr (Or.inr (Or.inl ⟨f0, f1, f2, f3, f4, f5, f6, f7, f8⟩)))))))))
  rcases Int.lt_or_le 40 a2 with f9 | f9
  · exact (Or.inr (Or.inr (Or.inr (Or.inr (Or.inr (Or.inr (Or.inr (Or.inr (Or.inr (Or.inl ⟨f0, f1, f2, f3, f4, f5, f6, f7, f8, f9⟩))))))))))
  rcases Int.lt_or_le b2 0 with f10 | f10
  · exact (Or.inr (Or.inr (Or.inr (Or.inr (Or.inr (Or.inr (Or.inr (Or.inr (Or.inr (Or.inr (Or.inl ⟨f0, f1, f2, f3, f4, f5, f6, f7, f8, f9, f10⟩)))))))))))
  rcases Int.lt_or_le 40 b2 with f11 | f11
  · exact (Or.inr (Or.inr (Or.inr (Or.inr (Or.inr (Or.inr (Or.inr (Or.inr (Or.inr (Or.inr (Or.inr (Or.inl ⟨f0, f1, f2, f3, f4, f5, f6, f7, f8, f9, f10, f11⟩))))))))))))
  rcases Int.lt_or_le a3 0 with f12 | f12
  · exact (Or.inr (Or.inr (Or.inr (Or.inr (Or.inr (Or.inr (Or.inr (Or.inr (Or.inr (Or.inr (Or.inr (Or.inr (Or.inl ⟨f0, f1, f2, f3, f4, f5, f6, f7, f8, f9, f10, f11, f12⟩)))))))))))))
  rcases Int.lt_or_le 40 a3 with f13 | f13
  · exact (Or.inr (Or.inr (Or.inr (Or.inr (Or.inr (Or.inr (Or.inr (Or.inr (Or.inr (Or.inr (Or.inr (Or.inr (Or.inr (Or.inl ⟨f0, f1, f2, f3, f4, f5, f6, f7, f8, f9, f10, f11, f12, f13⟩))))))))))))))
  rcases Int.lt_or_le b3 0 with f14 | f14
  · exact (Or.inr (Or.inr (Or.inr (Or.inr (Or.inr (Or.inr (Or.inr (Or.inr (Or.inr (Or.inr (Or.inr (Or.inr (Or.inr (Or.inr (Or.inl ⟨f0, f1, f2, f3, f4, f5, f6, f7, f8, f9, f10, f11, f12, f13, f14⟩)))))))))))))))
  rcases Int.lt_or_le 40 b3 with f15 | f15
  · exact (Or.inr (Or.inr (Or.inr (Or.inr (Or.inr (Or.inr (Or.inr (Or.inr (Or.inr (Or.inr (Or.inr (Or.inr (Or.inr (Or.inr (Or.inr ⟨f0, f1, f2, f3, f4, f5, f6, f7, f8, f9, f10, f11, f12, f13, f14, f15⟩)))))))))))))))
  exact absurd ⟨⟨⟨f0, f1⟩, ⟨f4, f5⟩, ⟨f8, f9⟩, ⟨f12, f13⟩⟩, ⟨f2, f3⟩, ⟨f6, f7⟩, ⟨f10, f11⟩, ⟨f14, f15⟩⟩ h

set_option maxRecDepth 100000 in
set_option maxHeartbeats 8000000 in
theorem walk_no (o a0 a1 a2 a3 b0 b1 b2 b3 : Int) (w : World) (hn : ¬ Both a0 a1 a2 a3 b0 b1 b2 b3) :
    Calls Try.prog 7 #[.int .i64 o, .agg #[.int .i64 a0, .int .i64 a1, .int .i64 a2, .int .i64 a3], .agg #[.int .i64 b0, .int .i64 b1, .int .i64 b2, .int .i64 b3]] w fun e w' => e = .returned (.bool true) ∧ Below w.heap.size w w' := by
  obtain ⟨x0, x1, x2, x3, k1, hmul⟩ := MulIs.ex a0 a1 a2 a3 b0 b1 b2 b3
  obtain ⟨y0, y1, y2, y3, t1, hdiv⟩ := DivIs.ex a0 a1 a2 a3 b0 b1 b2 b3
  obtain ⟨k4, hcmp⟩ := CmpIs.ex o a0 a1 a2 a3 b0 b1 b2 b3
  obtain ⟨rfl, rfl, rfl, rfl, rfl⟩ := hmul.arg hn
  obtain ⟨rfl, rfl, rfl, rfl, rfl⟩ := hdiv.arg hn
  obtain rfl := hcmp.arg hn
  have M : Hid (MulIs a0 a1 a2 a3 b0 b1 b2 b3 0 0 0 0 1) := hmul
  have D : Hid (DivIs a0 a1 a2 a3 b0 b1 b2 b3 0 0 0 0 false) := hdiv
  have R : Hid (CmpIs o a0 a1 a2 a3 b0 b1 b2 b3 0) := hcmp
  have NB : Hid (¬ Both a0 a1 a2 a3 b0 b1 b2 b3) := hn
  have e1 := eq_val 0 0 0 0 0 0 0 0 true (eqB_self _ _ _ _)
  clear hmul hdiv hcmp hn
  have B0 : Hid (((w.alloc (.cells #[.int .i64 a0, .int .i64 a1, .int .i64 a2, .int .i64 a3] 23 (0, 0))).alloc (.cells #[.int .i64 b0, .int .i64 b1, .int .i64 b2, .int .i64 b3] 23 (0, 0))).heap[w.heap.size]? = some (.cells #[.int .i64 a0, .int .i64 a1, .int .i64 a2, .int .i64 a3] 23 (0, 0)) ∧ ((w.alloc (.cells #[.int .i64 a0, .int .i64 a1, .int .i64 a2, .int .i64 a3] 23 (0, 0))).alloc (.cells #[.int .i64 b0, .int .i64 b1, .int .i64 b2, .int .i64 b3] 23 (0, 0))).heap[w.heap.size + 1]? = some (.cells #[.int .i64 b0, .int .i64 b1, .int .i64 b2, .int .i64 b3] 23 (0, 0)) ∧ Below w.heap.size w ((w.alloc (.cells #[.int .i64 a0, .int .i64 a1, .int .i64 a2, .int .i64 a3] 23 (0, 0))).alloc (.cells #[.int .i64 b0, .int .i64 b1, .int .i64 b2, .int .i64 b3] 23 (0, 0)))) := ⟨(keepAt (show (w.alloc (.cells #[.int .i64 a0, .int .i64 a1, .int .i64 a2, .int .i64 a3] 23 (0, 0))).heap[w.heap.size]? = some (.cells #[.int .i64 a0, .int .i64 a1, .int .i64 a2, .int .i64 a3] 23 (0, 0)) by have h := heap_alloc_new w (.cells #[.int .i64 a0, .int .i64 a1, .int .i64 a2, .int .i64 a3] 23 (0, 0)); simpa using h) ((Below.refl _ _).alloc (Nat.le_refl _) _)), (show ((w.alloc (.cells #[.int .i64 a0, .int .i64 a1, .int .i64 a2, .int .i64 a3] 23 (0, 0))).alloc (.cells #[.int .i64 b0, .int .i64 b1, .int .i64 b2, .int .i64 b3] 23 (0, 0))).heap[w.heap.size + 1]? = some (.cells #[.int .i64 b0, .int .i64 b1, .int .i64 b2, .int .i64 b3] 23 (0, 0)) by have h := heap_alloc_new (w.alloc (.cells #[.int .i64 a0, .int .i64 a1, .int .i64 a2, .int .i64 a3] 23 (0, 0))) (.cells #[.int .i64 b0, .int .i64 b1, .int .i64 b2, .int .i64 b3] 23 (0, 0)); simpa using h), (Below.alloc (Below.alloc (Below.refl _ _) (by go_size) _) (by go_size) _)⟩
  go_enter Try.func7, Try.ntmps7
  go_upto_block 0 with fail
  go_cut [7] from 15 to 43 (fun s7 wx => s7 = .bool false ∧ ((w.alloc (.cells #[.int .i64 a0, .int .i64 a1, .int .i64 a2, .int .i64 a3] 23 (0, 0))).alloc (.cells #[.int .i64 b0, .int .i64 b1, .int .i64 b2, .int .i64 b3] 23 (0, 0))) = wx)
  case first =>
    have g0_0 := at23_0 B0.out.1
    have g0_1 := at23_1 B0.out.1
    have g0_2 := at23_2 B0.out.1
    have g0_3 := at23_3 B0.out.1
    have g1_0 := at23_0 B0.out.2.1
    have g1_1 := at23_1 B0.out.2.1
    have g1_2 := at23_2 B0.out.2.1
    have g1_3 := at23_3 B0.out.2.1
    rcases first_bad NB.out with f0 | ⟨f0, f1⟩ | ⟨f0, f1, f2⟩ | ⟨f0, f1, f2, f3⟩ | ⟨f0, f1, f2, f3, f4⟩ | ⟨f0, f1, f2, f3, f4, f5⟩ | ⟨f0, f1, f2, f3, f4, f5, f6⟩ | ⟨f0, f1, f2, f3, f4, f5, f6, f7⟩ | ⟨f0, f1, f2, f3, f4, f5, f6, f7, f8⟩ | ⟨f0, f1, f2, f3, f4, f5, f6, f7, f8, f9⟩ | ⟨f0, f1, f2, f3, f4, f5, f6, f7, f8, f9, f10⟩ | ⟨f0, f1, f2, f3, f4, f5, f6, f7, f8, f9, f10, f11⟩ | ⟨f0, f1, f2, f3, f4, f5, f6, f7, f8, f9, f10, f11, f12⟩ | ⟨f0, f1, f2, f3, f4, f5, f6, f7, f8, f9, f10, f11, f12, f13⟩ | ⟨f0, f1, f2, f3, f4, f5, f6, f7, f8, f9, f10, f11, f12, f13, f14⟩ | ⟨f0, f1, f2, f3, f4, f5, f6, f7, f8, f9, f10, f11, f12, f13, f14, f15⟩
    all_goals
      go_wp2_with fail
      go_rounds 5
      go_meet
      case rel => first | exact ⟨rfl, rfl⟩ | exact ⟨congrArg Value.bool (decide_eq_false (by omega)), rfl⟩
  case rest =>
    obtain ⟨rfl, rfl⟩ := hcut
    go_wp2
    refine wp_loop_rounds 1 ?_
    rw [rounds_succ]
    have g0_0 := at23_0 B0.out.1
    have g0_1 := at23_1 B0.out.1
    have g0_2 := at23_2 B0.out.1
    have g0_3 := at23_3 B0.out.1
    have g1_0 := at23_0 B0.out.2.1
    have g1_1 := at23_1 B0.out.2.1
    have g1_2 := at23_2 B0.out.2.1
    have g1_3 := at23_3 B0.out.2.1
    go_wp2_with fail
    refine (mul_is a0 a1 a2 a3 b0 b1 b2 b3 0 0 0 0 1 _ M.out).mono ?_
    rintro e v1 ⟨rfl, bel1⟩
    clear g0_0 g0_1 g0_2 g0_3 g1_0 g1_1 g1_2 g1_3
    have B1 : Hid ((v1.alloc (.cells #[.int .i64 0, .int .i64 0, .int .i64 0, .int .i64 0] 23 (0, 0))).heap[w.heap.size]? = some (.cells #[.int .i64 a0, .int .i64 a1, .int .i64 a2, .int .i64 a3] 23 (0, 0)) ∧ (v1.alloc (.cells #[.int .i64 0, .int .i64 0, .int .i64 0, .int .i64 0] 23 (0, 0))).heap[w.heap.size + 1]? = some (.cells #[.int .i64 b0, .int .i64 b1, .int .i64 b2, .int .i64 b3] 23 (0, 0)) ∧ (v1.alloc (.cells #[.int .i64 0, .int .i64 0, .int .i64 0, .int .i64 0] 23 (0, 0))).heap[v1.heap.size]? = some (.cells #[.int .i64 0, .int .i64 0, .int .i64 0, .int .i64 0] 23 (0, 0)) ∧ Below w.heap.size w (v1.alloc (.cells #[.int .i64 0, .int .i64 0, .int .i64 0, .int .i64 0] 23 (0, 0)))) := ⟨(keepAt (keepAt B0.out.1 bel1) ((Below.refl _ _).alloc (Nat.le_refl _) _)), (keepAt (keepAt B0.out.2.1 bel1) ((Below.refl _ _).alloc (Nat.le_refl _) _)), (heap_alloc_new v1 (.cells #[.int .i64 0, .int .i64 0, .int .i64 0, .int .i64 0] 23 (0, 0))), (chain (chain B0.out.2.2 bel1) ((Below.refl _ _).alloc (Nat.le_refl _) _))⟩
    clear bel1 B0
    have g0_0 := at23_0 B1.out.1
    have g0_1 := at23_1 B1.out.1
    have g0_2 := at23_2 B1.out.1
    have g0_3 := at23_3 B1.out.1
    have g1_0 := at23_0 B1.out.2.1
    have g1_1 := at23_1 B1.out.2.1
    have g1_2 := at23_2 B1.out.2.1
    have g1_3 := at23_3 B1.out.2.1
    go_wp2_with fail
    refine (div_is a0 a1 a2 a3 b0 b1 b2 b3 0 0 0 0 false _ D.out).mono ?_
    rintro e v2 ⟨rfl, bel2⟩
    clear g0_0 g0_1 g0_2 g0_3 g1_0 g1_1 g1_2 g1_3
    have B2 : Hid ((v2.alloc (.cells #[.int .i64 0, .int .i64 0, .int .i64 0, .int .i64 0] 23 (0, 0))).heap[w.heap.size]? = some (.cells #[.int .i64 a0, .int .i64 a1, .int .i64 a2, .int .i64 a3] 23 (0, 0)) ∧ (v2.alloc (.cells #[.int .i64 0, .int .i64 0, .int .i64 0, .int .i64 0] 23 (0, 0))).heap[w.heap.size + 1]? = some (.cells #[.int .i64 b0, .int .i64 b1, .int .i64 b2, .int .i64 b3] 23 (0, 0)) ∧ (v2.alloc (.cells #[.int .i64 0, .int .i64 0, .int .i64 0, .int .i64 0] 23 (0, 0))).heap[v1.heap.size]? = some (.cells #[.int .i64 0, .int .i64 0, .int .i64 0, .int .i64 0] 23 (0, 0)) ∧ (v2.alloc (.cells #[.int .i64 0, .int .i64 0, .int .i64 0, .int .i64 0] 23 (0, 0))).heap[v2.heap.size]? = some (.cells #[.int .i64 0, .int .i64 0, .int .i64 0, .int .i64 0] 23 (0, 0)) ∧ Below w.heap.size w (v2.alloc (.cells #[.int .i64 0, .int .i64 0, .int .i64 0, .int .i64 0] 23 (0, 0)))) := ⟨(keepAt (keepAt B1.out.1 bel2) ((Below.refl _ _).alloc (Nat.le_refl _) _)), (keepAt (keepAt B1.out.2.1 bel2) ((Below.refl _ _).alloc (Nat.le_refl _) _)), (keepAt (keepAt B1.out.2.2.1 bel2) ((Below.refl _ _).alloc (Nat.le_refl _) _)), (heap_alloc_new v2 (.cells #[.int .i64 0, .int .i64 0, .int .i64 0, .int .i64 0] 23 (0, 0))), (chain (chain B1.out.2.2.2 bel2) ((Below.refl _ _).alloc (Nat.le_refl _) _))⟩
    clear bel2 B1
    have g0_0 := at23_0 B2.out.1
    have g0_1 := at23_1 B2.out.1
    have g0_2 := at23_2 B2.out.1
    have g0_3 := at23_3 B2.out.1
    have g1_0 := at23_0 B2.out.2.1
    have g1_1 := at23_1 B2.out.2.1
    have g1_2 := at23_2 B2.out.2.1
    have g1_3 := at23_3 B2.out.2.1
    go_wp2_with fail
    refine (lcm_arg a0 a1 a2 a3 b0 b1 b2 b3 _ NB.out).mono ?_
    rintro e v3 ⟨rfl, bel3⟩
    clear g0_0 g0_1 g0_2 g0_3 g1_0 g1_1 g1_2 g1_3
    have B3 : Hid (v3.heap[w.heap.size]? = some (.cells #[.int .i64 a0, .int .i64 a1, .int .i64 a2, .int .i64 a3] 23 (0, 0)) ∧ v3.heap[w.heap.size + 1]? = some (.cells #[.int .i64 b0, .int .i64 b1, .int .i64 b2, .int .i64 b3] 23 (0, 0)) ∧ v3.heap[v1.heap.size]? = some (.cells #[.int .i64 0, .int .i64 0, .int .i64 0, .int .i64 0] 23 (0, 0)) ∧ v3.heap[v2.heap.size]? = some (.cells #[.int .i64 0, .int .i64 0, .int .i64 0, .int .i64 0] 23 (0, 0)) ∧ Below w.heap.size w v3) := ⟨(keepAt B2.out.1 bel3), (keepAt B2.out.2.1 bel3), (keepAt B2.out.2.2.1 bel3), (keepAt B2.out.2.2.2.1 bel3), (chain B2.out.2.2.2.2 bel3)⟩
    clear bel3 B2
    have g0_0 := at23_0 B3.out.1
    have g0_1 := at23_1 B3.out.1
    have g0_2 := at23_2 B3.out.1
    have g0_3 := at23_3 B3.out.1
    have g1_0 := at23_0 B3.out.2.1
    have g1_1 := at23_1 B3.out.2.1
    have g1_2 := at23_2 B3.out.2.1
    have g1_3 := at23_3 B3.out.2.1
    go_wp2_with fail
    refine (cop_arg a0 a1 a2 a3 b0 b1 b2 b3 _ NB.out).mono ?_
    rintro e v4 ⟨rfl, bel4⟩
    clear g0_0 g0_1 g0_2 g0_3 g1_0 g1_1 g1_2 g1_3
    have B4 : Hid (v4.heap[w.heap.size]? = some (.cells #[.int .i64 a0, .int .i64 a1, .int .i64 a2, .int .i64 a3] 23 (0, 0)) ∧ v4.heap[w.heap.size + 1]? = some (.cells #[.int .i64 b0, .int .i64 b1, .int .i64 b2, .int .i64 b3] 23 (0, 0)) ∧ v4.heap[v1.heap.size]? = some (.cells #[.int .i64 0, .int .i64 0, .int .i64 0, .int .i64 0] 23 (0, 0)) ∧ v4.heap[v2.heap.size]? = some (.cells #[.int .i64 0, .int .i64 0, .int .i64 0, .int .i64 0] 23 (0, 0)) ∧ Below w.heap.size w v4) := ⟨(keepAt B3.out.1 bel4), (keepAt B3.out.2.1 bel4), (keepAt B3.out.2.2.1 bel4), (keepAt B3.out.2.2.2.1 bel4), (chain B3.out.2.2.2.2 bel4)⟩
    clear bel4 B3
    have g0_0 := at23_0 B4.out.1
    have g0_1 := at23_1 B4.out.1
    have g0_2 := at23_2 B4.out.1
    have g0_3 := at23_3 B4.out.1
    have g1_0 := at23_0 B4.out.2.1
    have g1_1 := at23_1 B4.out.2.1
    have g1_2 := at23_2 B4.out.2.1
    have g1_3 := at23_3 B4.out.2.1
    go_wp2_with fail
    refine (cmp_val o a0 a1 a2 a3 b0 b1 b2 b3 0 _ R.out).mono ?_
    rintro e v5 ⟨rfl, bel5⟩
    clear g0_0 g0_1 g0_2 g0_3 g1_0 g1_1 g1_2 g1_3
    have B5 : Hid (v5.heap[w.heap.size]? = some (.cells #[.int .i64 a0, .int .i64 a1, .int .i64 a2, .int .i64 a3] 23 (0, 0)) ∧ v5.heap[w.heap.size + 1]? = some (.cells #[.int .i64 b0, .int .i64 b1, .int .i64 b2, .int .i64 b3] 23 (0, 0)) ∧ v5.heap[v1.heap.size]? = some (.cells #[.int .i64 0, .int .i64 0, .int .i64 0, .int .i64 0] 23 (0, 0)) ∧ v5.heap[v2.heap.size]? = some (.cells #[.int .i64 0, .int .i64 0, .int .i64 0, .int .i64 0] 23 (0, 0)) ∧ Below w.heap.size w v5) := ⟨(keepAt B4.out.1 bel5), (keepAt B4.out.2.1 bel5), (keepAt B4.out.2.2.1 bel5), (keepAt B4.out.2.2.2.1 bel5), (chain B4.out.2.2.2.2 bel5)⟩
    clear bel5 B4
    go_wp2_with fail
    refine (shown_m _).mono ?_
    rintro e v6 ⟨rfl, bel6⟩
    have B6 : Hid (v6.heap[w.heap.size]? = some (.cells #[.int .i64 a0, .int .i64 a1, .int .i64 a2, .int .i64 a3] 23 (0, 0)) ∧ v6.heap[w.heap.size + 1]? = some (.cells #[.int .i64 b0, .int .i64 b1, .int .i64 b2, .int .i64 b3] 23 (0, 0)) ∧ v6.heap[v1.heap.size]? = some (.cells #[.int .i64 0, .int .i64 0, .int .i64 0, .int .i64 0] 23 (0, 0)) ∧ v6.heap[v2.heap.size]? = some (.cells #[.int .i64 0, .int .i64 0, .int .i64 0, .int .i64 0] 23 (0, 0)) ∧ Below w.heap.size w v6) := ⟨(keepAt B5.out.1 bel6), (keepAt B5.out.2.1 bel6), (keepAt B5.out.2.2.1 bel6), (keepAt B5.out.2.2.2.1 bel6), (chain B5.out.2.2.2.2 bel6)⟩
    clear bel6 B5
    go_wp2
    go_ret
    exact ⟨rfl, B6.out.2.2.2.2⟩

set_option maxRecDepth 100000 in
set_option maxHeartbeats 8000000 in
theorem walk_0 (o a0 a1 a2 a3 b0 b1 b2 b3 : Int) (w : World) (hb : Both a0 a1 a2 a3 b0 b1 b2 b3)  (g0 : 40 < a0 + b0) :
    Calls Try.prog 7 #[.int .i64 o, .agg #[.int .i64 a0, .int .i64 a1, .int .i64 a2, .int .i64 a3], .agg #[.int .i64 b0, .int .i64 b1, .int .i64 b2, .int .i64 b3]] w fun e w' => e = .returned (.bool true) ∧ Below w.heap.size w w' := by
  obtain ⟨x0, x1, x2, x3, k1, hmul⟩ := MulIs.ex a0 a1 a2 a3 b0 b1 b2 b3
  obtain ⟨y0, y1, y2, y3, t1, hdiv⟩ := DivIs.ex a0 a1 a2 a3 b0 b1 b2 b3
  obtain ⟨rfl, rfl, rfl, rfl, rfl⟩ := hmul.exp hb (fun m => by have := m.x.hi; omega)
  have M : Hid (MulIs a0 a1 a2 a3 b0 b1 b2 b3 0 0 0 0 80) := hmul
  have D : Hid (DivIs a0 a1 a2 a3 b0 b1 b2 b3 y0 y1 y2 y3 t1) := hdiv
  have HB : Hid (Both a0 a1 a2 a3 b0 b1 b2 b3) := hb
  obtain ⟨⟨⟨p1, p2⟩, ⟨p3, p4⟩, ⟨p5, p6⟩, ⟨p7, p8⟩⟩, ⟨q1, q2⟩, ⟨q3, q4⟩, ⟨q5, q6⟩, ⟨q7, q8⟩⟩ := hb
  have wr0 : IntKind.i64.wrap (a0 + b0) = a0 + b0 := by simp (disch := omega) only [IntWalk.i64_in]
  have wr1 : IntKind.i64.wrap (a1 + b1) = a1 + b1 := by simp (disch := omega) only [IntWalk.i64_in]
  have wr2 : IntKind.i64.wrap (a2 + b2) = a2 + b2 := by simp (disch := omega) only [IntWalk.i64_in]
  have wr3 : IntKind.i64.wrap (a3 + b3) = a3 + b3 := by simp (disch := omega) only [IntWalk.i64_in]
  clear hmul hdiv
  have B0 : Hid (((w.alloc (.cells #[.int .i64 a0, .int .i64 a1, .int .i64 a2, .int .i64 a3] 23 (0, 0))).alloc (.cells #[.int .i64 b0, .int .i64 b1, .int .i64 b2, .int .i64 b3] 23 (0, 0))).heap[w.heap.size]? = some (.cells #[.int .i64 a0, .int .i64 a1, .int .i64 a2, .int .i64 a3] 23 (0, 0)) ∧ ((w.alloc (.cells #[.int .i64 a0, .int .i64 a1, .int .i64 a2, .int .i64 a3] 23 (0, 0))).alloc (.cells #[.int .i64 b0, .int .i64 b1, .int .i64 b2, .int .i64 b3] 23 (0, 0))).heap[w.heap.size + 1]? = some (.cells #[.int .i64 b0, .int .i64 b1, .int .i64 b2, .int .i64 b3] 23 (0, 0)) ∧ Below w.heap.size w ((w.alloc (.cells #[.int .i64 a0, .int .i64 a1, .int .i64 a2, .int .i64 a3] 23 (0, 0))).alloc (.cells #[.int .i64 b0, .int .i64 b1, .int .i64 b2, .int .i64 b3] 23 (0, 0)))) := ⟨(keepAt (show (w.alloc (.cells #[.int .i64 a0, .int .i64 a1, .int .i64 a2, .int .i64 a3] 23 (0, 0))).heap[w.heap.size]? = some (.cells #[.int .i64 a0, .int .i64 a1, .int .i64 a2, .int .i64 a3] 23 (0, 0)) by have h := heap_alloc_new w (.cells #[.int .i64 a0, .int .i64 a1, .int .i64 a2, .int .i64 a3] 23 (0, 0)); simpa using h) ((Below.refl _ _).alloc (Nat.le_refl _) _)), (show ((w.alloc (.cells #[.int .i64 a0, .int .i64 a1, .int .i64 a2, .int .i64 a3] 23 (0, 0))).alloc (.cells #[.int .i64 b0, .int .i64 b1, .int .i64 b2, .int .i64 b3] 23 (0, 0))).heap[w.heap.size + 1]? = some (.cells #[.int .i64 b0, .int .i64 b1, .int .i64 b2, .int .i64 b3] 23 (0, 0)) by have h := heap_alloc_new (w.alloc (.cells #[.int .i64 a0, .int .i64 a1, .int .i64 a2, .int .i64 a3] 23 (0, 0))) (.cells #[.int .i64 b0, .int .i64 b1, .int .i64 b2, .int .i64 b3] 23 (0, 0)); simpa using h), (Below.alloc (Below.alloc (Below.refl _ _) (by go_size) _) (by go_size) _)⟩
  go_enter Try.func7, Try.ntmps7
  go_upto_block 0 with fail
  go_cut [7] from 15 to 43 (fun s7 wx => s7 = .bool true ∧ ((w.alloc (.cells #[.int .i64 a0, .int .i64 a1, .int .i64 a2, .int .i64 a3] 23 (0, 0))).alloc (.cells #[.int .i64 b0, .int .i64 b1, .int .i64 b2, .int .i64 b3] 23 (0, 0))) = wx)
  case first =>
    have g0_0 := at23_0 B0.out.1
    have g0_1 := at23_1 B0.out.1
    have g0_2 := at23_2 B0.out.1
    have g0_3 := at23_3 B0.out.1
    have g1_0 := at23_0 B0.out.2.1
    have g1_1 := at23_1 B0.out.2.1
    have g1_2 := at23_2 B0.out.2.1
    have g1_3 := at23_3 B0.out.2.1
    go_wp2_with fail
    go_rounds 5
    go_meet
    case rel => exact ⟨rfl, rfl⟩
  case rest =>
    obtain ⟨rfl, rfl⟩ := hcut
    have g0_0 := at23_0 B0.out.1
    have g0_1 := at23_1 B0.out.1
    have g0_2 := at23_2 B0.out.1
    have g0_3 := at23_3 B0.out.1
    have g1_0 := at23_0 B0.out.2.1
    have g1_1 := at23_1 B0.out.2.1
    have g1_2 := at23_2 B0.out.2.1
    have g1_3 := at23_3 B0.out.2.1
    go_wp2
    refine wp_loop_rounds 5 ?_
    rw [rounds_succ]
    go_wp2
    go_quiet (fail)
    go_wp2
    rw [rounds_succ]
    go_wp2
    go_quiet (fail)
    go_wp2
    rw [rounds_succ]
    go_wp2
    go_quiet (fail)
    go_wp2
    rw [rounds_succ]
    go_wp2
    go_quiet (fail)
    go_wp2
    rw [rounds_succ]
    go_wp2_with fail
    refine (mul_is a0 a1 a2 a3 b0 b1 b2 b3 0 0 0 0 80 _ M.out).mono ?_
    rintro e v1 ⟨rfl, bel1⟩
    have bel1 : Below ((w.alloc (.cells #[.int .i64 a0, .int .i64 a1, .int .i64 a2, .int .i64 a3] 23 (0, 0))).alloc (.cells #[.int .i64 b0, .int .i64 b1, .int .i64 b2, .int .i64 b3] 23 (0, 0))).heap.size ((w.alloc (.cells #[.int .i64 a0, .int .i64 a1, .int .i64 a2, .int .i64 a3] 23 (0, 0))).alloc (.cells #[.int .i64 b0, .int .i64 b1, .int .i64 b2, .int .i64 b3] 23 (0, 0))) v1 := chain (below_drewN (Below.refl _ _) _) bel1
    clear g0_0 g0_1 g0_2 g0_3 g1_0 g1_1 g1_2 g1_3
    have B1 : Hid ((v1.alloc (.cells #[.int .i64 0, .int .i64 0, .int .i64 0, .int .i64 0] 23 (0, 0))).heap[w.heap.size]? = some (.cells #[.int .i64 a0, .int .i64 a1, .int .i64 a2, .int .i64 a3] 23 (0, 0)) ∧ (v1.alloc (.cells #[.int .i64 0, .int .i64 0, .int .i64 0, .int .i64 0] 23 (0, 0))).heap[w.heap.size + 1]? = some (.cells #[.int .i64 b0, .int .i64 b1, .int .i64 b2, .int .i64 b3] 23 (0, 0)) ∧ (v1.alloc (.cells #[.int .i64 0, .int .i64 0, .int .i64 0, .int .i64 0] 23 (0, 0))).heap[v1.heap.size]? = some (.cells #[.int .i64 0, .int .i64 0, .int .i64 0, .int .i64 0] 23 (0, 0)) ∧ Below w.heap.size w (v1.alloc (.cells #[.int .i64 0, .int .i64 0, .int .i64 0, .int .i64 0] 23 (0, 0)))) := ⟨(keepAt (keepAt B0.out.1 bel1) ((Below.refl _ _).alloc (Nat.le_refl _) _)), (keepAt (keepAt B0.out.2.1 bel1) ((Below.refl _ _).alloc (Nat.le_refl _) _)), (heap_alloc_new v1 (.cells #[.int .i64 0, .int .i64 0, .int .i64 0, .int .i64 0] 23 (0, 0))), (chain (chain B0.out.2.2 bel1) ((Below.refl _ _).alloc (Nat.le_refl _) _))⟩
    clear bel1 B0
    have g0_0 := at23_0 B1.out.1
    have g0_1 := at23_1 B1.out.1
    have g0_2 := at23_2 B1.out.1
    have g0_3 := at23_3 B1.out.1
    have g1_0 := at23_0 B1.out.2.1
    have g1_1 := at23_1 B1.out.2.1
    have g1_2 := at23_2 B1.out.2.1
    have g1_3 := at23_3 B1.out.2.1
    go_wp2_with fail
    refine (div_is a0 a1 a2 a3 b0 b1 b2 b3 y0 y1 y2 y3 t1 _ D.out).mono ?_
    rintro e v2 ⟨rfl, bel2⟩
    clear g0_0 g0_1 g0_2 g0_3 g1_0 g1_1 g1_2 g1_3
    have B2 : Hid ((v2.alloc (.cells #[.int .i64 y0, .int .i64 y1, .int .i64 y2, .int .i64 y3] 23 (0, 0))).heap[w.heap.size]? = some (.cells #[.int .i64 a0, .int .i64 a1, .int .i64 a2, .int .i64 a3] 23 (0, 0)) ∧ (v2.alloc (.cells #[.int .i64 y0, .int .i64 y1, .int .i64 y2, .int .i64 y3] 23 (0, 0))).heap[w.heap.size + 1]? = some (.cells #[.int .i64 b0, .int .i64 b1, .int .i64 b2, .int .i64 b3] 23 (0, 0)) ∧ (v2.alloc (.cells #[.int .i64 y0, .int .i64 y1, .int .i64 y2, .int .i64 y3] 23 (0, 0))).heap[v1.heap.size]? = some (.cells #[.int .i64 0, .int .i64 0, .int .i64 0, .int .i64 0] 23 (0, 0)) ∧ (v2.alloc (.cells #[.int .i64 y0, .int .i64 y1, .int .i64 y2, .int .i64 y3] 23 (0, 0))).heap[v2.heap.size]? = some (.cells #[.int .i64 y0, .int .i64 y1, .int .i64 y2, .int .i64 y3] 23 (0, 0)) ∧ Below w.heap.size w (v2.alloc (.cells #[.int .i64 y0, .int .i64 y1, .int .i64 y2, .int .i64 y3] 23 (0, 0)))) := ⟨(keepAt (keepAt B1.out.1 bel2) ((Below.refl _ _).alloc (Nat.le_refl _) _)), (keepAt (keepAt B1.out.2.1 bel2) ((Below.refl _ _).alloc (Nat.le_refl _) _)), (keepAt (keepAt B1.out.2.2.1 bel2) ((Below.refl _ _).alloc (Nat.le_refl _) _)), (heap_alloc_new v2 (.cells #[.int .i64 y0, .int .i64 y1, .int .i64 y2, .int .i64 y3] 23 (0, 0))), (chain (chain B1.out.2.2.2 bel2) ((Below.refl _ _).alloc (Nat.le_refl _) _))⟩
    clear bel2 B1
    have g0_0 := at23_0 B2.out.1
    have g0_1 := at23_1 B2.out.1
    have g0_2 := at23_2 B2.out.1
    have g0_3 := at23_3 B2.out.1
    have g1_0 := at23_0 B2.out.2.1
    have g1_1 := at23_1 B2.out.2.1
    have g1_2 := at23_2 B2.out.2.1
    have g1_3 := at23_3 B2.out.2.1
    go_wp2_with fail
    refine (may_yes a0 a1 a2 a3 _ HB.out.a).mono ?_
    rintro e v3 ⟨rfl, bel3⟩
    clear g0_0 g0_1 g0_2 g0_3 g1_0 g1_1 g1_2 g1_3
    have B3 : Hid (v3.heap[w.heap.size]? = some (.cells #[.int .i64 a0, .int .i64 a1, .int .i64 a2, .int .i64 a3] 23 (0, 0)) ∧ v3.heap[w.heap.size + 1]? = some (.cells #[.int .i64 b0, .int .i64 b1, .int .i64 b2, .int .i64 b3] 23 (0, 0)) ∧ v3.heap[v1.heap.size]? = some (.cells #[.int .i64 0, .int .i64 0, .int .i64 0, .int .i64 0] 23 (0, 0)) ∧ v3.heap[v2.heap.size]? = some (.cells #[.int .i64 y0, .int .i64 y1, .int .i64 y2, .int .i64 y3] 23 (0, 0)) ∧ Below w.heap.size w v3) := ⟨(keepAt B2.out.1 bel3), (keepAt B2.out.2.1 bel3), (keepAt B2.out.2.2.1 bel3), (keepAt B2.out.2.2.2.1 bel3), (chain B2.out.2.2.2.2 bel3)⟩
    clear bel3 B2
    have g0_0 := at23_0 B3.out.1
    have g0_1 := at23_1 B3.out.1
    have g0_2 := at23_2 B3.out.1
    have g0_3 := at23_3 B3.out.1
    have g1_0 := at23_0 B3.out.2.1
    have g1_1 := at23_1 B3.out.2.1
    have g1_2 := at23_2 B3.out.2.1
    have g1_3 := at23_3 B3.out.2.1
    go_wp2_with fail
    refine (may_yes b0 b1 b2 b3 _ HB.out.b).mono ?_
    rintro e v4 ⟨rfl, bel4⟩
    clear g0_0 g0_1 g0_2 g0_3 g1_0 g1_1 g1_2 g1_3
    have B4 : Hid (v4.heap[w.heap.size]? = some (.cells #[.int .i64 a0, .int .i64 a1, .int .i64 a2, .int .i64 a3] 23 (0, 0)) ∧ v4.heap[w.heap.size + 1]? = some (.cells #[.int .i64 b0, .int .i64 b1, .int .i64 b2, .int .i64 b3] 23 (0, 0)) ∧ v4.heap[v1.heap.size]? = some (.cells #[.int .i64 0, .int .i64 0, .int .i64 0, .int .i64 0] 23 (0, 0)) ∧ v4.heap[v2.heap.size]? = some (.cells #[.int .i64 y0, .int .i64 y1, .int .i64 y2, .int .i64 y3] 23 (0, 0)) ∧ Below w.heap.size w v4) := ⟨(keepAt B3.out.1 bel4), (keepAt B3.out.2.1 bel4), (keepAt B3.out.2.2.1 bel4), (keepAt B3.out.2.2.2.1 bel4), (chain B3.out.2.2.2.2 bel4)⟩
    clear bel4 B3
    go_wp2_with fail
    refine (shown_m _).mono ?_
    rintro e v5 ⟨rfl, bel5⟩
    have B5 : Hid (v5.heap[w.heap.size]? = some (.cells #[.int .i64 a0, .int .i64 a1, .int .i64 a2, .int .i64 a3] 23 (0, 0)) ∧ v5.heap[w.heap.size + 1]? = some (.cells #[.int .i64 b0, .int .i64 b1, .int .i64 b2, .int .i64 b3] 23 (0, 0)) ∧ v5.heap[v1.heap.size]? = some (.cells #[.int .i64 0, .int .i64 0, .int .i64 0, .int .i64 0] 23 (0, 0)) ∧ v5.heap[v2.heap.size]? = some (.cells #[.int .i64 y0, .int .i64 y1, .int .i64 y2, .int .i64 y3] 23 (0, 0)) ∧ Below w.heap.size w v5) := ⟨(keepAt B4.out.1 bel5), (keepAt B4.out.2.1 bel5), (keepAt B4.out.2.2.1 bel5), (keepAt B4.out.2.2.2.1 bel5), (chain B4.out.2.2.2.2 bel5)⟩
    clear bel5 B4
    go_wp2
    go_ret
    exact ⟨rfl, B5.out.2.2.2.2⟩

set_option maxRecDepth 100000 in
set_option maxHeartbeats 8000000 in
theorem walk_1 (o a0 a1 a2 a3 b0 b1 b2 b3 : Int) (w : World) (hb : Both a0 a1 a2 a3 b0 b1 b2 b3) (g0 : ¬ 40 < a0 + b0) (g1 : 40 < a1 + b1) :
    Calls Try.prog 7 #[.int .i64 o, .agg #[.int .i64 a0, .int .i64 a1, .int .i64 a2, .int .i64 a3], .agg #[.int .i64 b0, .int .i64 b1, .int .i64 b2, .int .i64 b3]] w fun e w' => e = .returned (.bool true) ∧ Below w.heap.size w w' := by
  obtain ⟨x0, x1, x2, x3, k1, hmul⟩ := MulIs.ex a0 a1 a2 a3 b0 b1 b2 b3
  obtain ⟨y0, y1, y2, y3, t1, hdiv⟩ := DivIs.ex a0 a1 a2 a3 b0 b1 b2 b3
  obtain ⟨rfl, rfl, rfl, rfl, rfl⟩ := hmul.exp hb (fun m => by have := m.y.hi; omega)
  have M : Hid (MulIs a0 a1 a2 a3 b0 b1 b2 b3 0 0 0 0 80) := hmul
  have D : Hid (DivIs a0 a1 a2 a3 b0 b1 b2 b3 y0 y1 y2 y3 t1) := hdiv
  have HB : Hid (Both a0 a1 a2 a3 b0 b1 b2 b3) := hb
  obtain ⟨⟨⟨p1, p2⟩, ⟨p3, p4⟩, ⟨p5, p6⟩, ⟨p7, p8⟩⟩, ⟨q1, q2⟩, ⟨q3, q4⟩, ⟨q5, q6⟩, ⟨q7, q8⟩⟩ := hb
  have wr0 : IntKind.i64.wrap (a0 + b0) = a0 + b0 := by simp (disch := omega) only [IntWalk.i64_in]
  have wr1 : IntKind.i64.wrap (a1 + b1) = a1 + b1 := by simp (disch := omega) only [IntWalk.i64_in]
  have wr2 : IntKind.i64.wrap (a2 + b2) = a2 + b2 := by simp (disch := omega) only [IntWalk.i64_in]
  have wr3 : IntKind.i64.wrap (a3 + b3) = a3 + b3 := by simp (disch := omega) only [IntWalk.i64_in]
  clear hmul hdiv
  have B0 : Hid (((w.alloc (.cells #[.int .i64 a0, .int .i64 a1, .int .i64 a2, .int .i64 a3] 23 (0, 0))).alloc (.cells #[.int .i64 b0, .int .i64 b1, .int .i64 b2, .int .i64 b3] 23 (0, 0))).heap[w.heap.size]? = some (.cells #[.int .i64 a0, .int .i64 a1, .int .i64 a2, .int .i64 a3] 23 (0, 0)) ∧ ((w.alloc (.cells #[.int .i64 a0, .int .i64 a1, .int .i64 a2, .int .i64 a3] 23 (0, 0))).alloc (.cells #[.int .i64 b0, .int .i64 b1, .int .i64 b2, .int .i64 b3] 23 (0, 0))).heap[w.heap.size + 1]? = some (.cells #[.int .i64 b0, .int .i64 b1, .int .i64 b2, .int .i64 b3] 23 (0, 0)) ∧ Below w.heap.size w ((w.alloc (.cells #[.int .i64 a0, .int .i64 a1, .int .i64 a2, .int .i64 a3] 23 (0, 0))).alloc (.cells #[.int .i64 b0, .int .i64 b1, .int .i64 b2, .int .i64 b3] 23 (0, 0)))) := ⟨(keepAt (show (w.alloc (.cells #[.int .i64 a0, .int .i64 a1, .int .i64 a2, .int .i64 a3] 23 (0, 0))).heap[w.heap.size]? = some (.cells #[.int .i64 a0, .int .i64 a1, .int .i64 a2, .int .i64 a3] 23 (0, 0)) by have h := heap_alloc_new w (.cells #[.int .i64 a0, .int .i64 a1, .int .i64 a2, .int .i64 a3] 23 (0, 0)); simpa using h) ((Below.refl _ _).alloc (Nat.le_refl _) _)), (show ((w.alloc (.cells #[.int .i64 a0, .int .i64 a1, .int .i64 a2, .int .i64 a3] 23 (0, 0))).alloc (.cells #[.int .i64 b0, .int .i64 b1, .int .i64 b2, .int .i64 b3] 23 (0, 0))).heap[w.heap.size + 1]? = some (.cells #[.int .i64 b0, .int .i64 b1, .int .i64 b2, .int .i64 b3] 23 (0, 0)) by have h := heap_alloc_new (w.alloc (.cells #[.int .i64 a0, .int .i64 a1, .int .i64 a2, .int .i64 a3] 23 (0, 0))) (.cells #[.int .i64 b0, .int .i64 b1, .int .i64 b2, .int .i64 b3] 23 (0, 0)); simpa using h), (Below.alloc (Below.alloc (Below.refl _ _) (by go_size) _) (by go_size) _)⟩
  go_enter Try.func7, Try.ntmps7
  go_upto_block 0 with fail
  go_cut [7] from 15 to 43 (fun s7 wx => s7 = .bool true ∧ ((w.alloc (.cells #[.int .i64 a0, .int .i64 a1, .int .i64 a2, .int .i64 a3] 23 (0, 0))).alloc (.cells #[.int .i64 b0, .int .i64 b1, .int .i64 b2, .int .i64 b3] 23 (0, 0))) = wx)
  case first =>
    have g0_0 := at23_0 B0.out.1
    have g0_1 := at23_1 B0.out.1
    have g0_2 := at23_2 B0.out.1
    have g0_3 := at23_3 B0.out.1
    have g1_0 := at23_0 B0.out.2.1
    have g1_1 := at23_1 B0.out.2.1
    have g1_2 := at23_2 B0.out.2.1
    have g1_3 := at23_3 B0.out.2.1
    go_wp2_with fail
    go_rounds 5
    go_meet
    case rel => exact ⟨rfl, rfl⟩
  case rest =>
    obtain ⟨rfl, rfl⟩ := hcut
    have g0_0 := at23_0 B0.out.1
    have g0_1 := at23_1 B0.out.1
    have g0_2 := at23_2 B0.out.1
    have g0_3 := at23_3 B0.out.1
    have g1_0 := at23_0 B0.out.2.1
    have g1_1 := at23_1 B0.out.2.1
    have g1_2 := at23_2 B0.out.2.1
    have g1_3 := at23_3 B0.out.2.1
    go_wp2
    refine wp_loop_rounds 5 ?_
    rw [rounds_succ]
    go_wp2
    go_quiet (fail)
    go_wp2
    rw [rounds_succ]
    go_wp2
    go_quiet (fail)
    go_wp2
    rw [rounds_succ]
    go_wp2
    go_quiet (fail)
    go_wp2
    rw [rounds_succ]
    go_wp2
    go_quiet (fail)
    go_wp2
    rw [rounds_succ]
    go_wp2_with fail
    refine (mul_is a0 a1 a2 a3 b0 b1 b2 b3 0 0 0 0 80 _ M.out).mono ?_
    rintro e v1 ⟨rfl, bel1⟩
    have bel1 : Below ((w.alloc (.cells #[.int .i64 a0, .int .i64 a1, .int .i64 a2, .int .i64 a3] 23 (0, 0))).alloc (.cells #[.int .i64 b0, .int .i64 b1, .int .i64 b2, .int .i64 b3] 23 (0, 0))).heap.size ((w.alloc (.cells #[.int .i64 a0, .int .i64 a1, .int .i64 a2, .int .i64 a3] 23 (0, 0))).alloc (.cells #[.int .i64 b0, .int .i64 b1, .int .i64 b2, .int .i64 b3] 23 (0, 0))) v1 := chain (below_drewN (Below.refl _ _) _) bel1
    clear g0_0 g0_1 g0_2 g0_3 g1_0 g1_1 g1_2 g1_3
    have B1 : Hid ((v1.alloc (.cells #[.int .i64 0, .int .i64 0, .int .i64 0, .int .i64 0] 23 (0, 0))).heap[w.heap.size]? = some (.cells #[.int .i64 a0, .int .i64 a1, .int .i64 a2, .int .i64 a3] 23 (0, 0)) ∧ (v1.alloc (.cells #[.int .i64 0, .int .i64 0, .int .i64 0, .int .i64 0] 23 (0, 0))).heap[w.heap.size + 1]? = some (.cells #[.int .i64 b0, .int .i64 b1, .int .i64 b2, .int .i64 b3] 23 (0, 0)) ∧ (v1.alloc (.cells #[.int .i64 0, .int .i64 0, .int .i64 0, .int .i64 0] 23 (0, 0))).heap[v1.heap.size]? = some (.cells #[.int .i64 0, .int .i64 0, .int .i64 0, .int .i64 0] 23 (0, 0)) ∧ Below w.heap.size w (v1.alloc (.cells #[.int .i64 0, .int .i64 0, .int .i64 0, .int .i64 0] 23 (0, 0)))) := ⟨(keepAt (keepAt B0.out.1 bel1) ((Below.refl _ _).alloc (Nat.le_refl _) _)), (keepAt (keepAt B0.out.2.1 bel1) ((Below.refl _ _).alloc (Nat.le_refl _) _)), (heap_alloc_new v1 (.cells #[.int .i64 0, .int .i64 0, .int .i64 0, .int .i64 0] 23 (0, 0))), (chain (chain B0.out.2.2 bel1) ((Below.refl _ _).alloc (Nat.le_refl _) _))⟩
    clear bel1 B0
    have g0_0 := at23_0 B1.out.1
    have g0_1 := at23_1 B1.out.1
    have g0_2 := at23_2 B1.out.1
    have g0_3 := at23_3 B1.out.1
    have g1_0 := at23_0 B1.out.2.1
    have g1_1 := at23_1 B1.out.2.1
    have g1_2 := at23_2 B1.out.2.1
    have g1_3 := at23_3 B1.out.2.1
    go_wp2_with fail
    refine (div_is a0 a1 a2 a3 b0 b1 b2 b3 y0 y1 y2 y3 t1 _ D.out).mono ?_
    rintro e v2 ⟨rfl, bel2⟩
    clear g0_0 g0_1 g0_2 g0_3 g1_0 g1_1 g1_2 g1_3
    have B2 : Hid ((v2.alloc (.cells #[.int .i64 y0, .int .i64 y1, .int .i64 y2, .int .i64 y3] 23 (0, 0))).heap[w.heap.size]? = some (.cells #[.int .i64 a0, .int .i64 a1, .int .i64 a2, .int .i64 a3] 23 (0, 0)) ∧ (v2.alloc (.cells #[.int .i64 y0, .int .i64 y1, .int .i64 y2, .int .i64 y3] 23 (0, 0))).heap[w.heap.size + 1]? = some (.cells #[.int .i64 b0, .int .i64 b1, .int .i64 b2, .int .i64 b3] 23 (0, 0)) ∧ (v2.alloc (.cells #[.int .i64 y0, .int .i64 y1, .int .i64 y2, .int .i64 y3] 23 (0, 0))).heap[v1.heap.size]? = some (.cells #[.int .i64 0, .int .i64 0, .int .i64 0, .int .i64 0] 23 (0, 0)) ∧ (v2.alloc (.cells #[.int .i64 y0, .int .i64 y1, .int .i64 y2, .int .i64 y3] 23 (0, 0))).heap[v2.heap.size]? = some (.cells #[.int .i64 y0, .int .i64 y1, .int .i64 y2, .int .i64 y3] 23 (0, 0)) ∧ Below w.heap.size w (v2.alloc (.cells #[.int .i64 y0, .int .i64 y1, .int .i64 y2, .int .i64 y3] 23 (0, 0)))) := ⟨(keepAt (keepAt B1.out.1 bel2) ((Below.refl _ _).alloc (Nat.le_refl _) _)), (keepAt (keepAt B1.out.2.1 bel2) ((Below.refl _ _).alloc (Nat.le_refl _) _)), (keepAt (keepAt B1.out.2.2.1 bel2) ((Below.refl _ _).alloc (Nat.le_refl _) _)), (heap_alloc_new v2 (.cells #[.int .i64 y0, .int .i64 y1, .int .i64 y2, .int .i64 y3] 23 (0, 0))), (chain (chain B1.out.2.2.2 bel2) ((Below.refl _ _).alloc (Nat.le_refl _) _))⟩
    clear bel2 B1
    have g0_0 := at23_0 B2.out.1
    have g0_1 := at23_1 B2.out.1
    have g0_2 := at23_2 B2.out.1
    have g0_3 := at23_3 B2.out.1
    have g1_0 := at23_0 B2.out.2.1
    have g1_1 := at23_1 B2.out.2.1
    have g1_2 := at23_2 B2.out.2.1
    have g1_3 := at23_3 B2.out.2.1
    go_wp2_with fail
    refine (may_yes a0 a1 a2 a3 _ HB.out.a).mono ?_
    rintro e v3 ⟨rfl, bel3⟩
    clear g0_0 g0_1 g0_2 g0_3 g1_0 g1_1 g1_2 g1_3
    have B3 : Hid (v3.heap[w.heap.size]? = some (.cells #[.int .i64 a0, .int .i64 a1, .int .i64 a2, .int .i64 a3] 23 (0, 0)) ∧ v3.heap[w.heap.size + 1]? = some (.cells #[.int .i64 b0, .int .i64 b1, .int .i64 b2, .int .i64 b3] 23 (0, 0)) ∧ v3.heap[v1.heap.size]? = some (.cells #[.int .i64 0, .int .i64 0, .int .i64 0, .int .i64 0] 23 (0, 0)) ∧ v3.heap[v2.heap.size]? = some (.cells #[.int .i64 y0, .int .i64 y1, .int .i64 y2, .int .i64 y3] 23 (0, 0)) ∧ Below w.heap.size w v3) := ⟨(keepAt B2.out.1 bel3), (keepAt B2.out.2.1 bel3), (keepAt B2.out.2.2.1 bel3), (keepAt B2.out.2.2.2.1 bel3), (chain B2.out.2.2.2.2 bel3)⟩
    clear bel3 B2
    have g0_0 := at23_0 B3.out.1
    have g0_1 := at23_1 B3.out.1
    have g0_2 := at23_2 B3.out.1
    have g0_3 := at23_3 B3.out.1
    have g1_0 := at23_0 B3.out.2.1
    have g1_1 := at23_1 B3.out.2.1
    have g1_2 := at23_2 B3.out.2.1
    have g1_3 := at23_3 B3.out.2.1
    go_wp2_with fail
    refine (may_yes b0 b1 b2 b3 _ HB.out.b).mono ?_
    rintro e v4 ⟨rfl, bel4⟩
    clear g0_0 g0_1 g0_2 g0_3 g1_0 g1_1 g1_2 g1_3
    have B4 : Hid (v4.heap[w.heap.size]? = some (.cells #[.int .i64 a0, .int .i64 a1, .int .i64 a2, .int .i64 a3] 23 (0, 0)) ∧ v4.heap[w.heap.size + 1]? = some (.cells #[.int .i64 b0, .int .i64 b1, .int .i64 b2, .int .i64 b3] 23 (0, 0)) ∧ v4.heap[v1.heap.size]? = some (.cells #[.int .i64 0, .int .i64 0, .int .i64 0, .int .i64 0] 23 (0, 0)) ∧ v4.heap[v2.heap.size]? = some (.cells #[.int .i64 y0, .int .i64 y1, .int .i64 y2, .int .i64 y3] 23 (0, 0)) ∧ Below w.heap.size w v4) := ⟨(keepAt B3.out.1 bel4), (keepAt B3.out.2.1 bel4), (keepAt B3.out.2.2.1 bel4), (keepAt B3.out.2.2.2.1 bel4), (chain B3.out.2.2.2.2 bel4)⟩
    clear bel4 B3
    go_wp2_with fail
    refine (shown_m _).mono ?_
    rintro e v5 ⟨rfl, bel5⟩
    have B5 : Hid (v5.heap[w.heap.size]? = some (.cells #[.int .i64 a0, .int .i64 a1, .int .i64 a2, .int .i64 a3] 23 (0, 0)) ∧ v5.heap[w.heap.size + 1]? = some (.cells #[.int .i64 b0, .int .i64 b1, .int .i64 b2, .int .i64 b3] 23 (0, 0)) ∧ v5.heap[v1.heap.size]? = some (.cells #[.int .i64 0, .int .i64 0, .int .i64 0, .int .i64 0] 23 (0, 0)) ∧ v5.heap[v2.heap.size]? = some (.cells #[.int .i64 y0, .int .i64 y1, .int .i64 y2, .int .i64 y3] 23 (0, 0)) ∧ Below w.heap.size w v5) := ⟨(keepAt B4.out.1 bel5), (keepAt B4.out.2.1 bel5), (keepAt B4.out.2.2.1 bel5), (keepAt B4.out.2.2.2.1 bel5), (chain B4.out.2.2.2.2 bel5)⟩
    clear bel5 B4
    go_wp2
    go_ret
    exact ⟨rfl, B5.out.2.2.2.2⟩

set_option maxRecDepth 100000 in
set_option maxHeartbeats 8000000 in
theorem walk_2 (o a0 a1 a2 a3 b0 b1 b2 b3 : Int) (w : World) (hb : Both a0 a1 a2 a3 b0 b1 b2 b3) (g0 : ¬ 40 < a0 + b0) (g1 : ¬ 40 < a1 + b1) (g2 : 40 < a2 + b2) :
    Calls Try.prog 7 #[.int .i64 o, .agg #[.int .i64 a0, .int .i64 a1, .int .i64 a2, .int .i64 a3], .agg #[.int .i64 b0, .int .i64 b1, .int .i64 b2, .int .i64 b3]] w fun e w' => e = .returned (.bool true) ∧ Below w.heap.size w w' := by
  obtain ⟨x0, x1, x2, x3, k1, hmul⟩ := MulIs.ex a0 a1 a2 a3 b0 b1 b2 b3
  obtain ⟨y0, y1, y2, y3, t1, hdiv⟩ := DivIs.ex a0 a1 a2 a3 b0 b1 b2 b3
  obtain ⟨rfl, rfl, rfl, rfl, rfl⟩ := hmul.exp hb (fun m => by have := m.z.hi; omega)
  have M : Hid (MulIs a0 a1 a2 a3 b0 b1 b2 b3 0 0 0 0 80) := hmul
  have D : Hid (DivIs a0 a1 a2 a3 b0 b1 b2 b3 y0 y1 y2 y3 t1) := hdiv
  have HB : Hid (Both a0 a1 a2 a3 b0 b1 b2 b3) := hb
  obtain ⟨⟨⟨p1, p2⟩, ⟨p3, p4⟩, ⟨p5, p6⟩, ⟨p7, p8⟩⟩, ⟨q1, q2⟩, ⟨q3, q4⟩, ⟨q5, q6⟩, ⟨q7, q8⟩⟩ := hb
  have wr0 : IntKind.i64.wrap (a0 + b0) = a0 + b0 := by simp (disch := omega) only [IntWalk.i64_in]
  have wr1 : IntKind.i64.wrap (a1 + b1) = a1 + b1 := by simp (disch := omega) only [IntWalk.i64_in]
  have wr2 : IntKind.i64.wrap (a2 + b2) = a2 + b2 := by simp (disch := omega) only [IntWalk.i64_in]
  have wr3 : IntKind.i64.wrap (a3 + b3) = a3 + b3 := by simp (disch := omega) only [IntWalk.i64_in]
  clear hmul hdiv
  have B0 : Hid (((w.alloc (.cells #[.int .i64 a0, .int .i64 a1, .int .i64 a2, .int .i64 a3] 23 (0, 0))).alloc (.cells #[.int .i64 b0, .int .i64 b1, .int .i64 b2, .int .i64 b3] 23 (0, 0))).heap[w.heap.size]? = some (.cells #[.int .i64 a0, .int .i64 a1, .int .i64 a2, .int .i64 a3] 23 (0, 0)) ∧ ((w.alloc (.cells #[.int .i64 a0, .int .i64 a1, .int .i64 a2, .int .i64 a3] 23 (0, 0))).alloc (.cells #[.int .i64 b0, .int .i64 b1, .int .i64 b2, .int .i64 b3] 23 (0, 0))).heap[w.heap.size + 1]? = some (.cells #[.int .i64 b0, .int .i64 b1, .int .i64 b2, .int .i64 b3] 23 (0, 0)) ∧ Below w.heap.size w ((w.alloc (.cells #[.int .i64 a0, .int .i64 a1, .int .i64 a2, .int .i64 a3] 23 (0, 0))).alloc (.cells #[.int .i64 b0, .int .i64 b1, .int .i64 b2, .int .i64 b3] 23 (0, 0)))) := ⟨(keepAt (show (w.alloc (.cells #[.int .i64 a0, .int .i64 a1, .int .i64 a2, .int .i64 a3] 23 (0, 0))).heap[w.heap.size]? = some (.cells #[.int .i64 a0, .int .i64 a1, .int .i64 a2, .int .i64 a3] 23 (0, 0)) by have h := heap_alloc_new w (.cells #[.int .i64 a0, .int .i64 a1, .int .i64 a2, .int .i64 a3] 23 (0, 0)); simpa using h) ((Below.refl _ _).alloc (Nat.le_refl _) _)), (show ((w.alloc (.cells #[.int .i64 a0, .int .i64 a1, .int .i64 a2, .int .i64 a3] 23 (0, 0))).alloc (.cells #[.int .i64 b0, .int .i64 b1, .int .i64 b2, .int .i64 b3] 23 (0, 0))).heap[w.heap.size + 1]? = some (.cells #[.int .i64 b0, .int .i64 b1, .int .i64 b2, .int .i64 b3] 23 (0, 0)) by have h := heap_alloc_new (w.alloc (.cells #[.int .i64 a0, .int .i64 a1, .int .i64 a2, .int .i64 a3] 23 (0, 0))) (.cells #[.int .i64 b0, .int .i64 b1, .int .i64 b2, .int .i64 b3] 23 (0, 0)); simpa using h), (Below.alloc (Below.alloc (Below.refl _ _) (by go_size) _) (by go_size) _)⟩
  go_enter Try.func7, Try.ntmps7
  go_upto_block 0 with fail
  go_cut [7] from 15 to 43 (fun s7 wx => s7 = .bool true ∧ ((w.alloc (.cells #[.int .i64 a0, .int .i64 a1, .int .i64 a2, .int .i64 a3] 23 (0, 0))).alloc (.cells #[.int .i64 b0, .int .i64 b1, .int .i64 b2, .int .i64 b3] 23 (0, 0))) = wx)
  case first =>
    have g0_0 := at23_0 B0.out.1
    have g0_1 := at23_1 B0.out.1
    have g0_2 := at23_2 B0.out.1
    have g0_3 := at23_3 B0.out.1
    have g1_0 := at23_0 B0.out.2.1
    have g1_1 := at23_1 B0.out.2.1
    have g1_2 := at23_2 B0.out.2.1
    have g1_3 := at23_3 B0.out.2.1
    go_wp2_with fail
    go_rounds 5
    go_meet
    case rel => exact ⟨rfl, rfl⟩
  case rest =>
    obtain ⟨rfl, rfl⟩ := hcut
    have g0_0 := at23_0 B0.out.1
    have g0_1 := at23_1 B0.out.1
    have g0_2 := at23_2 B0.out.1
    have g0_3 := at23_3 B0.out.1
    have g1_0 := at23_0 B0.out.2.1
    have g1_1 := at23_1 B0.out.2.1
    have g1_2 := at23_2 B0.out.2.1
    have g1_3 := at23_3 B0.out.2.1
    go_wp2
    refine wp_loop_rounds 5 ?_
    rw [rounds_succ]
    go_wp2
    go_quiet (fail)
    go_wp2
    rw [rounds_succ]
    go_wp2
    go_quiet (fail)
    go_wp2
    rw [rounds_succ]
    go_wp2
    go_quiet (fail)
    go_wp2
    rw [rounds_succ]
    go_wp2
    go_quiet (fail)
    go_wp2
    rw [rounds_succ]
    go_wp2_with fail
    refine (mul_is a0 a1 a2 a3 b0 b1 b2 b3 0 0 0 0 80 _ M.out).mono ?_
    rintro e v1 ⟨rfl, bel1⟩
    have bel1 : Below ((w.alloc (.cells #[.int .i64 a0, .int .i64 a1, .int .i64 a2, .int .i64 a3] 23 (0, 0))).alloc (.cells #[.int .i64 b0, .int .i64 b1, .int .i64 b2, .int .i64 b3] 23 (0, 0))).heap.size ((w.alloc (.cells #[.int .i64 a0, .int .i64 a1, .int .i64 a2, .int .i64 a3] 23 (0, 0))).alloc (.cells #[.int .i64 b0, .int .i64 b1, .int .i64 b2, .int .i64 b3] 23 (0, 0))) v1 := chain (below_drewN (Below.refl _ _) _) bel1
    clear g0_0 g0_1 g0_2 g0_3 g1_0 g1_1 g1_2 g1_3
    have B1 : Hid ((v1.alloc (.cells #[.int .i64 0, .int .i64 0, .int .i64 0, .int .i64 0] 23 (0, 0))).heap[w.heap.size]? = some (.cells #[.int .i64 a0, .int .i64 a1, .int .i64 a2, .int .i64 a3] 23 (0, 0)) ∧ (v1.alloc (.cells #[.int .i64 0, .int .i64 0, .int .i64 0, .int .i64 0] 23 (0, 0))).heap[w.heap.size + 1]? = some (.cells #[.int .i64 b0, .int .i64 b1, .int .i64 b2, .int .i64 b3] 23 (0, 0)) ∧ (v1.alloc (.cells #[.int .i64 0, .int .i64 0, .int .i64 0, .int .i64 0] 23 (0, 0))).heap[v1.heap.size]? = some (.cells #[.int .i64 0, .int .i64 0, .int .i64 0, .int .i64 0] 23 (0, 0)) ∧ Below w.heap.size w (v1.alloc (.cells #[.int .i64 0, .int .i64 0, .int .i64 0, .int .i64 0] 23 (0, 0)))) := ⟨(keepAt (keepAt B0.out.1 bel1) ((Below.refl _ _).alloc (Nat.le_refl _) _)), (keepAt (keepAt B0.out.2.1 bel1) ((Below.refl _ _).alloc (Nat.le_refl _) _)), (heap_alloc_new v1 (.cells #[.int .i64 0, .int .i64 0, .int .i64 0, .int .i64 0] 23 (0, 0))), (chain (chain B0.out.2.2 bel1) ((Below.refl _ _).alloc (Nat.le_refl _) _))⟩
    clear bel1 B0
    have g0_0 := at23_0 B1.out.1
    have g0_1 := at23_1 B1.out.1
    have g0_2 := at23_2 B1.out.1
    have g0_3 := at23_3 B1.out.1
    have g1_0 := at23_0 B1.out.2.1
    have g1_1 := at23_1 B1.out.2.1
    have g1_2 := at23_2 B1.out.2.1
    have g1_3 := at23_3 B1.out.2.1
    go_wp2_with fail
    refine (div_is a0 a1 a2 a3 b0 b1 b2 b3 y0 y1 y2 y3 t1 _ D.out).mono ?_
    rintro e v2 ⟨rfl, bel2⟩
    clear g0_0 g0_1 g0_2 g0_3 g1_0 g1_1 g1_2 g1_3
    have B2 : Hid ((v2.alloc (.cells #[.int .i64 y0, .int .i64 y1, .int .i64 y2, .int .i64 y3] 23 (0, 0))).heap[w.heap.size]? = some (.cells #[.int .i64 a0, .int .i64 a1, .int .i64 a2, .int .i64 a3] 23 (0, 0)) ∧ (v2.alloc (.cells #[.int .i64 y0, .int .i64 y1, .int .i64 y2, .int .i64 y3] 23 (0, 0))).heap[w.heap.size + 1]? = some (.cells #[.int .i64 b0, .int .i64 b1, .int .i64 b2, .int .i64 b3] 23 (0, 0)) ∧ (v2.alloc (.cells #[.int .i64 y0, .int .i64 y1, .int .i64 y2, .int .i64 y3] 23 (0, 0))).heap[v1.heap.size]? = some (.cells #[.int .i64 0, .int .i64 0, .int .i64 0, .int .i64 0] 23 (0, 0)) ∧ (v2.alloc (.cells #[.int .i64 y0, .int .i64 y1, .int .i64 y2, .int .i64 y3] 23 (0, 0))).heap[v2.heap.size]? = some (.cells #[.int .i64 y0, .int .i64 y1, .int .i64 y2, .int .i64 y3] 23 (0, 0)) ∧ Below w.heap.size w (v2.alloc (.cells #[.int .i64 y0, .int .i64 y1, .int .i64 y2, .int .i64 y3] 23 (0, 0)))) := ⟨(keepAt (keepAt B1.out.1 bel2) ((Below.refl _ _).alloc (Nat.le_refl _) _)), (keepAt (keepAt B1.out.2.1 bel2) ((Below.refl _ _).alloc (Nat.le_refl _) _)), (keepAt (keepAt B1.out.2.2.1 bel2) ((Below.refl _ _).alloc (Nat.le_refl _) _)), (heap_alloc_new v2 (.cells #[.int .i64 y0, .int .i64 y1, .int .i64 y2, .int .i64 y3] 23 (0, 0))), (chain (chain B1.out.2.2.2 bel2) ((Below.refl _ _).alloc (Nat.le_refl _) _))⟩
    clear bel2 B1
    have g0_0 := at23_0 B2.out.1
    have g0_1 := at23_1 B2.out.1
    have g0_2 := at23_2 B2.out.1
    have g0_3 := at23_3 B2.out.1
    have g1_0 := at23_0 B2.out.2.1
    have g1_1 := at23_1 B2.out.2.1
    have g1_2 := at23_2 B2.out.2.1
    have g1_3 := at23_3 B2.out.2.1
    go_wp2_with fail
    refine (may_yes a0 a1 a2 a3 _ HB.out.a).mono ?_
    rintro e v3 ⟨rfl, bel3⟩
    clear g0_0 g0_1 g0_2 g0_3 g1_0 g1_1 g1_2 g1_3
    have B3 : Hid (v3.heap[w.heap.size]? = some (.cells #[.int .i64 a0, .int .i64 a1, .int .i64 a2, .int .i64 a3] 23 (0, 0)) ∧ v3.heap[w.heap.size + 1]? = some (.cells #[.int .i64 b0, .int .i64 b1, .int .i64 b2, .int .i64 b3] 23 (0, 0)) ∧ v3.heap[v1.heap.size]? = some (.cells #[.int .i64 0, .int .i64 0, .int .i64 0, .int .i64 0] 23 (0, 0)) ∧ v3.heap[v2.heap.size]? = some (.cells #[.int .i64 y0, .int .i64 y1, .int .i64 y2, .int .i64 y3] 23 (0, 0)) ∧ Below w.heap.size w v3) := ⟨(keepAt B2.out.1 bel3), (keepAt B2.out.2.1 bel3), (keepAt B2.out.2.2.1 bel3), (keepAt B2.out.2.2.2.1 bel3), (chain B2.out.2.2.2.2 bel3)⟩
    clear bel3 B2
    have g0_0 := at23_0 B3.out.1
    have g0_1 := at23_1 B3.out.1
    have g0_2 := at23_2 B3.out.1
    have g0_3 := at23_3 B3.out.1
    have g1_0 := at23_0 B3.out.2.1
    have g1_1 := at23_1 B3.out.2.1
    have g1_2 := at23_2 B3.out.2.1
    have g1_3 := at23_3 B3.out.2.1
    go_wp2_with fail
    refine (may_yes b0 b1 b2 b3 _ HB.out.b).mono ?_
    rintro e v4 ⟨rfl, bel4⟩
    clear g0_0 g0_1 g0_2 g0_3 g1_0 g1_1 g1_2 g1_3
    have B4 : Hid (v4.heap[w.heap.size]? = some (.cells #[.int .i64 a0, .int .i64 a1, .int .i64 a2, .int .i64 a3] 23 (0, 0)) ∧ v4.heap[w.heap.size + 1]? = some (.cells #[.int .i64 b0, .int .i64 b1, .int .i64 b2, .int .i64 b3] 23 (0, 0)) ∧ v4.heap[v1.heap.size]? = some (.cells #[.int .i64 0, .int .i64 0, .int .i64 0, .int .i64 0] 23 (0, 0)) ∧ v4.heap[v2.heap.size]? = some (.cells #[.int .i64 y0, .int .i64 y1, .int .i64 y2, .int .i64 y3] 23 (0, 0)) ∧ Below w.heap.size w v4) := ⟨(keepAt B3.out.1 bel4), (keepAt B3.out.2.1 bel4), (keepAt B3.out.2.2.1 bel4), (keepAt B3.out.2.2.2.1 bel4), (chain B3.out.2.2.2.2 bel4)⟩
    clear bel4 B3
    go_wp2_with fail
    refine (shown_m _).mono ?_
    rintro e v5 ⟨rfl, bel5⟩
    have B5 : Hid (v5.heap[w.heap.size]? = some (.cells #[.int .i64 a0, .int .i64 a1, .int .i64 a2, .int .i64 a3] 23 (0, 0)) ∧ v5.heap[w.heap.size + 1]? = some (.cells #[.int .i64 b0, .int .i64 b1, .int .i64 b2, .int .i64 b3] 23 (0, 0)) ∧ v5.heap[v1.heap.size]? = some (.cells #[.int .i64 0, .int .i64 0, .int .i64 0, .int .i64 0] 23 (0, 0)) ∧ v5.heap[v2.heap.size]? = some (.cells #[.int .i64 y0, .int .i64 y1, .int .i64 y2, .int .i64 y3] 23 (0, 0)) ∧ Below w.heap.size w v5) := ⟨(keepAt B4.out.1 bel5), (keepAt B4.out.2.1 bel5), (keepAt B4.out.2.2.1 bel5), (keepAt B4.out.2.2.2.1 bel5), (chain B4.out.2.2.2.2 bel5)⟩
    clear bel5 B4
    go_wp2
    go_ret
    exact ⟨rfl, B5.out.2.2.2.2⟩

set_option maxRecDepth 100000 in
set_option maxHeartbeats 8000000 in
theorem walk_3 (o a0 a1 a2 a3 b0 b1 b2 b3 : Int) (w : World) (hb : Both a0 a1 a2 a3 b0 b1 b2 b3) (g0 : ¬ 40 < a0 + b0) (g1 : ¬ 40 < a1 + b1) (g2 : ¬ 40 < a2 + b2) (g3 : 40 < a3 + b3) :
    Calls Try.prog 7 #[.int .i64 o, .agg #[.int .i64 a0, .int .i64 a1, .int .i64 a2, .int .i64 a3], .agg #[.int .i64 b0, .int .i64 b1, .int .i64 b2, .int .i64 b3]] w fun e w' => e = .returned (.bool true) ∧ Below w.heap.size w w' := by
  obtain ⟨x0, x1, x2, x3, k1, hmul⟩ := MulIs.ex a0 a1 a2 a3 b0 b1 b2 b3
  obtain ⟨y0, y1, y2, y3, t1, hdiv⟩ := DivIs.ex a0 a1 a2 a3 b0 b1 b2 b3
  obtain ⟨rfl, rfl, rfl, rfl, rfl⟩ := hmul.exp hb (fun m => by have := m.u.hi; omega)
  have M : Hid (MulIs a0 a1 a2 a3 b0 b1 b2 b3 0 0 0 0 80) := hmul
  have D : Hid (DivIs a0 a1 a2 a3 b0 b1 b2 b3 y0 y1 y2 y3 t1) := hdiv
  have HB : Hid (Both a0 a1 a2 a3 b0 b1 b2 b3) := hb
  obtain ⟨⟨⟨p1, p2⟩, ⟨p3, p4⟩, ⟨p5, p6⟩, ⟨p7, p8⟩⟩, ⟨q1, q2⟩, ⟨q3, q4⟩, ⟨q5, q6⟩, ⟨q7, q8⟩⟩ := hb
  have wr0 : IntKind.i64.wrap (a0 + b0) = a0 + b0 := by simp (disch := omega) only [IntWalk.i64_in]
  have wr1 : IntKind.i64.wrap (a1 + b1) = a1 + b1 := by simp (disch := omega) only [IntWalk.i64_in]
  have wr2 : IntKind.i64.wrap (a2 + b2) = a2 + b2 := by simp (disch := omega) only [IntWalk.i64_in]
  have wr3 : IntKind.i64.wrap (a3 + b3) = a3 + b3 := by simp (disch := omega) only [IntWalk.i64_in]
  clear hmul hdiv
  have B0 : Hid (((w.alloc (.cells #[.int .i64 a0, .int .i64 a1, .int .i64 a2, .int .i64 a3] 23 (0, 0))).alloc (.cells #[.int .i64 b0, .int .i64 b1, .int .i64 b2, .int .i64 b3] 23 (0, 0))).heap[w.heap.size]? = some (.cells #[.int .i64 a0, .int .i64 a1, .int .i64 a2, .int .i64 a3] 23 (0, 0)) ∧ ((w.alloc (.cells #[.int .i64 a0, .int .i64 a1, .int .i64 a2, .int .i64 a3] 23 (0, 0))).alloc (.cells #[.int .i64 b0, .int .i64 b1, .int .i64 b2, .int .i64 b3] 23 (0, 0))).heap[w.heap.size + 1]? = some (.cells #[.int .i64 b0, .int .i64 b1, .int .i64 b2, .int .i64 b3] 23 (0, 0)) ∧ Below w.heap.size w ((w.alloc (.cells #[.int .i64 a0, .int .i64 a1, .int .i64 a2, .int .i64 a3] 23 (0, 0))).alloc (.cells #[.int .i64 b0, .int .i64 b1, .int .i64 b2, .int .i64 b3] 23 (0, 0)))) := ⟨(keepAt (show (w.alloc (.cells #[.int .i64 a0, .int .i64 a1, .int .i64 a2, .int .i64 a3] 23 (0, 0))).heap[w.heap.size]? = some (.cells #[.int .i64 a0, .int .i64 a1, .int .i64 a2, .int .i64 a3] 23 (0, 0)) by have h := heap_alloc_new w (.cells #[.int .i64 a0, .int .i64 a1, .int .i64 a2, .int .i64 a3] 23 (0, 0)); simpa using h) ((Below.refl _ _).alloc (Nat.le_refl _) _)), (show ((w.alloc (.cells #[.int .i64 a0, .int .i64 a1, .int .i64 a2, .int .i64 a3] 23 (0, 0))).alloc (.cells #[.int .i64 b0, .int .i64 b1, .int .i64 b2, .int .i64 b3] 23 (0, 0))).heap[w.heap.size + 1]? = some (.cells #[.int .i64 b0, .int .i64 b1, .int .i64 b2, .int .i64 b3] 23 (0, 0)) by have h := heap_alloc_new (w.alloc (.cells #[.int .i64 a0, .int .i64 a1, .int .i64 a2, .int .i64 a3] 23 (0, 0))) (.cells #[.int .i64 b0, .int .i64 b1, .int .i64 b2, .int .i64 b3] 23 (0, 0)); simpa using h), (Below.alloc (Below.alloc (Below.refl _ _) (by go_size) _) (by go_size) _)⟩
  go_enter Try.func7, Try.ntmps7
  go_upto_block 0 with fail
  go_cut [7] from 15 to 43 (fun s7 wx => s7 = .bool true ∧ ((w.alloc (.cells #[.int .i64 a0, .int .i64 a1, .int .i64 a2, .int .i64 a3] 23 (0, 0))).alloc (.cells #[.int .i64 b0, .int .i64 b1, .int .i64 b2, .int .i64 b3] 23 (0, 0))) = wx)
  case first =>
    have g0_0 := at23_0 B0.out.1
    have g0_1 := at23_1 B0.out.1
    have g0_2 := at23_2 B0.out.1
    have g0_3 := at23_3 B0.out.1
    have g1_0 := at23_0 B0.out.2.1
    have g1_1 := at23_1 B0.out.2.1
    have g1_2 := at23_2 B0.out.2.1
    have g1_3 := at23_3 B0.out.2.1
    go_wp2_with fail
    go_rounds 5
    go_meet
    case rel => exact ⟨rfl, rfl⟩
  case rest =>
    obtain ⟨rfl, rfl⟩ := hcut
    have g0_0 := at23_0 B0.out.1
    have g0_1 := at23_1 B0.out.1
    have g0_2 := at23_2 B0.out.1
    have g0_3 := at23_3 B0.out.1
    have g1_0 := at23_0 B0.out.2.1
    have g1_1 := at23_1 B0.out.2.1
    have g1_2 := at23_2 B0.out.2.1
    have g1_3 := at23_3 B0.out.2.1
    go_wp2
    refine wp_loop_rounds 5 ?_
    rw [rounds_succ]
    go_wp2
    go_quiet (fail)
    go_wp2
    rw [rounds_succ]
    go_wp2
    go_quiet (fail)
    go_wp2
    rw [rounds_succ]
    go_wp2
    go_quiet (fail)
    go_wp2
    rw [rounds_succ]
    go_wp2
    go_quiet (fail)
    go_wp2
    rw [rounds_succ]
    go_wp2_with fail
    refine (mul_is a0 a1 a2 a3 b0 b1 b2 b3 0 0 0 0 80 _ M.out).mono ?_
    rintro e v1 ⟨rfl, bel1⟩
    have bel1 : Below ((w.alloc (.cells #[.int .i64 a0, .int .i64 a1, .int .i64 a2, .int .i64 a3] 23 (0, 0))).alloc (.cells #[.int .i64 b0, .int .i64 b1, .int .i64 b2, .int .i64 b3] 23 (0, 0))).heap.size ((w.alloc (.cells #[.int .i64 a0, .int .i64 a1, .int .i64 a2, .int .i64 a3] 23 (0, 0))).alloc (.cells #[.int .i64 b0, .int .i64 b1, .int .i64 b2, .int .i64 b3] 23 (0, 0))) v1 := chain (below_drewN (Below.refl _ _) _) bel1
    clear g0_0 g0_1 g0_2 g0_3 g1_0 g1_1 g1_2 g1_3
    have B1 : Hid ((v1.alloc (.cells #[.int .i64 0, .int .i64 0, .int .i64 0, .int .i64 0] 23 (0, 0))).heap[w.heap.size]? = some (.cells #[.int .i64 a0, .int .i64 a1, .int .i64 a2, .int .i64 a3] 23 (0, 0)) ∧ (v1.alloc (.cells #[.int .i64 0, .int .i64 0, .int .i64 0, .int .i64 0] 23 (0, 0))).heap[w.heap.size + 1]? = some (.cells #[.int .i64 b0, .int .i64 b1, .int .i64 b2, .int .i64 b3] 23 (0, 0)) ∧ (v1.alloc (.cells #[.int .i64 0, .int .i64 0, .int .i64 0, .int .i64 0] 23 (0, 0))).heap[v1.heap.size]? = some (.cells #[.int .i64 0, .int .i64 0, .int .i64 0, .int .i64 0] 23 (0, 0)) ∧ Below w.heap.size w (v1.alloc (.cells #[.int .i64 0, .int .i64 0, .int .i64 0, .int .i64 0] 23 (0, 0)))) := ⟨(keepAt (keepAt B0.out.1 bel1) ((Below.refl _ _).alloc (Nat.le_refl _) _)), (keepAt (keepAt B0.out.2.1 bel1) ((Below.refl _ _).alloc (Nat.le_refl _) _)), (heap_alloc_new v1 (.cells #[.int .i64 0, .int .i64 0, .int .i64 0, .int .i64 0] 23 (0, 0))), (chain (chain B0.out.2.2 bel1) ((Below.refl _ _).alloc (Nat.le_refl _) _))⟩
    clear bel1 B0
    have g0_0 := at23_0 B1.out.1
    have g0_1 := at23_1 B1.out.1
    have g0_2 := at23_2 B1.out.1
    have g0_3 := at23_3 B1.out.1
    have g1_0 := at23_0 B1.out.2.1
    have g1_1 := at23_1 B1.out.2.1
    have g1_2 := at23_2 B1.out.2.1
    have g1_3 := at23_3 B1.out.2.1
    go_wp2_with fail
    refine (div_is a0 a1 a2 a3 b0 b1 b2 b3 y0 y1 y2 y3 t1 _ D.out).mono ?_
    rintro e v2 ⟨rfl, bel2⟩
    clear g0_0 g0_1 g0_2 g0_3 g1_0 g1_1 g1_2 g1_3
    have B2 : Hid ((v2.alloc (.cells #[.int .i64 y0, .int .i64 y1, .int .i64 y2, .int .i64 y3] 23 (0, 0))).heap[w.heap.size]? = some (.cells #[.int .i64 a0, .int .i64 a1, .int .i64 a2, .int .i64 a3] 23 (0, 0)) ∧ (v2.alloc (.cells #[.int .i64 y0, .int .i64 y1, .int .i64 y2, .int .i64 y3] 23 (0, 0))).heap[w.heap.size + 1]? = some (.cells #[.int .i64 b0, .int .i64 b1, .int .i64 b2, .int .i64 b3] 23 (0, 0)) ∧ (v2.alloc (.cells #[.int .i64 y0, .int .i64 y1, .int .i64 y2, .int .i64 y3] 23 (0, 0))).heap[v1.heap.size]? = some (.cells #[.int .i64 0, .int .i64 0, .int .i64 0, .int .i64 0] 23 (0, 0)) ∧ (v2.alloc (.cells #[.int .i64 y0, .int .i64 y1, .int .i64 y2, .int .i64 y3] 23 (0, 0))).heap[v2.heap.size]? = some (.cells #[.int .i64 y0, .int .i64 y1, .int .i64 y2, .int .i64 y3] 23 (0, 0)) ∧ Below w.heap.size w (v2.alloc (.cells #[.int .i64 y0, .int .i64 y1, .int .i64 y2, .int .i64 y3] 23 (0, 0)))) := ⟨(keepAt (keepAt B1.out.1 bel2) ((Below.refl _ _).alloc (Nat.le_refl _) _)), (keepAt (keepAt B1.out.2.1 bel2) ((Below.refl _ _).alloc (Nat.le_refl _) _)), (keepAt (keepAt B1.out.2.2.1 bel2) ((Below.refl _ _).alloc (Nat.le_refl _) _)), (heap_alloc_new v2 (.cells #[.int .i64 y0, .int .i64 y1, .int .i64 y2, .int .i64 y3] 23 (0, 0))), (chain (chain B1.out.2.2.2 bel2) ((Below.refl _ _).alloc (Nat.le_refl _) _))⟩
    clear bel2 B1
    have g0_0 := at23_0 B2.out.1
    have g0_1 := at23_1 B2.out.1
    have g0_2 := at23_2 B2.out.1
    have g0_3 := at23_3 B2.out.1
    have g1_0 := at23_0 B2.out.2.1
    have g1_1 := at23_1 B2.out.2.1
    have g1_2 := at23_2 B2.out.2.1
    have g1_3 := at23_3 B2.out.2.1
    go_wp2_with fail
    refine (may_yes a0 a1 a2 a3 _ HB.out.a).mono ?_
    rintro e v3 ⟨rfl, bel3⟩
    clear g0_0 g0_1 g0_2 g0_3 g1_0 g1_1 g1_2 g1_3
    have B3 : Hid (v3.heap[w.heap.size]? = some (.cells #[.int .i64 a0, .int .i64 a1, .int .i64 a2, .int .i64 a3] 23 (0, 0)) ∧ v3.heap[w.heap.size + 1]? = some (.cells #[.int .i64 b0, .int .i64 b1, .int .i64 b2, .int .i64 b3] 23 (0, 0)) ∧ v3.heap[v1.heap.size]? = some (.cells #[.int .i64 0, .int .i64 0, .int .i64 0, .int .i64 0] 23 (0, 0)) ∧ v3.heap[v2.heap.size]? = some (.cells #[.int .i64 y0, .int .i64 y1, .int .i64 y2, .int .i64 y3] 23 (0, 0)) ∧ Below w.heap.size w v3) := ⟨(keepAt B2.out.1 bel3), (keepAt B2.out.2.1 bel3), (keepAt B2.out.2.2.1 bel3), (keepAt B2.out.2.2.2.1 bel3), (chain B2.out.2.2.2.2 bel3)⟩
    clear bel3 B2
    have g0_0 := at23_0 B3.out.1
    have g0_1 := at23_1 B3.out.1
    have g0_2 := at23_2 B3.out.1
    have g0_3 := at23_3 B3.out.1
    have g1_0 := at23_0 B3.out.2.1
    have g1_1 := at23_1 B3.out.2.1
    have g1_2 := at23_2 B3.out.2.1
    have g1_3 := at23_3 B3.out.2.1
    go_wp2_with fail
    refine (may_yes b0 b1 b2 b3 _ HB.out.b).mono ?_
    rintro e v4 ⟨rfl, bel4⟩
    clear g0_0 g0_1 g0_2 g0_3 g1_0 g1_1 g1_2 g1_3
    have B4 : Hid (v4.heap[w.heap.size]? = some (.cells #[.int .i64 a0, .int .i64 a1, .int .i64 a2, .int .i64 a3] 23 (0, 0)) ∧ v4.heap[w.heap.size + 1]? = some (.cells #[.int .i64 b0, .int .i64 b1, .int .i64 b2, .int .i64 b3] 23 (0, 0)) ∧ v4.heap[v1.heap.size]? = some (.cells #[.int .i64 0, .int .i64 0, .int .i64 0, .int .i64 0] 23 (0, 0)) ∧ v4.heap[v2.heap.size]? = some (.cells #[.int .i64 y0, .int .i64 y1, .int .i64 y2, .int .i64 y3] 23 (0, 0)) ∧ Below w.heap.size w v4) := ⟨(keepAt B3.out.1 bel4), (keepAt B3.out.2.1 bel4), (keepAt B3.out.2.2.1 bel4), (keepAt B3.out.2.2.2.1 bel4), (chain B3.out.2.2.2.2 bel4)⟩
    clear bel4 B3
    go_wp2_with fail
    refine (shown_m _).mono ?_
    rintro e v5 ⟨rfl, bel5⟩
    have B5 : Hid (v5.heap[w.heap.size]? = some (.cells #[.int .i64 a0, .int .i64 a1, .int .i64 a2, .int .i64 a3] 23 (0, 0)) ∧ v5.heap[w.heap.size + 1]? = some (.cells #[.int .i64 b0, .int .i64 b1, .int .i64 b2, .int .i64 b3] 23 (0, 0)) ∧ v5.heap[v1.heap.size]? = some (.cells #[.int .i64 0, .int .i64 0, .int .i64 0, .int .i64 0] 23 (0, 0)) ∧ v5.heap[v2.heap.size]? = some (.cells #[.int .i64 y0, .int .i64 y1, .int .i64 y2, .int .i64 y3] 23 (0, 0)) ∧ Below w.heap.size w v5) := ⟨(keepAt B4.out.1 bel5), (keepAt B4.out.2.1 bel5), (keepAt B4.out.2.2.1 bel5), (keepAt B4.out.2.2.2.1 bel5), (chain B4.out.2.2.2.2 bel5)⟩
    clear bel5 B4
    go_wp2
    go_ret
    exact ⟨rfl, B5.out.2.2.2.2⟩

set_option maxRecDepth 100000 in
set_option maxHeartbeats 8000000 in
theorem walk_4 (o a0 a1 a2 a3 b0 b1 b2 b3 : Int) (w : World) (hb : Both a0 a1 a2 a3 b0 b1 b2 b3) (g0 : ¬ 40 < a0 + b0) (g1 : ¬ 40 < a1 + b1) (g2 : ¬ 40 < a2 + b2) (g3 : ¬ 40 < a3 + b3) :
    Calls Try.prog 7 #[.int .i64 o, .agg #[.int .i64 a0, .int .i64 a1, .int .i64 a2, .int .i64 a3], .agg #[.int .i64 b0, .int .i64 b1, .int .i64 b2, .int .i64 b3]] w fun e w' => e = .returned (.bool true) ∧ Below w.heap.size w w' := by
  obtain ⟨x0, x1, x2, x3, k1, hmul⟩ := MulIs.ex a0 a1 a2 a3 b0 b1 b2 b3
  obtain ⟨y0, y1, y2, y3, t1, hdiv⟩ := DivIs.ex a0 a1 a2 a3 b0 b1 b2 b3
  have hs : May4 (a0 + b0) (a1 + b1) (a2 + b2) (a3 + b3) := by
    obtain ⟨⟨⟨p1, p2⟩, ⟨p3, p4⟩, ⟨p5, p6⟩, ⟨p7, p8⟩⟩, ⟨q1, q2⟩, ⟨q3, q4⟩, ⟨q5, q6⟩, ⟨q7, q8⟩⟩ := hb
    exact ⟨⟨by omega, by omega⟩, ⟨by omega, by omega⟩, ⟨by omega, by omega⟩, ⟨by omega, by omega⟩⟩
  obtain rfl := (hmul.ok hb hs).2.2.2.2
  have M : Hid (MulIs a0 a1 a2 a3 b0 b1 b2 b3 x0 x1 x2 x3 0) := hmul
  have D : Hid (DivIs a0 a1 a2 a3 b0 b1 b2 b3 y0 y1 y2 y3 t1) := hdiv
  have HB : Hid (Both a0 a1 a2 a3 b0 b1 b2 b3) := hb
  obtain ⟨⟨⟨p1, p2⟩, ⟨p3, p4⟩, ⟨p5, p6⟩, ⟨p7, p8⟩⟩, ⟨q1, q2⟩, ⟨q3, q4⟩, ⟨q5, q6⟩, ⟨q7, q8⟩⟩ := hb
  have wr0 : IntKind.i64.wrap (a0 + b0) = a0 + b0 := by simp (disch := omega) only [IntWalk.i64_in]
  have wr1 : IntKind.i64.wrap (a1 + b1) = a1 + b1 := by simp (disch := omega) only [IntWalk.i64_in]
  have wr2 : IntKind.i64.wrap (a2 + b2) = a2 + b2 := by simp (disch := omega) only [IntWalk.i64_in]
  have wr3 : IntKind.i64.wrap (a3 + b3) = a3 + b3 := by simp (disch := omega) only [IntWalk.i64_in]
  clear hmul hdiv hs
  have B0 : Hid (((w.alloc (.cells #[.int .i64 a0, .int .i64 a1, .int .i64 a2, .int .i64 a3] 23 (0, 0))).alloc (.cells #[.int .i64 b0, .int .i64 b1, .int .i64 b2, .int .i64 b3] 23 (0, 0))).heap[w.heap.size]? = some (.cells #[.int .i64 a0, .int .i64 a1, .int .i64 a2, .int .i64 a3] 23 (0, 0)) ∧ ((w.alloc (.cells #[.int .i64 a0, .int .i64 a1, .int .i64 a2, .int .i64 a3] 23 (0, 0))).alloc (.cells #[.int .i64 b0, .int .i64 b1, .int .i64 b2, .int .i64 b3] 23 (0, 0))).heap[w.heap.size + 1]? = some (.cells #[.int .i64 b0, .int .i64 b1, .int .i64 b2, .int .i64 b3] 23 (0, 0)) ∧ Below w.heap.size w ((w.alloc (.cells #[.int .i64 a0, .int .i64 a1, .int .i64 a2, .int .i64 a3] 23 (0, 0))).alloc (.cells #[.int .i64 b0, .int .i64 b1, .int .i64 b2, .int .i64 b3] 23 (0, 0)))) := ⟨(keepAt (show (w.alloc (.cells #[.int .i64 a0, .int .i64 a1, .int .i64 a2, .int .i64 a3] 23 (0, 0))).heap[w.heap.size]? = some (.cells #[.int .i64 a0, .int .i64 a1, .int .i64 a2, .int .i64 a3] 23 (0, 0)) by have h := heap_alloc_new w (.cells #[.int .i64 a0, .int .i64 a1, .int .i64 a2, .int .i64 a3] 23 (0, 0)); simpa using h) ((Below.refl _ _).alloc (Nat.le_refl _) _)), (show ((w.alloc (.cells #[.int .i64 a0, .int .i64 a1, .int .i64 a2, .int .i64 a3] 23 (0, 0))).alloc (.cells #[.int .i64 b0, .int .i64 b1, .int .i64 b2, .int .i64 b3] 23 (0, 0))).heap[w.heap.size + 1]? = some (.cells #[.int .i64 b0, .int .i64 b1, .int .i64 b2, .int .i64 b3] 23 (0, 0)) by have h := heap_alloc_new (w.alloc (.cells #[.int .i64 a0, .int .i64 a1, .int .i64 a2, .int .i64 a3] 23 (0, 0))) (.cells #[.int .i64 b0, .int .i64 b1, .int .i64 b2, .int .i64 b3] 23 (0, 0)); simpa using h), (Below.alloc (Below.alloc (Below.refl _ _) (by go_size) _) (by go_size) _)⟩
  go_enter Try.func7, Try.ntmps7
  go_upto_block 0 with fail
  go_cut [7] from 15 to 43 (fun s7 wx => s7 = .bool true ∧ ((w.alloc (.cells #[.int .i64 a0, .int .i64 a1, .int .i64 a2, .int .i64 a3] 23 (0, 0))).alloc (.cells #[.int .i64 b0, .int .i64 b1, .int .i64 b2, .int .i64 b3] 23 (0, 0))) = wx)
  case first =>
    have g0_0 := at23_0 B0.out.1
    have g0_1 := at23_1 B0.out.1
    have g0_2 := at23_2 B0.out.1
    have g0_3 := at23_3 B0.out.1
    have g1_0 := at23_0 B0.out.2.1
    have g1_1 := at23_1 B0.out.2.1
    have g1_2 := at23_2 B0.out.2.1
    have g1_3 := at23_3 B0.out.2.1
    go_wp2_with fail
    go_rounds 5
    go_meet
    case rel => exact ⟨rfl, rfl⟩
  case rest =>
    obtain ⟨rfl, rfl⟩ := hcut
    have g0_0 := at23_0 B0.out.1
    have g0_1 := at23_1 B0.out.1
    have g0_2 := at23_2 B0.out.1
    have g0_3 := at23_3 B0.out.1
    have g1_0 := at23_0 B0.out.2.1
    have g1_1 := at23_1 B0.out.2.1
    have g1_2 := at23_2 B0.out.2.1
    have g1_3 := at23_3 B0.out.2.1
    go_wp2
    refine wp_loop_rounds 5 ?_
    rw [rounds_succ]
    go_wp2
    go_quiet (fail)
    go_wp2
    rw [rounds_succ]
    go_wp2
    go_quiet (fail)
    go_wp2
    rw [rounds_succ]
    go_wp2
    go_quiet (fail)
    go_wp2
    rw [rounds_succ]
    go_wp2
    go_quiet (fail)
    go_wp2
    rw [rounds_succ]
    go_wp2_with fail
    refine (mul_is a0 a1 a2 a3 b0 b1 b2 b3 x0 x1 x2 x3 0 _ M.out).mono ?_
    rintro e v1 ⟨rfl, bel1⟩
    have bel1 : Below ((w.alloc (.cells #[.int .i64 a0, .int .i64 a1, .int .i64 a2, .int .i64 a3] 23 (0, 0))).alloc (.cells #[.int .i64 b0, .int .i64 b1, .int .i64 b2, .int .i64 b3] 23 (0, 0))).heap.size ((w.alloc (.cells #[.int .i64 a0, .int .i64 a1, .int .i64 a2, .int .i64 a3] 23 (0, 0))).alloc (.cells #[.int .i64 b0, .int .i64 b1, .int .i64 b2, .int .i64 b3] 23 (0, 0))) v1 := chain (below_drewN (Below.refl _ _) _) bel1
    clear g0_0 g0_1 g0_2 g0_3 g1_0 g1_1 g1_2 g1_3
    have B1 : Hid ((v1.alloc (.cells #[.int .i64 x0, .int .i64 x1, .int .i64 x2, .int .i64 x3] 23 (0, 0))).heap[w.heap.size]? = some (.cells #[.int .i64 a0, .int .i64 a1, .int .i64 a2, .int .i64 a3] 23 (0, 0)) ∧ (v1.alloc (.cells #[.int .i64 x0, .int .i64 x1, .int .i64 x2, .int .i64 x3] 23 (0, 0))).heap[w.heap.size + 1]? = some (.cells #[.int .i64 b0, .int .i64 b1, .int .i64 b2, .int .i64 b3] 23 (0, 0)) ∧ (v1.alloc (.cells #[.int .i64 x0, .int .i64 x1, .int .i64 x2, .int .i64 x3] 23 (0, 0))).heap[v1.heap.size]? = some (.cells #[.int .i64 x0, .int .i64 x1, .int .i64 x2, .int .i64 x3] 23 (0, 0)) ∧ Below w.heap.size w (v1.alloc (.cells #[.int .i64 x0, .int .i64 x1, .int .i64 x2, .int .i64 x3] 23 (0, 0)))) := ⟨(keepAt (keepAt B0.out.1 bel1) ((Below.refl _ _).alloc (Nat.le_refl _) _)), (keepAt (keepAt B0.out.2.1 bel1) ((Below.refl _ _).alloc (Nat.le_refl _) _)), (heap_alloc_new v1 (.cells #[.int .i64 x0, .int .i64 x1, .int .i64 x2, .int .i64 x3] 23 (0, 0))), (chain (chain B0.out.2.2 bel1) ((Below.refl _ _).alloc (Nat.le_refl _) _))⟩
    clear bel1 B0
    have g0_0 := at23_0 B1.out.1
    have g0_1 := at23_1 B1.out.1
    have g0_2 := at23_2 B1.out.1
    have g0_3 := at23_3 B1.out.1
    have g1_0 := at23_0 B1.out.2.1
    have g1_1 := at23_1 B1.out.2.1
    have g1_2 := at23_2 B1.out.2.1
    have g1_3 := at23_3 B1.out.2.1
    go_wp2_with fail
    refine (div_is a0 a1 a2 a3 b0 b1 b2 b3 y0 y1 y2 y3 t1 _ D.out).mono ?_
    rintro e v2 ⟨rfl, bel2⟩
    clear g0_0 g0_1 g0_2 g0_3 g1_0 g1_1 g1_2 g1_3
    have B2 : Hid ((v2.alloc (.cells #[.int .i64 y0, .int .i64 y1, .int .i64 y2, .int .i64 y3] 23 (0, 0))).heap[w.heap.size]? = some (.cells #[.int .i64 a0, .int .i64 a1, .int .i64 a2, .int .i64 a3] 23 (0, 0)) ∧ (v2.alloc (.cells #[.int .i64 y0, .int .i64 y1, .int .i64 y2, .int .i64 y3] 23 (0, 0))).heap[w.heap.size + 1]? = some (.cells #[.int .i64 b0, .int .i64 b1, .int .i64 b2, .int .i64 b3] 23 (0, 0)) ∧ (v2.alloc (.cells #[.int .i64 y0, .int .i64 y1, .int .i64 y2, .int .i64 y3] 23 (0, 0))).heap[v1.heap.size]? = some (.cells #[.int .i64 x0, .int .i64 x1, .int .i64 x2, .int .i64 x3] 23 (0, 0)) ∧ (v2.alloc (.cells #[.int .i64 y0, .int .i64 y1, .int .i64 y2, .int .i64 y3] 23 (0, 0))).heap[v2.heap.size]? = some (.cells #[.int .i64 y0, .int .i64 y1, .int .i64 y2, .int .i64 y3] 23 (0, 0)) ∧ Below w.heap.size w (v2.alloc (.cells #[.int .i64 y0, .int .i64 y1, .int .i64 y2, .int .i64 y3] 23 (0, 0)))) := ⟨(keepAt (keepAt B1.out.1 bel2) ((Below.refl _ _).alloc (Nat.le_refl _) _)), (keepAt (keepAt B1.out.2.1 bel2) ((Below.refl _ _).alloc (Nat.le_refl _) _)), (keepAt (keepAt B1.out.2.2.1 bel2) ((Below.refl _ _).alloc (Nat.le_refl _) _)), (heap_alloc_new v2 (.cells #[.int .i64 y0, .int .i64 y1, .int .i64 y2, .int .i64 y3] 23 (0, 0))), (chain (chain B1.out.2.2.2 bel2) ((Below.refl _ _).alloc (Nat.le_refl _) _))⟩
    clear bel2 B1
    have g0_0 := at23_0 B2.out.1
    have g0_1 := at23_1 B2.out.1
    have g0_2 := at23_2 B2.out.1
    have g0_3 := at23_3 B2.out.1
    have g1_0 := at23_0 B2.out.2.1
    have g1_1 := at23_1 B2.out.2.1
    have g1_2 := at23_2 B2.out.2.1
    have g1_3 := at23_3 B2.out.2.1
    go_wp2_with fail
    refine (may_yes a0 a1 a2 a3 _ HB.out.a).mono ?_
    rintro e v3 ⟨rfl, bel3⟩
    clear g0_0 g0_1 g0_2 g0_3 g1_0 g1_1 g1_2 g1_3
    have B3 : Hid (v3.heap[w.heap.size]? = some (.cells #[.int .i64 a0, .int .i64 a1, .int .i64 a2, .int .i64 a3] 23 (0, 0)) ∧ v3.heap[w.heap.size + 1]? = some (.cells #[.int .i64 b0, .int .i64 b1, .int .i64 b2, .int .i64 b3] 23 (0, 0)) ∧ v3.heap[v1.heap.size]? = some (.cells #[.int .i64 x0, .int .i64 x1, .int .i64 x2, .int .i64 x3] 23 (0, 0)) ∧ v3.heap[v2.heap.size]? = some (.cells #[.int .i64 y0, .int .i64 y1, .int .i64 y2, .int .i64 y3] 23 (0, 0)) ∧ Below w.heap.size w v3) := ⟨(keepAt B2.out.1 bel3), (keepAt B2.out.2.1 bel3), (keepAt B2.out.2.2.1 bel3), (keepAt B2.out.2.2.2.1 bel3), (chain B2.out.2.2.2.2 bel3)⟩
    clear bel3 B2
    have g0_0 := at23_0 B3.out.1
    have g0_1 := at23_1 B3.out.1
    have g0_2 := at23_2 B3.out.1
    have g0_3 := at23_3 B3.out.1
    have g1_0 := at23_0 B3.out.2.1
    have g1_1 := at23_1 B3.out.2.1
    have g1_2 := at23_2 B3.out.2.1
    have g1_3 := at23_3 B3.out.2.1
    go_wp2_with fail
    refine (may_yes b0 b1 b2 b3 _ HB.out.b).mono ?_
    rintro e v4 ⟨rfl, bel4⟩
    clear g0_0 g0_1 g0_2 g0_3 g1_0 g1_1 g1_2 g1_3
    have B4 : Hid (v4.heap[w.heap.size]? = some (.cells #[.int .i64 a0, .int .i64 a1, .int .i64 a2, .int .i64 a3] 23 (0, 0)) ∧ v4.heap[w.heap.size + 1]? = some (.cells #[.int .i64 b0, .int .i64 b1, .int .i64 b2, .int .i64 b3] 23 (0, 0)) ∧ v4.heap[v1.heap.size]? = some (.cells #[.int .i64 x0, .int .i64 x1, .int .i64 x2, .int .i64 x3] 23 (0, 0)) ∧ v4.heap[v2.heap.size]? = some (.cells #[.int .i64 y0, .int .i64 y1, .int .i64 y2, .int .i64 y3] 23 (0, 0)) ∧ Below w.heap.size w v4) := ⟨(keepAt B3.out.1 bel4), (keepAt B3.out.2.1 bel4), (keepAt B3.out.2.2.1 bel4), (keepAt B3.out.2.2.2.1 bel4), (chain B3.out.2.2.2.2 bel4)⟩
    clear bel4 B3
    go_wp2_with fail
    refine (shown_m _).mono ?_
    rintro e v5 ⟨rfl, bel5⟩
    have B5 : Hid (v5.heap[w.heap.size]? = some (.cells #[.int .i64 a0, .int .i64 a1, .int .i64 a2, .int .i64 a3] 23 (0, 0)) ∧ v5.heap[w.heap.size + 1]? = some (.cells #[.int .i64 b0, .int .i64 b1, .int .i64 b2, .int .i64 b3] 23 (0, 0)) ∧ v5.heap[v1.heap.size]? = some (.cells #[.int .i64 x0, .int .i64 x1, .int .i64 x2, .int .i64 x3] 23 (0, 0)) ∧ v5.heap[v2.heap.size]? = some (.cells #[.int .i64 y0, .int .i64 y1, .int .i64 y2, .int .i64 y3] 23 (0, 0)) ∧ Below w.heap.size w v5) := ⟨(keepAt B4.out.1 bel5), (keepAt B4.out.2.1 bel5), (keepAt B4.out.2.2.1 bel5), (keepAt B4.out.2.2.2.1 bel5), (chain B4.out.2.2.2.2 bel5)⟩
    clear bel5 B4
    go_wp2
    go_ret
    exact ⟨(ret_bool (by simp only [Bool.and_eq_true, Bool.not_eq_true', decide_eq_false_iff_not]; omega)), B5.out.2.2.2.2⟩

set_option maxRecDepth 100000 in
set_option maxHeartbeats 8000000 in
theorem walk (o a0 a1 a2 a3 b0 b1 b2 b3 : Int) (w : World) (_ho : -9223372036854775808 ≤ o ∧ o ≤ 9223372036854775807) (_ha0 : -9223372036854775808 ≤ a0 ∧ a0 ≤ 9223372036854775807) (_ha1 : -9223372036854775808 ≤ a1 ∧ a1 ≤ 9223372036854775807) (_ha2 : -9223372036854775808 ≤ a2 ∧ a2 ≤ 9223372036854775807) (_ha3 : -9223372036854775808 ≤ a3 ∧ a3 ≤ 9223372036854775807) (_hb0 : -9223372036854775808 ≤ b0 ∧ b0 ≤ 9223372036854775807) (_hb1 : -9223372036854775808 ≤ b1 ∧ b1 ≤ 9223372036854775807) (_hb2 : -9223372036854775808 ≤ b2 ∧ b2 ≤ 9223372036854775807) (_hb3 : -9223372036854775808 ≤ b3 ∧ b3 ≤ 9223372036854775807) :
    Calls Try.prog 7 #[.int .i64 o, .agg #[.int .i64 a0, .int .i64 a1, .int .i64 a2, .int .i64 a3], .agg #[.int .i64 b0, .int .i64 b1, .int .i64 b2, .int .i64 b3]] w fun e w' => e = .returned (.bool true) ∧ Below w.heap.size w w' := by
  by_cases hb : Both a0 a1 a2 a3 b0 b1 b2 b3
  · by_cases g0 : 40 < a0 + b0
    · exact walk_0 o a0 a1 a2 a3 b0 b1 b2 b3 w hb g0
    · by_cases g1 : 40 < a1 + b1
      · exact walk_1 o a0 a1 a2 a3 b0 b1 b2 b3 w hb g0 g1
      · by_cases g2 : 40 < a2 + b2
        · exact walk_2 o a0 a1 a2 a3 b0 b1 b2 b3 w hb g0 g1 g2
        · by_cases g3 : 40 < a3 + b3
          · exact walk_3 o a0 a1 a2 a3 b0 b1 b2 b3 w hb g0 g1 g2 g3
          · exact walk_4 o a0 a1 a2 a3 b0 b1 b2 b3 w hb g0 g1 g2 g3
  · exact walk_no o a0 a1 a2 a3 b0 b1 b2 b3 w hb

set_option maxRecDepth 100000 in
theorem lifted (os : Os) (started : os.Started) (H : Type) (enc : TypeId × Value → H) :
    ReturnsInHanded {} Try.checked os 7 .any (Rows.monoArgsSpec.pre6 enc Try.prog Try.f7 Rows.monoArgsRow.domain false) (Rows.monoArgsSpec.post enc Try.prog Try.f7 false true false false) := by
  refine returnsInHanded_of_change (C := Try.checked) own started (by kernel_rfl) Try.func7
    (ChangeSpec.witness6 (enc := enc) (C := Try.checked) false ⟨#[], #[.int .i64 0, .agg #[.int .i64 0, .int .i64 0, .int .i64 0, .int .i64 0], .agg #[.int .i64 0, .int .i64 0, .int .i64 0, .int .i64 0]], []⟩ 8 (by kernel_rfl) (by kernel_rfl) (by kernel_rfl) (by kernel_rfl)) ?_
  intro W base args ds gs before hval0 hW hcnd _
  have hval : ∀ (j : Nat) t v, Try.f7.params[j]? = some t → args[j]? = some v → Value.okWide Try.prog W .any base t v := hval0
  have hW' := hW
  obtain ⟨p, q, hA0, hV, rfl, hfz, hnd⟩ := hW
  have hA : DataW.TrodAll enc Try.prog W 0 (fun _ => true) true Try.f7.params.toList args.toList ds p := hA0
  rw [Try.params7] at hA hval
  obtain ⟨v0, vs0, d0, ds0, p0, q0, hargs0, rfl, rfl, h0, r0⟩ := trodAll_cons hA
  obtain ⟨v1, vs1, d1, ds1, p1, q1, hargs1, rfl, rfl, h1, r1⟩ := trodAll_cons r0
  obtain ⟨v2, vs2, d2, ds2, p2, q2, hargs2, rfl, rfl, h2, r2⟩ := trodAll_cons r1
  obtain ⟨rfl, rfl, rfl⟩ := trodAll_nil r2
  obtain rfl : args = #[v0, v1, v2] := by cases args; simp_all
  obtain ⟨rfl, rfl⟩ := trodVars_none hV
  obtain ⟨o, rfl, rfl, rfl, wo⟩ := open_int Try.underlying3 (hval 0 3 v0 rfl rfl) h0
  obtain ⟨a0, a1, a2, a3, rfl, rfl, rfl, wa0, wa1, wa2, wa3⟩ := open_i4 (hval 1 23 v1 rfl rfl) h1
  obtain ⟨b0, b1, b2, b3, rfl, rfl, rfl, wb0, wb1, wb2, wb3⟩ := open_i4 (hval 2 23 v2 rfl rfl) h2
  clear hA0 hval0
  refine (walk o a0 a1 a2 a3 b0 b1 b2 b3 W (bounds_i64 wo) (bounds_i64 wa0) (bounds_i64 wa1) (bounds_i64 wa2) (bounds_i64 wa3) (bounds_i64 wb0) (bounds_i64 wb1) (bounds_i64 wb2) (bounds_i64 wb3)).mono fun e W' ⟨he, hg⟩ => ?_
  subst he
  exact ⟨_, rfl, _, _, _, [], _, [], hW', trodAll_mk1 (shut_bool Try.underlying4 _), (trodAll_cons_mk (shut_int Try.underlying3 wo) (trodAll_cons_mk (shut_i4 wa0 wa1 wa2 wa3) (trodAll_cons_mk (shut_i4 wb0 wb1 wb2 wb3) trodAll_mk0))), rfl, hg.frame _, fun h => by cases h⟩

theorem over : Rows.monoArgsRow.holds Try.pinned (OpenSpec.ofChange Rows.monoArgsSpec) :=
  OpenClaim.holds_of_wide 7 Try.f7 rfl rfl rfl rfl rfl rfl rfl ⟨rfl, rfl, rfl, rfl, rfl⟩ rfl rfl rfl rfl rfl (by kernel_rfl) Try.func7 (by kernel_rfl)
    (of_decide_eq_true (by kernel_rfl)) (by unfold Func.isWrapper; first | (rw [if_pos (by decide +kernel)]; kernel_rfl) | (rw [if_neg (by decide +kernel)]; exact ⟨rfl, rfl⟩))
    (fun os started H enc _ => lifted os started H enc)

theorem proved : Rows.MonoArgsSaid :=
  over
#print axioms proved
end Go.Proofs.Ytjecibpeahjenaa.monoArgs
