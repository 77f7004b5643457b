/-
  Proved here: for every input MonoTells returns true, and leaves its arguments as they were. No condition.
-/
import Derived.Test.YtjecibpeahjenaaMY
namespace Go.Proofs.Ytjecibpeahjenaa.monoTells
open Go.ChangeShapes Go.WideShapes Go.ChangeAt Go.RowKit


set_option maxRecDepth 100000 in
set_option maxHeartbeats 8000000 in
theorem walk (o a0 a1 a2 a3 b0 b1 b2 b3 : Int) (w : World) (_ho : -9223372036854775808 ≤ o ∧ o ≤ 9223372036854775807) (_ha0 : -9223372036854775808 ≤ a0 ∧ a0 ≤ 9223372036854775807) (_ha1 : -9223372036854775808 ≤ a1 ∧ a1 ≤ 9223372036854775807) (_ha2 : -9223372036854775808 ≤ a2 ∧ a2 ≤ 9223372036854775807) (_ha3 : -9223372036854775808 ≤ a3 ∧ a3 ≤ 9223372036854775807) (_hb0 : -9223372036854775808 ≤ b0 ∧ b0 ≤ 9223372036854775807) (_hb1 : -9223372036854775808 ≤ b1 ∧ b1 ≤ 9223372036854775807) (_hb2 : -9223372036854775808 ≤ b2 ∧ b2 ≤ 9223372036854775807) (_hb3 : -9223372036854775808 ≤ b3 ∧ b3 ≤ 9223372036854775807) :
    Calls Try.prog 3 #[.int .i64 o, .agg #[.int .i64 a0, .int .i64 a1, .int .i64 a2, .int .i64 a3], .agg #[.int .i64 b0, .int .i64 b1, .int .i64 b2, .int .i64 b3]] w fun e w' => e = .returned (.bool true) ∧ Below w.heap.size w w' := by
  obtain ⟨x0, x1, x2, x3, k1, hmul⟩ := MulIs.ex a0 a1 a2 a3 b0 b1 b2 b3
  obtain ⟨y0, y1, y2, y3, t1, hdiv⟩ := DivIs.ex a0 a1 a2 a3 b0 b1 b2 b3
  obtain ⟨l0, l1, l2, l3, hlcm⟩ := LcmIs.ex a0 a1 a2 a3 b0 b1 b2 b3
  obtain ⟨t2, hcop⟩ := CopIs.ex a0 a1 a2 a3 b0 b1 b2 b3
  obtain ⟨t3, n3, hdeg⟩ := DegIs.ex a0 a1 a2 a3
  obtain ⟨k4, hcmp⟩ := CmpIs.ex o a0 a1 a2 a3 b0 b1 b2 b3
  have M : Hid (MulIs a0 a1 a2 a3 b0 b1 b2 b3 x0 x1 x2 x3 k1) := hmul
  have D : Hid (DivIs a0 a1 a2 a3 b0 b1 b2 b3 y0 y1 y2 y3 t1) := hdiv
  have L : Hid (LcmIs a0 a1 a2 a3 b0 b1 b2 b3 l0 l1 l2 l3) := hlcm
  have C : Hid (CopIs a0 a1 a2 a3 b0 b1 b2 b3 t2) := hcop
  have G : Hid (DegIs a0 a1 a2 a3 t3 n3) := hdeg
  have R : Hid (CmpIs o a0 a1 a2 a3 b0 b1 b2 b3 k4) := hcmp
  have e1 := eq_val x0 x1 x2 x3 x0 x1 x2 x3 true (eqB_self _ _ _ _)
  have e2 := eq_val y0 y1 y2 y3 y0 y1 y2 y3 true (eqB_self _ _ _ _)
  have e3 := eq_val l0 l1 l2 l3 l0 l1 l2 l3 true (eqB_self _ _ _ _)
  clear hmul hdiv hlcm hcop hdeg hcmp
  have B0 : Hid (((w.alloc (.cells #[.int .i64 a0, .int .i64 a1, .int .i64 a2, .int .i64 a3] 23 (0, 0))).alloc (.cells #[.int .i64 b0, .int .i64 b1, .int .i64 b2, .int .i64 b3] 23 (0, 0))).heap[w.heap.size]? = some (.cells #[.int .i64 a0, .int .i64 a1, .int .i64 a2, .int .i64 a3] 23 (0, 0)) ∧ ((w.alloc (.cells #[.int .i64 a0, .int .i64 a1, .int .i64 a2, .int .i64 a3] 23 (0, 0))).alloc (.cells #[.int .i64 b0, .int .i64 b1, .int .i64 b2, .int .i64 b3] 23 (0, 0))).heap[w.heap.size + 1]? = some (.cells #[.int .i64 b0, .int .i64 b1, .int .i64 b2, .int .i64 b3] 23 (0, 0)) ∧ Below w.heap.size w ((w.alloc (.cells #[.int .i64 a0, .int .i64 a1, .int .i64 a2, .int .i64 a3] 23 (0, 0))).alloc (.cells #[.int .i64 b0, .int .i64 b1, .int .i64 b2, .int .i64 b3] 23 (0, 0)))) := ⟨(keepAt (show (w.alloc (.cells #[.int .i64 a0, .int .i64 a1, .int .i64 a2, .int .i64 a3] 23 (0, 0))).heap[w.heap.size]? = some (.cells #[.int .i64 a0, .int .i64 a1, .int .i64 a2, .int .i64 a3] 23 (0, 0)) by have h := heap_alloc_new w (.cells #[.int .i64 a0, .int .i64 a1, .int .i64 a2, .int .i64 a3] 23 (0, 0)); simpa using h) ((Below.refl _ _).alloc (Nat.le_refl _) _)), (show ((w.alloc (.cells #[.int .i64 a0, .int .i64 a1, .int .i64 a2, .int .i64 a3] 23 (0, 0))).alloc (.cells #[.int .i64 b0, .int .i64 b1, .int .i64 b2, .int .i64 b3] 23 (0, 0))).heap[w.heap.size + 1]? = some (.cells #[.int .i64 b0, .int .i64 b1, .int .i64 b2, .int .i64 b3] 23 (0, 0)) by have h := heap_alloc_new (w.alloc (.cells #[.int .i64 a0, .int .i64 a1, .int .i64 a2, .int .i64 a3] 23 (0, 0))) (.cells #[.int .i64 b0, .int .i64 b1, .int .i64 b2, .int .i64 b3] 23 (0, 0)); simpa using h), (Below.alloc (Below.alloc (Below.refl _ _) (by go_size) _) (by go_size) _)⟩
  go_enter Try.func3, Try.ntmps3
  have g0_0 := at23_0 B0.out.1
  have g0_1 := at23_1 B0.out.1
  have g0_2 := at23_2 B0.out.1
  have g0_3 := at23_3 B0.out.1
  have g1_0 := at23_0 B0.out.2.1
  have g1_1 := at23_1 B0.out.2.1
  have g1_2 := at23_2 B0.out.2.1
  have g1_3 := at23_3 B0.out.2.1
  go_wp2_with fail
  refine (mul_is a0 a1 a2 a3 b0 b1 b2 b3 x0 x1 x2 x3 k1 _ M.out).mono ?_
  rintro e v1 ⟨rfl, bel1⟩
  clear g0_0 g0_1 g0_2 g0_3 g1_0 g1_1 g1_2 g1_3
  have B1 : Hid ((v1.alloc (.cells #[.int .i64 x0, .int .i64 x1, .int .i64 x2, .int .i64 x3] 23 (0, 0))).heap[w.heap.size]? = some (.cells #[.int .i64 a0, .int .i64 a1, .int .i64 a2, .int .i64 a3] 23 (0, 0)) ∧ (v1.alloc (.cells #[.int .i64 x0, .int .i64 x1, .int .i64 x2, .int .i64 x3] 23 (0, 0))).heap[w.heap.size + 1]? = some (.cells #[.int .i64 b0, .int .i64 b1, .int .i64 b2, .int .i64 b3] 23 (0, 0)) ∧ (v1.alloc (.cells #[.int .i64 x0, .int .i64 x1, .int .i64 x2, .int .i64 x3] 23 (0, 0))).heap[v1.heap.size]? = some (.cells #[.int .i64 x0, .int .i64 x1, .int .i64 x2, .int .i64 x3] 23 (0, 0)) ∧ Below w.heap.size w (v1.alloc (.cells #[.int .i64 x0, .int .i64 x1, .int .i64 x2, .int .i64 x3] 23 (0, 0)))) := ⟨(keepAt (keepAt B0.out.1 bel1) ((Below.refl _ _).alloc (Nat.le_refl _) _)), (keepAt (keepAt B0.out.2.1 bel1) ((Below.refl _ _).alloc (Nat.le_refl _) _)), (heap_alloc_new v1 (.cells #[.int .i64 x0, .int .i64 x1, .int .i64 x2, .int .i64 x3] 23 (0, 0))), (chain (chain B0.out.2.2 bel1) ((Below.refl _ _).alloc (Nat.le_refl _) _))⟩
  clear bel1 B0
  have g0_0 := at23_0 B1.out.1
  have g0_1 := at23_1 B1.out.1
  have g0_2 := at23_2 B1.out.1
  have g0_3 := at23_3 B1.out.1
  have g1_0 := at23_0 B1.out.2.1
  have g1_1 := at23_1 B1.out.2.1
  have g1_2 := at23_2 B1.out.2.1
  have g1_3 := at23_3 B1.out.2.1
  go_wp2_with fail
  refine (rmul_is a0 a1 a2 a3 b0 b1 b2 b3 x0 x1 x2 x3 k1 _ M.out).mono ?_
  rintro e v2 ⟨rfl, bel2⟩
  clear g0_0 g0_1 g0_2 g0_3 g1_0 g1_1 g1_2 g1_3
  have B2 : Hid ((v2.alloc (.cells #[.int .i64 x0, .int .i64 x1, .int .i64 x2, .int .i64 x3] 23 (0, 0))).heap[w.heap.size]? = some (.cells #[.int .i64 a0, .int .i64 a1, .int .i64 a2, .int .i64 a3] 23 (0, 0)) ∧ (v2.alloc (.cells #[.int .i64 x0, .int .i64 x1, .int .i64 x2, .int .i64 x3] 23 (0, 0))).heap[w.heap.size + 1]? = some (.cells #[.int .i64 b0, .int .i64 b1, .int .i64 b2, .int .i64 b3] 23 (0, 0)) ∧ (v2.alloc (.cells #[.int .i64 x0, .int .i64 x1, .int .i64 x2, .int .i64 x3] 23 (0, 0))).heap[v1.heap.size]? = some (.cells #[.int .i64 x0, .int .i64 x1, .int .i64 x2, .int .i64 x3] 23 (0, 0)) ∧ (v2.alloc (.cells #[.int .i64 x0, .int .i64 x1, .int .i64 x2, .int .i64 x3] 23 (0, 0))).heap[v2.heap.size]? = some (.cells #[.int .i64 x0, .int .i64 x1, .int .i64 x2, .int .i64 x3] 23 (0, 0)) ∧ Below w.heap.size w (v2.alloc (.cells #[.int .i64 x0, .int .i64 x1, .int .i64 x2, .int .i64 x3] 23 (0, 0)))) := ⟨(keepAt (keepAt B1.out.1 bel2) ((Below.refl _ _).alloc (Nat.le_refl _) _)), (keepAt (keepAt B1.out.2.1 bel2) ((Below.refl _ _).alloc (Nat.le_refl _) _)), (keepAt (keepAt B1.out.2.2.1 bel2) ((Below.refl _ _).alloc (Nat.le_refl _) _)), (heap_alloc_new v2 (.cells #[.int .i64 x0, .int .i64 x1, .int .i64 x2, .int .i64 x3] 23 (0, 0))), (chain (chain B1.out.2.2.2 bel2) ((Below.refl _ _).alloc (Nat.le_refl _) _))⟩
  clear bel2 B1
  have g0_0 := at23_0 B2.out.1
  have g0_1 := at23_1 B2.out.1
  have g0_2 := at23_2 B2.out.1
  have g0_3 := at23_3 B2.out.1
  have g1_0 := at23_0 B2.out.2.1
  have g1_1 := at23_1 B2.out.2.1
  have g1_2 := at23_2 B2.out.2.1
  have g1_3 := at23_3 B2.out.2.1
  go_wp2_with fail
  refine (div_is a0 a1 a2 a3 b0 b1 b2 b3 y0 y1 y2 y3 t1 _ D.out).mono ?_
  rintro e v3 ⟨rfl, bel3⟩
  clear g0_0 g0_1 g0_2 g0_3 g1_0 g1_1 g1_2 g1_3
  have B3 : Hid ((v3.alloc (.cells #[.int .i64 y0, .int .i64 y1, .int .i64 y2, .int .i64 y3] 23 (0, 0))).heap[w.heap.size]? = some (.cells #[.int .i64 a0, .int .i64 a1, .int .i64 a2, .int .i64 a3] 23 (0, 0)) ∧ (v3.alloc (.cells #[.int .i64 y0, .int .i64 y1, .int .i64 y2, .int .i64 y3] 23 (0, 0))).heap[w.heap.size + 1]? = some (.cells #[.int .i64 b0, .int .i64 b1, .int .i64 b2, .int .i64 b3] 23 (0, 0)) ∧ (v3.alloc (.cells #[.int .i64 y0, .int .i64 y1, .int .i64 y2, .int .i64 y3] 23 (0, 0))).heap[v1.heap.size]? = some (.cells #[.int .i64 x0, .int .i64 x1, .int .i64 x2, .int .i64 x3] 23 (0, 0)) ∧ (v3.alloc (.cells #[.int .i64 y0, .int .i64 y1, .int .i64 y2, .int .i64 y3] 23 (0, 0))).heap[v2.heap.size]? = some (.cells #[.int .i64 x0, .int .i64 x1, .int .i64 x2, .int .i64 x3] 23 (0, 0)) ∧ (v3.alloc (.cells #[.int .i64 y0, .int .i64 y1, .int .i64 y2, .int .i64 y3] 23 (0, 0))).heap[v3.heap.size]? = some (.cells #[.int .i64 y0, .int .i64 y1, .int .i64 y2, .int .i64 y3] 23 (0, 0)) ∧ Below w.heap.size w (v3.alloc (.cells #[.int .i64 y0, .int .i64 y1, .int .i64 y2, .int .i64 y3] 23 (0, 0)))) := ⟨(keepAt (keepAt B2.out.1 bel3) ((Below.refl _ _).alloc (Nat.le_refl _) _)), (keepAt (keepAt B2.out.2.1 bel3) ((Below.refl _ _).alloc (Nat.le_refl _) _)), (keepAt (keepAt B2.out.2.2.1 bel3) ((Below.refl _ _).alloc (Nat.le_refl _) _)), (keepAt (keepAt B2.out.2.2.2.1 bel3) ((Below.refl _ _).alloc (Nat.le_refl _) _)), (heap_alloc_new v3 (.cells #[.int .i64 y0, .int .i64 y1, .int .i64 y2, .int .i64 y3] 23 (0, 0))), (chain (chain B2.out.2.2.2.2 bel3) ((Below.refl _ _).alloc (Nat.le_refl _) _))⟩
  clear bel3 B2
  have g0_0 := at23_0 B3.out.1
  have g0_1 := at23_1 B3.out.1
  have g0_2 := at23_2 B3.out.1
  have g0_3 := at23_3 B3.out.1
  have g1_0 := at23_0 B3.out.2.1
  have g1_1 := at23_1 B3.out.2.1
  have g1_2 := at23_2 B3.out.2.1
  have g1_3 := at23_3 B3.out.2.1
  go_wp2_with fail
  refine (rdiv_is a0 a1 a2 a3 b0 b1 b2 b3 y0 y1 y2 y3 t1 _ D.out).mono ?_
  rintro e v4 ⟨rfl, bel4⟩
  clear g0_0 g0_1 g0_2 g0_3 g1_0 g1_1 g1_2 g1_3
  have B4 : Hid ((v4.alloc (.cells #[.int .i64 y0, .int .i64 y1, .int .i64 y2, .int .i64 y3] 23 (0, 0))).heap[w.heap.size]? = some (.cells #[.int .i64 a0, .int .i64 a1, .int .i64 a2, .int .i64 a3] 23 (0, 0)) ∧ (v4.alloc (.cells #[.int .i64 y0, .int .i64 y1, .int .i64 y2, .int .i64 y3] 23 (0, 0))).heap[w.heap.size + 1]? = some (.cells #[.int .i64 b0, .int .i64 b1, .int .i64 b2, .int .i64 b3] 23 (0, 0)) ∧ (v4.alloc (.cells #[.int .i64 y0, .int .i64 y1, .int .i64 y2, .int .i64 y3] 23 (0, 0))).heap[v1.heap.size]? = some (.cells #[.int .i64 x0, .int .i64 x1, .int .i64 x2, .int .i64 x3] 23 (0, 0)) ∧ (v4.alloc (.cells #[.int .i64 y0, .int .i64 y1, .int .i64 y2, .int .i64 y3] 23 (0, 0))).heap[v2.heap.size]? = some (.cells #[.int .i64 x0, .int .i64 x1, .int .i64 x2, .int .i64 x3] 23 (0, 0)) ∧ (v4.alloc (.cells #[.int .i64 y0, .int .i64 y1, .int .i64 y2, .int .i64 y3] 23 (0, 0))).heap[v3.heap.size]? = some (.cells #[.int .i64 y0, .int .i64 y1, .int .i64 y2, .int .i64 y3] 23 (0, 0)) ∧ (v4.alloc (.cells #[.int .i64 y0, .int .i64 y1, .int .i64 y2, .int .i64 y3] 23 (0, 0))).heap[v4.heap.size]? = some (.cells #[.int .i64 y0, .int .i64 y1, .int .i64 y2, .int .i64 y3] 23 (0, 0)) ∧ Below w.heap.size w (v4.alloc (.cells #[.int .i64 y0, .int .i64 y1, .int .i64 y2, .int .i64 y3] 23 (0, 0)))) := ⟨(keepAt (keepAt B3.out.1 bel4) ((Below.refl _ _).alloc (Nat.le_refl _) _)), (keepAt (keepAt B3.out.2.1 bel4) ((Below.refl _ _).alloc (Nat.le_refl _) _)), (keepAt (keepAt B3.out.2.2.1 bel4) ((Below.refl _ _).alloc (Nat.le_refl _) _)), (keepAt (keepAt B3.out.2.2.2.1 bel4) ((Below.refl _ _).alloc (Nat.le_refl _) _)), (keepAt (keepAt B3.out.2.2.2.2.1 bel4) ((Below.refl _ _).alloc (Nat.le_refl _) _)), (heap_alloc_new v4 (.cells #[.int .i64 y0, .int .i64 y1, .int .i64 y2, .int .i64 y3] 23 (0, 0))), (chain (chain B3.out.2.2.2.2.2 bel4) ((Below.refl _ _).alloc (Nat.le_refl _) _))⟩
  clear bel4 B3
  go_wp2_with fail
  have r0_0 : ∀ n : Wd ((v4.alloc (.cells #[.int .i64 y0, .int .i64 y1, .int .i64 y2, .int .i64 y3] 23 (0, 0)))), n.w.cell? ⟨w.heap.size, 0, none⟩ = some (.int .i64 a0) := fun n => at23_0 (n.at B4.out.1)
  have r0_1 : ∀ n : Wd ((v4.alloc (.cells #[.int .i64 y0, .int .i64 y1, .int .i64 y2, .int .i64 y3] 23 (0, 0)))), n.w.cell? ⟨w.heap.size, 1, none⟩ = some (.int .i64 a1) := fun n => at23_1 (n.at B4.out.1)
  have r0_2 : ∀ n : Wd ((v4.alloc (.cells #[.int .i64 y0, .int .i64 y1, .int .i64 y2, .int .i64 y3] 23 (0, 0)))), n.w.cell? ⟨w.heap.size, 2, none⟩ = some (.int .i64 a2) := fun n => at23_2 (n.at B4.out.1)
  have r0_3 : ∀ n : Wd ((v4.alloc (.cells #[.int .i64 y0, .int .i64 y1, .int .i64 y2, .int .i64 y3] 23 (0, 0)))), n.w.cell? ⟨w.heap.size, 3, none⟩ = some (.int .i64 a3) := fun n => at23_3 (n.at B4.out.1)
  have r1_0 : ∀ n : Wd ((v4.alloc (.cells #[.int .i64 y0, .int .i64 y1, .int .i64 y2, .int .i64 y3] 23 (0, 0)))), n.w.cell? ⟨w.heap.size + 1, 0, none⟩ = some (.int .i64 b0) := fun n => at23_0 (n.at B4.out.2.1)
  have r1_1 : ∀ n : Wd ((v4.alloc (.cells #[.int .i64 y0, .int .i64 y1, .int .i64 y2, .int .i64 y3] 23 (0, 0)))), n.w.cell? ⟨w.heap.size + 1, 1, none⟩ = some (.int .i64 b1) := fun n => at23_1 (n.at B4.out.2.1)
  have r1_2 : ∀ n : Wd ((v4.alloc (.cells #[.int .i64 y0, .int .i64 y1, .int .i64 y2, .int .i64 y3] 23 (0, 0)))), n.w.cell? ⟨w.heap.size + 1, 2, none⟩ = some (.int .i64 b2) := fun n => at23_2 (n.at B4.out.2.1)
  have r1_3 : ∀ n : Wd ((v4.alloc (.cells #[.int .i64 y0, .int .i64 y1, .int .i64 y2, .int .i64 y3] 23 (0, 0)))), n.w.cell? ⟨w.heap.size + 1, 3, none⟩ = some (.int .i64 b3) := fun n => at23_3 (n.at B4.out.2.1)
  have r2_0 : ∀ n : Wd ((v4.alloc (.cells #[.int .i64 y0, .int .i64 y1, .int .i64 y2, .int .i64 y3] 23 (0, 0)))), n.w.cell? ⟨v1.heap.size, 0, none⟩ = some (.int .i64 x0) := fun n => at23_0 (n.at B4.out.2.2.1)
  have r2_1 : ∀ n : Wd ((v4.alloc (.cells #[.int .i64 y0, .int .i64 y1, .int .i64 y2, .int .i64 y3] 23 (0, 0)))), n.w.cell? ⟨v1.heap.size, 1, none⟩ = some (.int .i64 x1) := fun n => at23_1 (n.at B4.out.2.2.1)
  have r2_2 : ∀ n : Wd ((v4.alloc (.cells #[.int .i64 y0, .int .i64 y1, .int .i64 y2, .int .i64 y3] 23 (0, 0)))), n.w.cell? ⟨v1.heap.size, 2, none⟩ = some (.int .i64 x2) := fun n => at23_2 (n.at B4.out.2.2.1)
  have r2_3 : ∀ n : Wd ((v4.alloc (.cells #[.int .i64 y0, .int .i64 y1, .int .i64 y2, .int .i64 y3] 23 (0, 0)))), n.w.cell? ⟨v1.heap.size, 3, none⟩ = some (.int .i64 x3) := fun n => at23_3 (n.at B4.out.2.2.1)
  have r3_0 : ∀ n : Wd ((v4.alloc (.cells #[.int .i64 y0, .int .i64 y1, .int .i64 y2, .int .i64 y3] 23 (0, 0)))), n.w.cell? ⟨v2.heap.size, 0, none⟩ = some (.int .i64 x0) := fun n => at23_0 (n.at B4.out.2.2.2.1)
  have r3_1 : ∀ n : Wd ((v4.alloc (.cells #[.int .i64 y0, .int .i64 y1, .int .i64 y2, .int .i64 y3] 23 (0, 0)))), n.w.cell? ⟨v2.heap.size, 1, none⟩ = some (.int .i64 x1) := fun n => at23_1 (n.at B4.out.2.2.2.1)
  have r3_2 : ∀ n : Wd ((v4.alloc (.cells #[.int .i64 y0, .int .i64 y1, .int .i64 y2, .int .i64 y3] 23 (0, 0)))), n.w.cell? ⟨v2.heap.size, 2, none⟩ = some (.int .i64 x2) := fun n => at23_2 (n.at B4.out.2.2.2.1)
  have r3_3 : ∀ n : Wd ((v4.alloc (.cells #[.int .i64 y0, .int .i64 y1, .int .i64 y2, .int .i64 y3] 23 (0, 0)))), n.w.cell? ⟨v2.heap.size, 3, none⟩ = some (.int .i64 x3) := fun n => at23_3 (n.at B4.out.2.2.2.1)
  have r4_0 : ∀ n : Wd ((v4.alloc (.cells #[.int .i64 y0, .int .i64 y1, .int .i64 y2, .int .i64 y3] 23 (0, 0)))), n.w.cell? ⟨v3.heap.size, 0, none⟩ = some (.int .i64 y0) := fun n => at23_0 (n.at B4.out.2.2.2.2.1)
  have r4_1 : ∀ n : Wd ((v4.alloc (.cells #[.int .i64 y0, .int .i64 y1, .int .i64 y2, .int .i64 y3] 23 (0, 0)))), n.w.cell? ⟨v3.heap.size, 1, none⟩ = some (.int .i64 y1) := fun n => at23_1 (n.at B4.out.2.2.2.2.1)
  have r4_2 : ∀ n : Wd ((v4.alloc (.cells #[.int .i64 y0, .int .i64 y1, .int .i64 y2, .int .i64 y3] 23 (0, 0)))), n.w.cell? ⟨v3.heap.size, 2, none⟩ = some (.int .i64 y2) := fun n => at23_2 (n.at B4.out.2.2.2.2.1)
  have r4_3 : ∀ n : Wd ((v4.alloc (.cells #[.int .i64 y0, .int .i64 y1, .int .i64 y2, .int .i64 y3] 23 (0, 0)))), n.w.cell? ⟨v3.heap.size, 3, none⟩ = some (.int .i64 y3) := fun n => at23_3 (n.at B4.out.2.2.2.2.1)
  have r5_0 : ∀ n : Wd ((v4.alloc (.cells #[.int .i64 y0, .int .i64 y1, .int .i64 y2, .int .i64 y3] 23 (0, 0)))), n.w.cell? ⟨v4.heap.size, 0, none⟩ = some (.int .i64 y0) := fun n => at23_0 (n.at B4.out.2.2.2.2.2.1)
  have r5_1 : ∀ n : Wd ((v4.alloc (.cells #[.int .i64 y0, .int .i64 y1, .int .i64 y2, .int .i64 y3] 23 (0, 0)))), n.w.cell? ⟨v4.heap.size, 1, none⟩ = some (.int .i64 y1) := fun n => at23_1 (n.at B4.out.2.2.2.2.2.1)
  have r5_2 : ∀ n : Wd ((v4.alloc (.cells #[.int .i64 y0, .int .i64 y1, .int .i64 y2, .int .i64 y3] 23 (0, 0)))), n.w.cell? ⟨v4.heap.size, 2, none⟩ = some (.int .i64 y2) := fun n => at23_2 (n.at B4.out.2.2.2.2.2.1)
  have r5_3 : ∀ n : Wd ((v4.alloc (.cells #[.int .i64 y0, .int .i64 y1, .int .i64 y2, .int .i64 y3] 23 (0, 0)))), n.w.cell? ⟨v4.heap.size, 3, none⟩ = some (.int .i64 y3) := fun n => at23_3 (n.at B4.out.2.2.2.2.2.1)
  have wne : Nonempty (Wd ((v4.alloc (.cells #[.int .i64 y0, .int .i64 y1, .int .i64 y2, .int .i64 y3] 23 (0, 0))))) := ⟨⟨_, Below.refl _ _⟩⟩
  refine region_wd (by kernel_rfl) (by kernel_rfl) ?_
  simp only [List.append]
  repeat (go_big_quiet_step ((first
    | (go_at_call 13; (with_reducible change Calls Try.prog 13 #[.agg #[.int .i64 a0, .int .i64 a1, .int .i64 a2, .int .i64 a3]] _ _); exact wd_of (may_is a0 a1 a2 a3 t3 n3 _ G.out))
    | (go_at_call 14; (with_reducible change Calls Try.prog 14 #[.agg #[.int .i64 a0, .int .i64 a1, .int .i64 a2, .int .i64 a3]] _ _); exact wd_of (rmay_is a0 a1 a2 a3 t3 n3 _ G.out))
    | (go_at_call 15; (with_reducible change Calls Try.prog 15 #[.agg #[.int .i64 a0, .int .i64 a1, .int .i64 a2, .int .i64 a3]] _ _); exact wd_of (deg_is a0 a1 a2 a3 t3 n3 _ G.out))
    | (go_at_call 16; (with_reducible change Calls Try.prog 16 #[.agg #[.int .i64 a0, .int .i64 a1, .int .i64 a2, .int .i64 a3]] _ _); exact wd_of (rdeg_is a0 a1 a2 a3 t3 n3 _ G.out))
    | (go_at_call 17; (with_reducible change Calls Try.prog 17 #[.agg #[.int .i64 a0, .int .i64 a1, .int .i64 a2, .int .i64 a3], .agg #[.int .i64 b0, .int .i64 b1, .int .i64 b2, .int .i64 b3]] _ _); exact wd_of (lcm_is a0 a1 a2 a3 b0 b1 b2 b3 l0 l1 l2 l3 _ L.out))
    | (go_at_call 18; (with_reducible change Calls Try.prog 18 #[.agg #[.int .i64 a0, .int .i64 a1, .int .i64 a2, .int .i64 a3], .agg #[.int .i64 b0, .int .i64 b1, .int .i64 b2, .int .i64 b3]] _ _); exact wd_of (rlcm_is a0 a1 a2 a3 b0 b1 b2 b3 l0 l1 l2 l3 _ L.out))
    | (go_at_call 19; (with_reducible change Calls Try.prog 19 #[.agg #[.int .i64 a0, .int .i64 a1, .int .i64 a2, .int .i64 a3], .agg #[.int .i64 b0, .int .i64 b1, .int .i64 b2, .int .i64 b3]] _ _); exact wd_of (cop_is a0 a1 a2 a3 b0 b1 b2 b3 t2 _ C.out))
    | (go_at_call 20; (with_reducible change Calls Try.prog 20 #[.agg #[.int .i64 a0, .int .i64 a1, .int .i64 a2, .int .i64 a3], .agg #[.int .i64 b0, .int .i64 b1, .int .i64 b2, .int .i64 b3]] _ _); exact wd_of (rcop_is a0 a1 a2 a3 b0 b1 b2 b3 t2 _ C.out))
    | (go_at_call 21; (with_reducible change Calls Try.prog 21 #[.int .i64 o, .agg #[.int .i64 a0, .int .i64 a1, .int .i64 a2, .int .i64 a3], .agg #[.int .i64 b0, .int .i64 b1, .int .i64 b2, .int .i64 b3]] _ _); exact wd_of (cmp_val o a0 a1 a2 a3 b0 b1 b2 b3 k4 _ R.out))
    | (go_at_call 22; (with_reducible change Calls Try.prog 22 #[.int .i64 o, .agg #[.int .i64 a0, .int .i64 a1, .int .i64 a2, .int .i64 a3], .agg #[.int .i64 b0, .int .i64 b1, .int .i64 b2, .int .i64 b3]] _ _); exact wd_of (rcmp_val o a0 a1 a2 a3 b0 b1 b2 b3 k4 _ R.out))
    | (go_at_call 23; exact wd_of (shown_m _)))))
  refine wpQuiet_nil ?_
  intro _ hw
  obtain ⟨nq, hq⟩ := hw
  subst hq
  have HZ : Hid (Below w.heap.size w nq.w) := chain B4.out.2.2.2.2.2.2 nq.h
  clear wne r0_0 r0_1 r0_2 r0_3 r1_0 r1_1 r1_2 r1_3 r2_0 r2_1 r2_2 r2_3 r3_0 r3_1 r3_2 r3_3 r4_0 r4_1 r4_2 r4_3 r5_0 r5_1 r5_2 r5_3
  go_wp2
  go_ret
  exact ⟨rfl, HZ.out⟩

set_option maxRecDepth 100000 in
theorem lifted (os : Os) (started : os.Started) (H : Type) (enc : TypeId × Value → H) :
    ReturnsInHanded {} Try.checked os 3 .any (Rows.monoTellsSpec.pre6 enc Try.prog Try.f3 Rows.monoTellsRow.domain false) (Rows.monoTellsSpec.post enc Try.prog Try.f3 false true false false) := by
  refine returnsInHanded_of_change (C := Try.checked) own started (by kernel_rfl) Try.func3
    (ChangeSpec.witness6 (enc := enc) (C := Try.checked) false ⟨#[], #[.int .i64 0, .agg #[.int .i64 0, .int .i64 0, .int .i64 0, .int .i64 0], .agg #[.int .i64 0, .int .i64 0, .int .i64 0, .int .i64 0]], []⟩ 8 (by kernel_rfl) (by kernel_rfl) (by kernel_rfl) (by kernel_rfl)) ?_
  intro W base args ds gs before hval0 hW hcnd _
  have hval : ∀ (j : Nat) t v, Try.f3.params[j]? = some t → args[j]? = some v → Value.okWide Try.prog W .any base t v := hval0
  have hW' := hW
  obtain ⟨p, q, hA0, hV, rfl, hfz, hnd⟩ := hW
  have hA : DataW.TrodAll enc Try.prog W 0 (fun _ => true) true Try.f3.params.toList args.toList ds p := hA0
  rw [Try.params3] at hA hval
  obtain ⟨v0, vs0, d0, ds0, p0, q0, hargs0, rfl, rfl, h0, r0⟩ := trodAll_cons hA
  obtain ⟨v1, vs1, d1, ds1, p1, q1, hargs1, rfl, rfl, h1, r1⟩ := trodAll_cons r0
  obtain ⟨v2, vs2, d2, ds2, p2, q2, hargs2, rfl, rfl, h2, r2⟩ := trodAll_cons r1
  obtain ⟨rfl, rfl, rfl⟩ := trodAll_nil r2
  obtain rfl : args = #[v0, v1, v2] := by cases args; simp_all
  obtain ⟨rfl, rfl⟩ := trodVars_none hV
  obtain ⟨o, rfl, rfl, rfl, wo⟩ := open_int Try.underlying3 (hval 0 3 v0 rfl rfl) h0
  obtain ⟨a0, a1, a2, a3, rfl, rfl, rfl, wa0, wa1, wa2, wa3⟩ := open_i4 (hval 1 23 v1 rfl rfl) h1
  obtain ⟨b0, b1, b2, b3, rfl, rfl, rfl, wb0, wb1, wb2, wb3⟩ := open_i4 (hval 2 23 v2 rfl rfl) h2
  clear hA0 hval0
  refine (walk o a0 a1 a2 a3 b0 b1 b2 b3 W (bounds_i64 wo) (bounds_i64 wa0) (bounds_i64 wa1) (bounds_i64 wa2) (bounds_i64 wa3) (bounds_i64 wb0) (bounds_i64 wb1) (bounds_i64 wb2) (bounds_i64 wb3)).mono fun e W' ⟨he, hg⟩ => ?_
  subst he
  exact ⟨_, rfl, _, _, _, [], _, [], hW', trodAll_mk1 (shut_bool Try.underlying4 _), (trodAll_cons_mk (shut_int Try.underlying3 wo) (trodAll_cons_mk (shut_i4 wa0 wa1 wa2 wa3) (trodAll_cons_mk (shut_i4 wb0 wb1 wb2 wb3) trodAll_mk0))), rfl, hg.frame _, fun h => by cases h⟩

theorem over : Rows.monoTellsRow.holds Try.pinned (OpenSpec.ofChange Rows.monoTellsSpec) :=
  OpenClaim.holds_of_wide 3 Try.f3 rfl rfl rfl rfl rfl rfl rfl ⟨rfl, rfl, rfl, rfl, rfl⟩ rfl rfl rfl rfl rfl (by kernel_rfl) Try.func3 (by kernel_rfl)
    (of_decide_eq_true (by kernel_rfl)) (by unfold Func.isWrapper; first | (rw [if_pos (by decide +kernel)]; kernel_rfl) | (rw [if_neg (by decide +kernel)]; exact ⟨rfl, rfl⟩))
    (fun os started H enc _ => lifted os started H enc)

theorem proved : Rows.MonoTellsSaid :=
  over
#print axioms proved
end Go.Proofs.Ytjecibpeahjenaa.monoTells
