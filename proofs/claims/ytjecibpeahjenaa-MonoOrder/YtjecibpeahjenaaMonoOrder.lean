/-
  Proved here: for every input MonoOrder returns true, and leaves its arguments as they were. No condition.
-/
import Derived.Test.YtjecibpeahjenaaMK
namespace Go.Proofs.Ytjecibpeahjenaa.monoOrder
open Go.ChangeShapes Go.WideShapes Go.ChangeAt Go.RowKit


set_option maxRecDepth 100000 in
set_option maxHeartbeats 8000000 in
theorem walk (ord a0 a1 a2 a3 b0 b1 b2 b3 c0 c1 c2 c3 : Int) (w : World) (hord : 0 ≤ ord ∧ ord ≤ 255) (ha0 : 0 ≤ a0 ∧ a0 ≤ 255) (ha1 : 0 ≤ a1 ∧ a1 ≤ 255) (ha2 : 0 ≤ a2 ∧ a2 ≤ 255) (ha3 : 0 ≤ a3 ∧ a3 ≤ 255) (hb0 : 0 ≤ b0 ∧ b0 ≤ 255) (hb1 : 0 ≤ b1 ∧ b1 ≤ 255) (hb2 : 0 ≤ b2 ∧ b2 ≤ 255) (hb3 : 0 ≤ b3 ∧ b3 ≤ 255) (hc0 : 0 ≤ c0 ∧ c0 ≤ 255) (hc1 : 0 ≤ c1 ∧ c1 ≤ 255) (hc2 : 0 ≤ c2 ∧ c2 ≤ 255) (hc3 : 0 ≤ c3 ∧ c3 ≤ 255) :
    Calls Try.prog 4 #[.int .u8 ord, .agg #[.int .u8 a0, .int .u8 a1, .int .u8 a2, .int .u8 a3], .agg #[.int .u8 b0, .int .u8 b1, .int .u8 b2, .int .u8 b3], .agg #[.int .u8 c0, .int .u8 c1, .int .u8 c2, .int .u8 c3]] w fun e w' => e = .returned (.bool true) ∧ Below w.heap.size w w' := by
  obtain ⟨x0, ex0⟩ : ∃ x0, x0 = a0 % 21 := ⟨_, rfl⟩
  obtain ⟨x1, ex1⟩ : ∃ x1, x1 = a1 % 21 := ⟨_, rfl⟩
  obtain ⟨x2, ex2⟩ : ∃ x2, x2 = a2 % 21 := ⟨_, rfl⟩
  obtain ⟨x3, ex3⟩ : ∃ x3, x3 = a3 % 21 := ⟨_, rfl⟩
  have SX : Hid (Sm x0 x1 x2 x3) := Sm.mod ex0 ex1 ex2 ex3
  have EX : Hid (x0 = a0 % 21 ∧ x1 = a1 % 21 ∧ x2 = a2 % 21 ∧ x3 = a3 % 21) := ⟨ex0, ex1, ex2, ex3⟩
  have HA : Hid ((0 ≤ a0 ∧ a0 ≤ 255) ∧ (0 ≤ a1 ∧ a1 ≤ 255) ∧ (0 ≤ a2 ∧ a2 ≤ 255) ∧ (0 ≤ a3 ∧ a3 ≤ 255)) := ⟨ha0, ha1, ha2, ha3⟩
  clear ex0 ha0 ex1 ha1 ex2 ha2 ex3 ha3
  obtain ⟨y0, ey0⟩ : ∃ y0, y0 = b0 % 21 := ⟨_, rfl⟩
  obtain ⟨y1, ey1⟩ : ∃ y1, y1 = b1 % 21 := ⟨_, rfl⟩
  obtain ⟨y2, ey2⟩ : ∃ y2, y2 = b2 % 21 := ⟨_, rfl⟩
  obtain ⟨y3, ey3⟩ : ∃ y3, y3 = b3 % 21 := ⟨_, rfl⟩
  have SY : Hid (Sm y0 y1 y2 y3) := Sm.mod ey0 ey1 ey2 ey3
  have EY : Hid (y0 = b0 % 21 ∧ y1 = b1 % 21 ∧ y2 = b2 % 21 ∧ y3 = b3 % 21) := ⟨ey0, ey1, ey2, ey3⟩
  have HB : Hid ((0 ≤ b0 ∧ b0 ≤ 255) ∧ (0 ≤ b1 ∧ b1 ≤ 255) ∧ (0 ≤ b2 ∧ b2 ≤ 255) ∧ (0 ≤ b3 ∧ b3 ≤ 255)) := ⟨hb0, hb1, hb2, hb3⟩
  clear ey0 hb0 ey1 hb1 ey2 hb2 ey3 hb3
  obtain ⟨z0, ez0⟩ : ∃ z0, z0 = c0 % 21 := ⟨_, rfl⟩
  obtain ⟨z1, ez1⟩ : ∃ z1, z1 = c1 % 21 := ⟨_, rfl⟩
  obtain ⟨z2, ez2⟩ : ∃ z2, z2 = c2 % 21 := ⟨_, rfl⟩
  obtain ⟨z3, ez3⟩ : ∃ z3, z3 = c3 % 21 := ⟨_, rfl⟩
  have SZ : Hid (Sm z0 z1 z2 z3) := Sm.mod ez0 ez1 ez2 ez3
  have EZ : Hid (z0 = c0 % 21 ∧ z1 = c1 % 21 ∧ z2 = c2 % 21 ∧ z3 = c3 % 21) := ⟨ez0, ez1, ez2, ez3⟩
  have HC : Hid ((0 ≤ c0 ∧ c0 ≤ 255) ∧ (0 ≤ c1 ∧ c1 ≤ 255) ∧ (0 ≤ c2 ∧ c2 ≤ 255) ∧ (0 ≤ c3 ∧ c3 ≤ 255)) := ⟨hc0, hc1, hc2, hc3⟩
  clear ez0 hc0 ez1 hc1 ez2 hc2 ez3 hc3
  have HO : Hid (0 ≤ ord % 3 ∧ ord % 3 ≤ 2) := ⟨by omega, by omega⟩
  obtain ⟨k1, ck1⟩ := CmpIs.ex (ord % 3) x0 x1 x2 x3 y0 y1 y2 y3
  have Hk1 : Hid (CmpIs (ord % 3) x0 x1 x2 x3 y0 y1 y2 y3 k1) := ck1
  obtain ⟨k2, ck2⟩ := CmpIs.ex (ord % 3) y0 y1 y2 y3 x0 x1 x2 x3
  have Hk2 : Hid (CmpIs (ord % 3) y0 y1 y2 y3 x0 x1 x2 x3 k2) := ck2
  obtain ⟨k3, ck3⟩ := CmpIs.ex (ord % 3) y0 y1 y2 y3 z0 z1 z2 z3
  have Hk3 : Hid (CmpIs (ord % 3) y0 y1 y2 y3 z0 z1 z2 z3 k3) := ck3
  obtain ⟨k4, ck4⟩ := CmpIs.ex (ord % 3) x0 x1 x2 x3 z0 z1 z2 z3
  have Hk4 : Hid (CmpIs (ord % 3) x0 x1 x2 x3 z0 z1 z2 z3 k4) := ck4
  obtain ⟨k5, ck5⟩ := CmpIs.ex (ord % 3) x0 x1 x2 x3 0 0 0 0
  have Hk5 : Hid (CmpIs (ord % 3) x0 x1 x2 x3 0 0 0 0 k5) := ck5
  have hb2 := ck2.bd ⟨SY.out.may, SX.out.may⟩ HO.out.1 HO.out.2
  have t12 : (k1 == -k2) = true := by rw [beq_iff_eq]; exact ck1.turn ck2 ⟨SX.out.may, SY.out.may⟩ HO.out.1 HO.out.2
  have e12 := eq_val x0 x1 x2 x3 y0 y1 y2 y3 (k1 == 0) (ck1.zero ⟨SX.out.may, SY.out.may⟩ HO.out.1 HO.out.2)
  have T : Hid (0 ≤ k1 → 0 ≤ k3 → 0 ≤ k4) := ck1.thru ck3 ck4 SX.out.may SY.out.may SZ.out.may HO.out.1 HO.out.2
  have t5 : 0 ≤ k5 := CmpIs.part (a := 0) (b := 0) (c := 0) (d := 0) (by simpa using ck5) (by simpa using (⟨SX.out.may, may_zero⟩ : Both x0 x1 x2 x3 0 0 0 0)) SX.out.x0 SX.out.y0 SX.out.z0 SX.out.u0 HO.out.1 HO.out.2
  obtain ⟨bd1, bd2⟩ := hb2
  obtain ⟨od1, od2⟩ := hord
  clear ck1 ck2 ck3 ck4 ck5
  have B0 : Hid ((((w.alloc (.cells #[.int .u8 a0, .int .u8 a1, .int .u8 a2, .int .u8 a3] 36 (0, 0))).alloc (.cells #[.int .u8 b0, .int .u8 b1, .int .u8 b2, .int .u8 b3] 36 (0, 0))).alloc (.cells #[.int .u8 c0, .int .u8 c1, .int .u8 c2, .int .u8 c3] 36 (0, 0))).heap[w.heap.size]? = some (.cells #[.int .u8 a0, .int .u8 a1, .int .u8 a2, .int .u8 a3] 36 (0, 0)) ∧ (((w.alloc (.cells #[.int .u8 a0, .int .u8 a1, .int .u8 a2, .int .u8 a3] 36 (0, 0))).alloc (.cells #[.int .u8 b0, .int .u8 b1, .int .u8 b2, .int .u8 b3] 36 (0, 0))).alloc (.cells #[.int .u8 c0, .int .u8 c1, .int .u8 c2, .int .u8 c3] 36 (0, 0))).heap[w.heap.size + 1]? = some (.cells #[.int .u8 b0, .int .u8 b1, .int .u8 b2, .int .u8 b3] 36 (0, 0)) ∧ (((w.alloc (.cells #[.int .u8 a0, .int .u8 a1, .int .u8 a2, .int .u8 a3] 36 (0, 0))).alloc (.cells #[.int .u8 b0, .int .u8 b1, .int .u8 b2, .int .u8 b3] 36 (0, 0))).alloc (.cells #[.int .u8 c0, .int .u8 c1, .int .u8 c2, .int .u8 c3] 36 (0, 0))).heap[w.heap.size + 2]? = some (.cells #[.int .u8 c0, .int .u8 c1, .int .u8 c2, .int .u8 c3] 36 (0, 0)) ∧ Below w.heap.size w (((w.alloc (.cells #[.int .u8 a0, .int .u8 a1, .int .u8 a2, .int .u8 a3] 36 (0, 0))).alloc (.cells #[.int .u8 b0, .int .u8 b1, .int .u8 b2, .int .u8 b3] 36 (0, 0))).alloc (.cells #[.int .u8 c0, .int .u8 c1, .int .u8 c2, .int .u8 c3] 36 (0, 0)))) := ⟨(keepAt (keepAt (show (w.alloc (.cells #[.int .u8 a0, .int .u8 a1, .int .u8 a2, .int .u8 a3] 36 (0, 0))).heap[w.heap.size]? = some (.cells #[.int .u8 a0, .int .u8 a1, .int .u8 a2, .int .u8 a3] 36 (0, 0)) by have h := heap_alloc_new w (.cells #[.int .u8 a0, .int .u8 a1, .int .u8 a2, .int .u8 a3] 36 (0, 0)); simpa using h) ((Below.refl _ _).alloc (Nat.le_refl _) _)) ((Below.refl _ _).alloc (Nat.le_refl _) _)), (keepAt (show ((w.alloc (.cells #[.int .u8 a0, .int .u8 a1, .int .u8 a2, .int .u8 a3] 36 (0, 0))).alloc (.cells #[.int .u8 b0, .int .u8 b1, .int .u8 b2, .int .u8 b3] 36 (0, 0))).heap[w.heap.size + 1]? = some (.cells #[.int .u8 b0, .int .u8 b1, .int .u8 b2, .int .u8 b3] 36 (0, 0)) by have h := heap_alloc_new (w.alloc (.cells #[.int .u8 a0, .int .u8 a1, .int .u8 a2, .int .u8 a3] 36 (0, 0))) (.cells #[.int .u8 b0, .int .u8 b1, .int .u8 b2, .int .u8 b3] 36 (0, 0)); simpa using h) ((Below.refl _ _).alloc (Nat.le_refl _) _)), (show (((w.alloc (.cells #[.int .u8 a0, .int .u8 a1, .int .u8 a2, .int .u8 a3] 36 (0, 0))).alloc (.cells #[.int .u8 b0, .int .u8 b1, .int .u8 b2, .int .u8 b3] 36 (0, 0))).alloc (.cells #[.int .u8 c0, .int .u8 c1, .int .u8 c2, .int .u8 c3] 36 (0, 0))).heap[w.heap.size + 2]? = some (.cells #[.int .u8 c0, .int .u8 c1, .int .u8 c2, .int .u8 c3] 36 (0, 0)) by have h := heap_alloc_new ((w.alloc (.cells #[.int .u8 a0, .int .u8 a1, .int .u8 a2, .int .u8 a3] 36 (0, 0))).alloc (.cells #[.int .u8 b0, .int .u8 b1, .int .u8 b2, .int .u8 b3] 36 (0, 0))) (.cells #[.int .u8 c0, .int .u8 c1, .int .u8 c2, .int .u8 c3] 36 (0, 0)); simpa using h), (Below.alloc (Below.alloc (Below.alloc (Below.refl _ _) (by go_size) _) (by go_size) _) (by go_size) _)⟩
  go_enter Try.func4, Try.ntmps4
  go_wp2_with fail
  refine (held_m a0 a1 a2 a3 _ HA.out.1 HA.out.2.1 HA.out.2.2.1 HA.out.2.2.2 x0 x1 x2 x3 EX.out.1 EX.out.2.1 EX.out.2.2.1 EX.out.2.2.2).mono ?_
  rintro e v1 ⟨rfl, p1⟩
  have B1 : Hid ((v1.alloc (.cells #[.int .i64 x0, .int .i64 x1, .int .i64 x2, .int .i64 x3] 23 (0, 0))).heap[w.heap.size]? = some (.cells #[.int .u8 a0, .int .u8 a1, .int .u8 a2, .int .u8 a3] 36 (0, 0)) ∧ (v1.alloc (.cells #[.int .i64 x0, .int .i64 x1, .int .i64 x2, .int .i64 x3] 23 (0, 0))).heap[w.heap.size + 1]? = some (.cells #[.int .u8 b0, .int .u8 b1, .int .u8 b2, .int .u8 b3] 36 (0, 0)) ∧ (v1.alloc (.cells #[.int .i64 x0, .int .i64 x1, .int .i64 x2, .int .i64 x3] 23 (0, 0))).heap[w.heap.size + 2]? = some (.cells #[.int .u8 c0, .int .u8 c1, .int .u8 c2, .int .u8 c3] 36 (0, 0)) ∧ (v1.alloc (.cells #[.int .i64 x0, .int .i64 x1, .int .i64 x2, .int .i64 x3] 23 (0, 0))).heap[v1.heap.size]? = some (.cells #[.int .i64 x0, .int .i64 x1, .int .i64 x2, .int .i64 x3] 23 (0, 0)) ∧ Below w.heap.size w (v1.alloc (.cells #[.int .i64 x0, .int .i64 x1, .int .i64 x2, .int .i64 x3] 23 (0, 0)))) := ⟨(keepAt (keepAt B0.out.1 p1) ((Below.refl _ _).alloc (Nat.le_refl _) _)), (keepAt (keepAt B0.out.2.1 p1) ((Below.refl _ _).alloc (Nat.le_refl _) _)), (keepAt (keepAt B0.out.2.2.1 p1) ((Below.refl _ _).alloc (Nat.le_refl _) _)), (heap_alloc_new v1 (.cells #[.int .i64 x0, .int .i64 x1, .int .i64 x2, .int .i64 x3] 23 (0, 0))), (chain (chain B0.out.2.2.2 p1) ((Below.refl _ _).alloc (Nat.le_refl _) _))⟩
  clear p1 B0
  have g1_0 := at36_0 B1.out.2.1
  have g1_1 := at36_1 B1.out.2.1
  have g1_2 := at36_2 B1.out.2.1
  have g1_3 := at36_3 B1.out.2.1
  go_wp2_with fail
  refine (held_m b0 b1 b2 b3 _ HB.out.1 HB.out.2.1 HB.out.2.2.1 HB.out.2.2.2 y0 y1 y2 y3 EY.out.1 EY.out.2.1 EY.out.2.2.1 EY.out.2.2.2).mono ?_
  rintro e v2 ⟨rfl, p2⟩
  clear g1_0 g1_1 g1_2 g1_3
  have B2 : Hid ((v2.alloc (.cells #[.int .i64 y0, .int .i64 y1, .int .i64 y2, .int .i64 y3] 23 (0, 0))).heap[w.heap.size]? = some (.cells #[.int .u8 a0, .int .u8 a1, .int .u8 a2, .int .u8 a3] 36 (0, 0)) ∧ (v2.alloc (.cells #[.int .i64 y0, .int .i64 y1, .int .i64 y2, .int .i64 y3] 23 (0, 0))).heap[w.heap.size + 1]? = some (.cells #[.int .u8 b0, .int .u8 b1, .int .u8 b2, .int .u8 b3] 36 (0, 0)) ∧ (v2.alloc (.cells #[.int .i64 y0, .int .i64 y1, .int .i64 y2, .int .i64 y3] 23 (0, 0))).heap[w.heap.size + 2]? = some (.cells #[.int .u8 c0, .int .u8 c1, .int .u8 c2, .int .u8 c3] 36 (0, 0)) ∧ (v2.alloc (.cells #[.int .i64 y0, .int .i64 y1, .int .i64 y2, .int .i64 y3] 23 (0, 0))).heap[v1.heap.size]? = some (.cells #[.int .i64 x0, .int .i64 x1, .int .i64 x2, .int .i64 x3] 23 (0, 0)) ∧ (v2.alloc (.cells #[.int .i64 y0, .int .i64 y1, .int .i64 y2, .int .i64 y3] 23 (0, 0))).heap[v2.heap.size]? = some (.cells #[.int .i64 y0, .int .i64 y1, .int .i64 y2, .int .i64 y3] 23 (0, 0)) ∧ Below w.heap.size w (v2.alloc (.cells #[.int .i64 y0, .int .i64 y1, .int .i64 y2, .int .i64 y3] 23 (0, 0)))) := ⟨(keepAt (keepAt B1.out.1 p2) ((Below.refl _ _).alloc (Nat.le_refl _) _)), (keepAt (keepAt B1.out.2.1 p2) ((Below.refl _ _).alloc (Nat.le_refl _) _)), (keepAt (keepAt B1.out.2.2.1 p2) ((Below.refl _ _).alloc (Nat.le_refl _) _)), (keepAt (keepAt B1.out.2.2.2.1 p2) ((Below.refl _ _).alloc (Nat.le_refl _) _)), (heap_alloc_new v2 (.cells #[.int .i64 y0, .int .i64 y1, .int .i64 y2, .int .i64 y3] 23 (0, 0))), (chain (chain B1.out.2.2.2.2 p2) ((Below.refl _ _).alloc (Nat.le_refl _) _))⟩
  clear p2 B1
  have g2_0 := at36_0 B2.out.2.2.1
  have g2_1 := at36_1 B2.out.2.2.1
  have g2_2 := at36_2 B2.out.2.2.1
  have g2_3 := at36_3 B2.out.2.2.1
  go_wp2_with fail
  refine (held_m c0 c1 c2 c3 _ HC.out.1 HC.out.2.1 HC.out.2.2.1 HC.out.2.2.2 z0 z1 z2 z3 EZ.out.1 EZ.out.2.1 EZ.out.2.2.1 EZ.out.2.2.2).mono ?_
  rintro e v3 ⟨rfl, p3⟩
  clear g2_0 g2_1 g2_2 g2_3
  have B3 : Hid ((v3.alloc (.cells #[.int .i64 z0, .int .i64 z1, .int .i64 z2, .int .i64 z3] 23 (0, 0))).heap[w.heap.size]? = some (.cells #[.int .u8 a0, .int .u8 a1, .int .u8 a2, .int .u8 a3] 36 (0, 0)) ∧ (v3.alloc (.cells #[.int .i64 z0, .int .i64 z1, .int .i64 z2, .int .i64 z3] 23 (0, 0))).heap[w.heap.size + 1]? = some (.cells #[.int .u8 b0, .int .u8 b1, .int .u8 b2, .int .u8 b3] 36 (0, 0)) ∧ (v3.alloc (.cells #[.int .i64 z0, .int .i64 z1, .int .i64 z2, .int .i64 z3] 23 (0, 0))).heap[w.heap.size + 2]? = some (.cells #[.int .u8 c0, .int .u8 c1, .int .u8 c2, .int .u8 c3] 36 (0, 0)) ∧ (v3.alloc (.cells #[.int .i64 z0, .int .i64 z1, .int .i64 z2, .int .i64 z3] 23 (0, 0))).heap[v1.heap.size]? = some (.cells #[.int .i64 x0, .int .i64 x1, .int .i64 x2, .int .i64 x3] 23 (0, 0)) ∧ (v3.alloc (.cells #[.int .i64 z0, .int .i64 z1, .int .i64 z2, .int .i64 z3] 23 (0, 0))).heap[v2.heap.size]? = some (.cells #[.int .i64 y0, .int .i64 y1, .int .i64 y2, .int .i64 y3] 23 (0, 0)) ∧ (v3.alloc (.cells #[.int .i64 z0, .int .i64 z1, .int .i64 z2, .int .i64 z3] 23 (0, 0))).heap[v3.heap.size]? = some (.cells #[.int .i64 z0, .int .i64 z1, .int .i64 z2, .int .i64 z3] 23 (0, 0)) ∧ Below w.heap.size w (v3.alloc (.cells #[.int .i64 z0, .int .i64 z1, .int .i64 z2, .int .i64 z3] 23 (0, 0)))) := ⟨(keepAt (keepAt B2.out.1 p3) ((Below.refl _ _).alloc (Nat.le_refl _) _)), (keepAt (keepAt B2.out.2.1 p3) ((Below.refl _ _).alloc (Nat.le_refl _) _)), (keepAt (keepAt B2.out.2.2.1 p3) ((Below.refl _ _).alloc (Nat.le_refl _) _)), (keepAt (keepAt B2.out.2.2.2.1 p3) ((Below.refl _ _).alloc (Nat.le_refl _) _)), (keepAt (keepAt B2.out.2.2.2.2.1 p3) ((Below.refl _ _).alloc (Nat.le_refl _) _)), (heap_alloc_new v3 (.cells #[.int .i64 z0, .int .i64 z1, .int .i64 z2, .int .i64 z3] 23 (0, 0))), (chain (chain B2.out.2.2.2.2.2 p3) ((Below.refl _ _).alloc (Nat.le_refl _) _))⟩
  clear p3 B2
  have g3_0 := at23_0 B3.out.2.2.2.1
  have g3_1 := at23_1 B3.out.2.2.2.1
  have g3_2 := at23_2 B3.out.2.2.2.1
  have g3_3 := at23_3 B3.out.2.2.2.1
  have g4_0 := at23_0 B3.out.2.2.2.2.1
  have g4_1 := at23_1 B3.out.2.2.2.2.1
  have g4_2 := at23_2 B3.out.2.2.2.2.1
  have g4_3 := at23_3 B3.out.2.2.2.2.1
  go_wp2_with fail
  refine (cmp_val (ord % 3) x0 x1 x2 x3 y0 y1 y2 y3 k1 _ Hk1.out).mono ?_
  rintro e v4 ⟨rfl, p4⟩
  clear g3_0 g3_1 g3_2 g3_3 g4_0 g4_1 g4_2 g4_3
  have B4 : Hid (v4.heap[w.heap.size]? = some (.cells #[.int .u8 a0, .int .u8 a1, .int .u8 a2, .int .u8 a3] 36 (0, 0)) ∧ v4.heap[w.heap.size + 1]? = some (.cells #[.int .u8 b0, .int .u8 b1, .int .u8 b2, .int .u8 b3] 36 (0, 0)) ∧ v4.heap[w.heap.size + 2]? = some (.cells #[.int .u8 c0, .int .u8 c1, .int .u8 c2, .int .u8 c3] 36 (0, 0)) ∧ v4.heap[v1.heap.size]? = some (.cells #[.int .i64 x0, .int .i64 x1, .int .i64 x2, .int .i64 x3] 23 (0, 0)) ∧ v4.heap[v2.heap.size]? = some (.cells #[.int .i64 y0, .int .i64 y1, .int .i64 y2, .int .i64 y3] 23 (0, 0)) ∧ v4.heap[v3.heap.size]? = some (.cells #[.int .i64 z0, .int .i64 z1, .int .i64 z2, .int .i64 z3] 23 (0, 0)) ∧ Below w.heap.size w v4) := ⟨(keepAt B3.out.1 p4), (keepAt B3.out.2.1 p4), (keepAt B3.out.2.2.1 p4), (keepAt B3.out.2.2.2.1 p4), (keepAt B3.out.2.2.2.2.1 p4), (keepAt B3.out.2.2.2.2.2.1 p4), (chain B3.out.2.2.2.2.2.2 p4)⟩
  clear p4 B3
  have g3_0 := at23_0 B4.out.2.2.2.1
  have g3_1 := at23_1 B4.out.2.2.2.1
  have g3_2 := at23_2 B4.out.2.2.2.1
  have g3_3 := at23_3 B4.out.2.2.2.1
  have g4_0 := at23_0 B4.out.2.2.2.2.1
  have g4_1 := at23_1 B4.out.2.2.2.2.1
  have g4_2 := at23_2 B4.out.2.2.2.2.1
  have g4_3 := at23_3 B4.out.2.2.2.2.1
  go_wp2_with fail
  refine (cmp_val (ord % 3) y0 y1 y2 y3 x0 x1 x2 x3 k2 _ Hk2.out).mono ?_
  rintro e v5 ⟨rfl, p5⟩
  clear g3_0 g3_1 g3_2 g3_3 g4_0 g4_1 g4_2 g4_3
  have B5 : Hid (v5.heap[w.heap.size]? = some (.cells #[.int .u8 a0, .int .u8 a1, .int .u8 a2, .int .u8 a3] 36 (0, 0)) ∧ v5.heap[w.heap.size + 1]? = some (.cells #[.int .u8 b0, .int .u8 b1, .int .u8 b2, .int .u8 b3] 36 (0, 0)) ∧ v5.heap[w.heap.size + 2]? = some (.cells #[.int .u8 c0, .int .u8 c1, .int .u8 c2, .int .u8 c3] 36 (0, 0)) ∧ v5.heap[v1.heap.size]? = some (.cells #[.int .i64 x0, .int .i64 x1, .int .i64 x2, .int .i64 x3] 23 (0, 0)) ∧ v5.heap[v2.heap.size]? = some (.cells #[.int .i64 y0, .int .i64 y1, .int .i64 y2, .int .i64 y3] 23 (0, 0)) ∧ v5.heap[v3.heap.size]? = some (.cells #[.int .i64 z0, .int .i64 z1, .int .i64 z2, .int .i64 z3] 23 (0, 0)) ∧ Below w.heap.size w v5) := ⟨(keepAt B4.out.1 p5), (keepAt B4.out.2.1 p5), (keepAt B4.out.2.2.1 p5), (keepAt B4.out.2.2.2.1 p5), (keepAt B4.out.2.2.2.2.1 p5), (keepAt B4.out.2.2.2.2.2.1 p5), (chain B4.out.2.2.2.2.2.2 p5)⟩
  clear p5 B4
  by_cases d1 : k1 < 0
  · have g3_0 := at23_0 B5.out.2.2.2.1
    have g3_1 := at23_1 B5.out.2.2.2.1
    have g3_2 := at23_2 B5.out.2.2.2.1
    have g3_3 := at23_3 B5.out.2.2.2.1
    have g4_0 := at23_0 B5.out.2.2.2.2.1
    have g4_1 := at23_1 B5.out.2.2.2.2.1
    have g4_2 := at23_2 B5.out.2.2.2.2.1
    have g4_3 := at23_3 B5.out.2.2.2.2.1
    go_wp2_with fail
    refine (cmp_val (ord % 3) x0 x1 x2 x3 0 0 0 0 k5 _ Hk5.out).mono ?_
    rintro e v6 ⟨rfl, p6⟩
    clear g3_0 g3_1 g3_2 g3_3 g4_0 g4_1 g4_2 g4_3
    have B6 : Hid (v6.heap[w.heap.size]? = some (.cells #[.int .u8 a0, .int .u8 a1, .int .u8 a2, .int .u8 a3] 36 (0, 0)) ∧ v6.heap[w.heap.size + 1]? = some (.cells #[.int .u8 b0, .int .u8 b1, .int .u8 b2, .int .u8 b3] 36 (0, 0)) ∧ v6.heap[w.heap.size + 2]? = some (.cells #[.int .u8 c0, .int .u8 c1, .int .u8 c2, .int .u8 c3] 36 (0, 0)) ∧ v6.heap[v1.heap.size]? = some (.cells #[.int .i64 x0, .int .i64 x1, .int .i64 x2, .int .i64 x3] 23 (0, 0)) ∧ v6.heap[v2.heap.size]? = some (.cells #[.int .i64 y0, .int .i64 y1, .int .i64 y2, .int .i64 y3] 23 (0, 0)) ∧ v6.heap[v3.heap.size]? = some (.cells #[.int .i64 z0, .int .i64 z1, .int .i64 z2, .int .i64 z3] 23 (0, 0)) ∧ Below w.heap.size w v6) := ⟨(keepAt B5.out.1 p6), (keepAt B5.out.2.1 p6), (keepAt B5.out.2.2.1 p6), (keepAt B5.out.2.2.2.1 p6), (keepAt B5.out.2.2.2.2.1 p6), (keepAt B5.out.2.2.2.2.2.1 p6), (chain B5.out.2.2.2.2.2.2 p6)⟩
    clear p6 B5
    go_wp2_with fail
    refine (shown_m _).mono ?_
    rintro e v7 ⟨rfl, p7⟩
    have B7 : Hid (v7.heap[w.heap.size]? = some (.cells #[.int .u8 a0, .int .u8 a1, .int .u8 a2, .int .u8 a3] 36 (0, 0)) ∧ v7.heap[w.heap.size + 1]? = some (.cells #[.int .u8 b0, .int .u8 b1, .int .u8 b2, .int .u8 b3] 36 (0, 0)) ∧ v7.heap[w.heap.size + 2]? = some (.cells #[.int .u8 c0, .int .u8 c1, .int .u8 c2, .int .u8 c3] 36 (0, 0)) ∧ v7.heap[v1.heap.size]? = some (.cells #[.int .i64 x0, .int .i64 x1, .int .i64 x2, .int .i64 x3] 23 (0, 0)) ∧ v7.heap[v2.heap.size]? = some (.cells #[.int .i64 y0, .int .i64 y1, .int .i64 y2, .int .i64 y3] 23 (0, 0)) ∧ v7.heap[v3.heap.size]? = some (.cells #[.int .i64 z0, .int .i64 z1, .int .i64 z2, .int .i64 z3] 23 (0, 0)) ∧ Below w.heap.size w v7) := ⟨(keepAt B6.out.1 p7), (keepAt B6.out.2.1 p7), (keepAt B6.out.2.2.1 p7), (keepAt B6.out.2.2.2.1 p7), (keepAt B6.out.2.2.2.2.1 p7), (keepAt B6.out.2.2.2.2.2.1 p7), (chain B6.out.2.2.2.2.2.2 p7)⟩
    clear p7 B6
    go_wp2
    go_ret
    exact ⟨rfl, B7.out.2.2.2.2.2.2⟩
  · by_cases d3 : k3 < 0
    · have d1b : 0 ≤ k1 := by omega
      have g3_0 := at23_0 B5.out.2.2.2.1
      have g3_1 := at23_1 B5.out.2.2.2.1
      have g3_2 := at23_2 B5.out.2.2.2.1
      have g3_3 := at23_3 B5.out.2.2.2.1
      have g4_0 := at23_0 B5.out.2.2.2.2.1
      have g4_1 := at23_1 B5.out.2.2.2.2.1
      have g4_2 := at23_2 B5.out.2.2.2.2.1
      have g4_3 := at23_3 B5.out.2.2.2.2.1
      have g5_0 := at23_0 B5.out.2.2.2.2.2.1
      have g5_1 := at23_1 B5.out.2.2.2.2.2.1
      have g5_2 := at23_2 B5.out.2.2.2.2.2.1
      have g5_3 := at23_3 B5.out.2.2.2.2.2.1
      go_wp2_with fail
      refine (cmp_val (ord % 3) y0 y1 y2 y3 z0 z1 z2 z3 k3 _ Hk3.out).mono ?_
      rintro e v6 ⟨rfl, p6⟩
      clear g3_0 g3_1 g3_2 g3_3 g4_0 g4_1 g4_2 g4_3 g5_0 g5_1 g5_2 g5_3
      have B6 : Hid (v6.heap[w.heap.size]? = some (.cells #[.int .u8 a0, .int .u8 a1, .int .u8 a2, .int .u8 a3] 36 (0, 0)) ∧ v6.heap[w.heap.size + 1]? = some (.cells #[.int .u8 b0, .int .u8 b1, .int .u8 b2, .int .u8 b3] 36 (0, 0)) ∧ v6.heap[w.heap.size + 2]? = some (.cells #[.int .u8 c0, .int .u8 c1, .int .u8 c2, .int .u8 c3] 36 (0, 0)) ∧ v6.heap[v1.heap.size]? = some (.cells #[.int .i64 x0, .int .i64 x1, .int .i64 x2, .int .i64 x3] 23 (0, 0)) ∧ v6.heap[v2.heap.size]? = some (.cells #[.int .i64 y0, .int .i64 y1, .int .i64 y2, .int .i64 y3] 23 (0, 0)) ∧ v6.heap[v3.heap.size]? = some (.cells #[.int .i64 z0, .int .i64 z1, .int .i64 z2, .int .i64 z3] 23 (0, 0)) ∧ Below w.heap.size w v6) := ⟨(keepAt B5.out.1 p6), (keepAt B5.out.2.1 p6), (keepAt B5.out.2.2.1 p6), (keepAt B5.out.2.2.2.1 p6), (keepAt B5.out.2.2.2.2.1 p6), (keepAt B5.out.2.2.2.2.2.1 p6), (chain B5.out.2.2.2.2.2.2 p6)⟩
      clear p6 B5
      have g3_0 := at23_0 B6.out.2.2.2.1
      have g3_1 := at23_1 B6.out.2.2.2.1
      have g3_2 := at23_2 B6.out.2.2.2.1
      have g3_3 := at23_3 B6.out.2.2.2.1
      go_wp2_with fail
      refine (cmp_val (ord % 3) x0 x1 x2 x3 0 0 0 0 k5 _ Hk5.out).mono ?_
      rintro e v7 ⟨rfl, p7⟩
      clear g3_0 g3_1 g3_2 g3_3
      have B7 : Hid (v7.heap[w.heap.size]? = some (.cells #[.int .u8 a0, .int .u8 a1, .int .u8 a2, .int .u8 a3] 36 (0, 0)) ∧ v7.heap[w.heap.size + 1]? = some (.cells #[.int .u8 b0, .int .u8 b1, .int .u8 b2, .int .u8 b3] 36 (0, 0)) ∧ v7.heap[w.heap.size + 2]? = some (.cells #[.int .u8 c0, .int .u8 c1, .int .u8 c2, .int .u8 c3] 36 (0, 0)) ∧ v7.heap[v1.heap.size]? = some (.cells #[.int .i64 x0, .int .i64 x1, .int .i64 x2, .int .i64 x3] 23 (0, 0)) ∧ v7.heap[v2.heap.size]? = some (.cells #[.int .i64 y0, .int .i64 y1, .int .i64 y2, .int .i64 y3] 23 (0, 0)) ∧ v7.heap[v3.heap.size]? = some (.cells #[.int .i64 z0, .int .i64 z1, .int .i64 z2, .int .i64 z3] 23 (0, 0)) ∧ Below w.heap.size w v7) := ⟨(keepAt B6.out.1 p7), (keepAt B6.out.2.1 p7), (keepAt B6.out.2.2.1 p7), (keepAt B6.out.2.2.2.1 p7), (keepAt B6.out.2.2.2.2.1 p7), (keepAt B6.out.2.2.2.2.2.1 p7), (chain B6.out.2.2.2.2.2.2 p7)⟩
      clear p7 B6
      go_wp2_with fail
      refine (shown_m _).mono ?_
      rintro e v8 ⟨rfl, p8⟩
      have B8 : Hid (v8.heap[w.heap.size]? = some (.cells #[.int .u8 a0, .int .u8 a1, .int .u8 a2, .int .u8 a3] 36 (0, 0)) ∧ v8.heap[w.heap.size + 1]? = some (.cells #[.int .u8 b0, .int .u8 b1, .int .u8 b2, .int .u8 b3] 36 (0, 0)) ∧ v8.heap[w.heap.size + 2]? = some (.cells #[.int .u8 c0, .int .u8 c1, .int .u8 c2, .int .u8 c3] 36 (0, 0)) ∧ v8.heap[v1.heap.size]? = some (.cells #[.int .i64 x0, .int .i64 x1, .int .i64 x2, .int .i64 x3] 23 (0, 0)) ∧ v8.heap[v2.heap.size]? = some (.cells #[.int .i64 y0, .int .i64 y1, .int .i64 y2, .int .i64 y3] 23 (0, 0)) ∧ v8.heap[v3.heap.size]? = some (.cells #[.int .i64 z0, .int .i64 z1, .int .i64 z2, .int .i64 z3] 23 (0, 0)) ∧ Below w.heap.size w v8) := ⟨(keepAt B7.out.1 p8), (keepAt B7.out.2.1 p8), (keepAt B7.out.2.2.1 p8), (keepAt B7.out.2.2.2.1 p8), (keepAt B7.out.2.2.2.2.1 p8), (keepAt B7.out.2.2.2.2.2.1 p8), (chain B7.out.2.2.2.2.2.2 p8)⟩
      clear p8 B7
      go_wp2
      go_ret
      exact ⟨rfl, B8.out.2.2.2.2.2.2⟩
    · have d1b : 0 ≤ k1 := by omega
      have d4 : 0 ≤ k4 := T.out d1b (by omega)
      have g3_0 := at23_0 B5.out.2.2.2.1
      have g3_1 := at23_1 B5.out.2.2.2.1
      have g3_2 := at23_2 B5.out.2.2.2.1
      have g3_3 := at23_3 B5.out.2.2.2.1
      have g4_0 := at23_0 B5.out.2.2.2.2.1
      have g4_1 := at23_1 B5.out.2.2.2.2.1
      have g4_2 := at23_2 B5.out.2.2.2.2.1
      have g4_3 := at23_3 B5.out.2.2.2.2.1
      have g5_0 := at23_0 B5.out.2.2.2.2.2.1
      have g5_1 := at23_1 B5.out.2.2.2.2.2.1
      have g5_2 := at23_2 B5.out.2.2.2.2.2.1
      have g5_3 := at23_3 B5.out.2.2.2.2.2.1
      go_wp2_with fail
      refine (cmp_val (ord % 3) y0 y1 y2 y3 z0 z1 z2 z3 k3 _ Hk3.out).mono ?_
      rintro e v6 ⟨rfl, p6⟩
      clear g3_0 g3_1 g3_2 g3_3 g4_0 g4_1 g4_2 g4_3 g5_0 g5_1 g5_2 g5_3
      have B6 : Hid (v6.heap[w.heap.size]? = some (.cells #[.int .u8 a0, .int .u8 a1, .int .u8 a2, .int .u8 a3] 36 (0, 0)) ∧ v6.heap[w.heap.size + 1]? = some (.cells #[.int .u8 b0, .int .u8 b1, .int .u8 b2, .int .u8 b3] 36 (0, 0)) ∧ v6.heap[w.heap.size + 2]? = some (.cells #[.int .u8 c0, .int .u8 c1, .int .u8 c2, .int .u8 c3] 36 (0, 0)) ∧ v6.heap[v1.heap.size]? = some (.cells #[.int .i64 x0, .int .i64 x1, .int .i64 x2, .int .i64 x3] 23 (0, 0)) ∧ v6.heap[v2.heap.size]? = some (.cells #[.int .i64 y0, .int .i64 y1, .int .i64 y2, .int .i64 y3] 23 (0, 0)) ∧ v6.heap[v3.heap.size]? = some (.cells #[.int .i64 z0, .int .i64 z1, .int .i64 z2, .int .i64 z3] 23 (0, 0)) ∧ Below w.heap.size w v6) := ⟨(keepAt B5.out.1 p6), (keepAt B5.out.2.1 p6), (keepAt B5.out.2.2.1 p6), (keepAt B5.out.2.2.2.1 p6), (keepAt B5.out.2.2.2.2.1 p6), (keepAt B5.out.2.2.2.2.2.1 p6), (chain B5.out.2.2.2.2.2.2 p6)⟩
      clear p6 B5
      have g3_0 := at23_0 B6.out.2.2.2.1
      have g3_1 := at23_1 B6.out.2.2.2.1
      have g3_2 := at23_2 B6.out.2.2.2.1
      have g3_3 := at23_3 B6.out.2.2.2.1
      have g5_0 := at23_0 B6.out.2.2.2.2.2.1
      have g5_1 := at23_1 B6.out.2.2.2.2.2.1
      have g5_2 := at23_2 B6.out.2.2.2.2.2.1
      have g5_3 := at23_3 B6.out.2.2.2.2.2.1
      go_wp2_with fail
      refine (cmp_val (ord % 3) x0 x1 x2 x3 z0 z1 z2 z3 k4 _ Hk4.out).mono ?_
      rintro e v7 ⟨rfl, p7⟩
      clear g3_0 g3_1 g3_2 g3_3 g5_0 g5_1 g5_2 g5_3
      have B7 : Hid (v7.heap[w.heap.size]? = some (.cells #[.int .u8 a0, .int .u8 a1, .int .u8 a2, .int .u8 a3] 36 (0, 0)) ∧ v7.heap[w.heap.size + 1]? = some (.cells #[.int .u8 b0, .int .u8 b1, .int .u8 b2, .int .u8 b3] 36 (0, 0)) ∧ v7.heap[w.heap.size + 2]? = some (.cells #[.int .u8 c0, .int .u8 c1, .int .u8 c2, .int .u8 c3] 36 (0, 0)) ∧ v7.heap[v1.heap.size]? = some (.cells #[.int .i64 x0, .int .i64 x1, .int .i64 x2, .int .i64 x3] 23 (0, 0)) ∧ v7.heap[v2.heap.size]? = some (.cells #[.int .i64 y0, .int .i64 y1, .int .i64 y2, .int .i64 y3] 23 (0, 0)) ∧ v7.heap[v3.heap.size]? = some (.cells #[.int .i64 z0, .int .i64 z1, .int .i64 z2, .int .i64 z3] 23 (0, 0)) ∧ Below w.heap.size w v7) := ⟨(keepAt B6.out.1 p7), (keepAt B6.out.2.1 p7), (keepAt B6.out.2.2.1 p7), (keepAt B6.out.2.2.2.1 p7), (keepAt B6.out.2.2.2.2.1 p7), (keepAt B6.out.2.2.2.2.2.1 p7), (chain B6.out.2.2.2.2.2.2 p7)⟩
      clear p7 B6
      have g3_0 := at23_0 B7.out.2.2.2.1
      have g3_1 := at23_1 B7.out.2.2.2.1
      have g3_2 := at23_2 B7.out.2.2.2.1
      have g3_3 := at23_3 B7.out.2.2.2.1
      go_wp2_with fail
      refine (cmp_val (ord % 3) x0 x1 x2 x3 0 0 0 0 k5 _ Hk5.out).mono ?_
      rintro e v8 ⟨rfl, p8⟩
      clear g3_0 g3_1 g3_2 g3_3
      have B8 : Hid (v8.heap[w.heap.size]? = some (.cells #[.int .u8 a0, .int .u8 a1, .int .u8 a2, .int .u8 a3] 36 (0, 0)) ∧ v8.heap[w.heap.size + 1]? = some (.cells #[.int .u8 b0, .int .u8 b1, .int .u8 b2, .int .u8 b3] 36 (0, 0)) ∧ v8.heap[w.heap.size + 2]? = some (.cells #[.int .u8 c0, .int .u8 c1, .int .u8 c2, .int .u8 c3] 36 (0, 0)) ∧ v8.heap[v1.heap.size]? = some (.cells #[.int .i64 x0, .int .i64 x1, .int .i64 x2, .int .i64 x3] 23 (0, 0)) ∧ v8.heap[v2.heap.size]? = some (.cells #[.int .i64 y0, .int .i64 y1, .int .i64 y2, .int .i64 y3] 23 (0, 0)) ∧ v8.heap[v3.heap.size]? = some (.cells #[.int .i64 z0, .int .i64 z1, .int .i64 z2, .int .i64 z3] 23 (0, 0)) ∧ Below w.heap.size w v8) := ⟨(keepAt B7.out.1 p8), (keepAt B7.out.2.1 p8), (keepAt B7.out.2.2.1 p8), (keepAt B7.out.2.2.2.1 p8), (keepAt B7.out.2.2.2.2.1 p8), (keepAt B7.out.2.2.2.2.2.1 p8), (chain B7.out.2.2.2.2.2.2 p8)⟩
      clear p8 B7
      go_wp2_with fail
      refine (shown_m _).mono ?_
      rintro e v9 ⟨rfl, p9⟩
      have B9 : Hid (v9.heap[w.heap.size]? = some (.cells #[.int .u8 a0, .int .u8 a1, .int .u8 a2, .int .u8 a3] 36 (0, 0)) ∧ v9.heap[w.heap.size + 1]? = some (.cells #[.int .u8 b0, .int .u8 b1, .int .u8 b2, .int .u8 b3] 36 (0, 0)) ∧ v9.heap[w.heap.size + 2]? = some (.cells #[.int .u8 c0, .int .u8 c1, .int .u8 c2, .int .u8 c3] 36 (0, 0)) ∧ v9.heap[v1.heap.size]? = some (.cells #[.int .i64 x0, .int .i64 x1, .int .i64 x2, .int .i64 x3] 23 (0, 0)) ∧ v9.heap[v2.heap.size]? = some (.cells #[.int .i64 y0, .int .i64 y1, .int .i64 y2, .int .i64 y3] 23 (0, 0)) ∧ v9.heap[v3.heap.size]? = some (.cells #[.int .i64 z0, .int .i64 z1, .int .i64 z2, .int .i64 z3] 23 (0, 0)) ∧ Below w.heap.size w v9) := ⟨(keepAt B8.out.1 p9), (keepAt B8.out.2.1 p9), (keepAt B8.out.2.2.1 p9), (keepAt B8.out.2.2.2.1 p9), (keepAt B8.out.2.2.2.2.1 p9), (keepAt B8.out.2.2.2.2.2.1 p9), (chain B8.out.2.2.2.2.2.2 p9)⟩
      clear p9 B8
      go_wp2
      go_ret
      exact ⟨rfl, B9.out.2.2.2.2.2.2⟩

set_option maxRecDepth 100000 in
theorem lifted (os : Os) (started : os.Started) (H : Type) (enc : TypeId × Value → H) :
    ReturnsInHanded {} Try.checked os 4 .any (Rows.monoOrderSpec.pre6 enc Try.prog Try.f4 Rows.monoOrderRow.domain false) (Rows.monoOrderSpec.post enc Try.prog Try.f4 false true false false) := by
  refine returnsInHanded_of_change (C := Try.checked) own started (by kernel_rfl) Try.func4
    (ChangeSpec.witness6 (enc := enc) (C := Try.checked) false ⟨#[], #[.int .u8 0, .agg #[.int .u8 0, .int .u8 0, .int .u8 0, .int .u8 0], .agg #[.int .u8 0, .int .u8 0, .int .u8 0, .int .u8 0], .agg #[.int .u8 0, .int .u8 0, .int .u8 0, .int .u8 0]], []⟩ 8 (by kernel_rfl) (by kernel_rfl) (by kernel_rfl) (by kernel_rfl)) ?_
  intro W base args ds gs before hval0 hW hcnd _
  have hval : ∀ (j : Nat) t v, Try.f4.params[j]? = some t → args[j]? = some v → Value.okWide Try.prog W .any base t v := hval0
  have hW' := hW
  obtain ⟨p, q, hA0, hV, rfl, hfz, hnd⟩ := hW
  have hA : DataW.TrodAll enc Try.prog W 0 (fun _ => true) true Try.f4.params.toList args.toList ds p := hA0
  rw [Try.params4] at hA hval
  obtain ⟨v0, vs0, d0, ds0, p0, q0, hargs0, rfl, rfl, h0, r0⟩ := trodAll_cons hA
  obtain ⟨v1, vs1, d1, ds1, p1, q1, hargs1, rfl, rfl, h1, r1⟩ := trodAll_cons r0
  obtain ⟨v2, vs2, d2, ds2, p2, q2, hargs2, rfl, rfl, h2, r2⟩ := trodAll_cons r1
  obtain ⟨v3, vs3, d3, ds3, p3, q3, hargs3, rfl, rfl, h3, r3⟩ := trodAll_cons r2
  obtain ⟨rfl, rfl, rfl⟩ := trodAll_nil r3
  obtain rfl : args = #[v0, v1, v2, v3] := by cases args; simp_all
  obtain ⟨rfl, rfl⟩ := trodVars_none hV
  obtain ⟨ord, rfl, rfl, rfl, word⟩ := open_int Try.underlying5 (hval 0 5 v0 rfl rfl) h0
  obtain ⟨a0, a1, a2, a3, rfl, rfl, rfl, wa0, wa1, wa2, wa3⟩ := open_u4 (hval 1 36 v1 rfl rfl) h1
  obtain ⟨b0, b1, b2, b3, rfl, rfl, rfl, wb0, wb1, wb2, wb3⟩ := open_u4 (hval 2 36 v2 rfl rfl) h2
  obtain ⟨c0, c1, c2, c3, rfl, rfl, rfl, wc0, wc1, wc2, wc3⟩ := open_u4 (hval 3 36 v3 rfl rfl) h3
  clear hA0 hval0
  refine (walk ord a0 a1 a2 a3 b0 b1 b2 b3 c0 c1 c2 c3 W (bounds_u8 word) (bounds_u8 wa0) (bounds_u8 wa1) (bounds_u8 wa2) (bounds_u8 wa3) (bounds_u8 wb0) (bounds_u8 wb1) (bounds_u8 wb2) (bounds_u8 wb3) (bounds_u8 wc0) (bounds_u8 wc1) (bounds_u8 wc2) (bounds_u8 wc3)).mono fun e W' ⟨he, hg⟩ => ?_
  subst he
  exact ⟨_, rfl, _, _, _, [], _, [], hW', trodAll_mk1 (shut_bool Try.underlying4 _), (trodAll_cons_mk (shut_int Try.underlying5 word) (trodAll_cons_mk (shut_u4 wa0 wa1 wa2 wa3) (trodAll_cons_mk (shut_u4 wb0 wb1 wb2 wb3) (trodAll_cons_mk (shut_u4 wc0 wc1 wc2 wc3) trodAll_mk0)))), rfl, hg.frame _, fun h => by cases h⟩

theorem over : Rows.monoOrderRow.holds Try.pinned (OpenSpec.ofChange Rows.monoOrderSpec) :=
  OpenClaim.holds_of_wide 4 Try.f4 rfl rfl rfl rfl rfl rfl rfl ⟨rfl, rfl, rfl, rfl, rfl⟩ rfl rfl rfl rfl rfl (by kernel_rfl) Try.func4 (by kernel_rfl)
    (of_decide_eq_true (by kernel_rfl)) (by unfold Func.isWrapper; first | (rw [if_pos (by decide +kernel)]; kernel_rfl) | (rw [if_neg (by decide +kernel)]; exact ⟨rfl, rfl⟩))
    (fun os started H enc _ => lifted os started H enc)

theorem proved : Rows.MonoOrderSaid :=
  over
#print axioms proved
end Go.Proofs.Ytjecibpeahjenaa.monoOrder
