/-
  Proved here: for every input MonoDivides returns true, and leaves its arguments as they were. No condition.
-/
import Derived.Test.YtjecibpeahjenaaMQ
namespace Go.Proofs.Ytjecibpeahjenaa.monoDivides
open Go.ChangeShapes Go.WideShapes Go.ChangeAt Go.RowKit

theorem divs_max {a b c d p q r s : Int} (hy : Sm a b c d) (hx : Sm p q r s) {t : Bool} (h : t = eqB (max p a) (max q b) (max r c) (max s d) a b c d) : t = true ↔ May4 (a - p) (b - q) (c - r) (d - s) := by
  obtain ⟨h1, h2, h3, h4, h5, h6, h7, h8⟩ := hy
  obtain ⟨g1, g2, g3, g4, g5, g6, g7, g8⟩ := hx
  rw [h, eqB_iff]
  constructor
  · rintro ⟨e1, e2, e3, e4⟩
    exact ⟨⟨by omega, by omega⟩, ⟨by omega, by omega⟩, ⟨by omega, by omega⟩, ⟨by omega, by omega⟩⟩
  · rintro ⟨⟨m1, _⟩, ⟨m2, _⟩, ⟨m3, _⟩, ⟨m4, _⟩⟩
    exact ⟨by omega, by omega, by omega, by omega⟩
theorem divs_both {a b c d p q r s : Int} {t u : Bool} (ht : t = true ↔ May4 (p - a) (q - b) (r - c) (s - d)) (hu : u = true ↔ May4 (a - p) (b - q) (c - r) (d - s)) : (t && u) = eqB a b c d p q r s := by
  rw [Bool.eq_iff_iff, Bool.and_eq_true, ht, hu, eqB_iff]
  constructor
  · rintro ⟨⟨⟨m1, _⟩, ⟨m2, _⟩, ⟨m3, _⟩, ⟨m4, _⟩⟩, ⟨⟨n1, _⟩, ⟨n2, _⟩, ⟨n3, _⟩, ⟨n4, _⟩⟩⟩
    exact ⟨by omega, by omega, by omega, by omega⟩
  · rintro ⟨rfl, rfl, rfl, rfl⟩
    have h0 : ∀ x : Int, Ex (x - x) := fun x => ⟨by omega, by omega⟩
    exact ⟨⟨h0 _, h0 _, h0 _, h0 _⟩, h0 _, h0 _, h0 _, h0 _⟩

set_option maxRecDepth 100000 in
set_option maxHeartbeats 8000000 in
theorem walk (a0 a1 a2 a3 b0 b1 b2 b3 : Int) (w : World) (ha0 : 0 ≤ a0 ∧ a0 ≤ 255) (ha1 : 0 ≤ a1 ∧ a1 ≤ 255) (ha2 : 0 ≤ a2 ∧ a2 ≤ 255) (ha3 : 0 ≤ a3 ∧ a3 ≤ 255) (hb0 : 0 ≤ b0 ∧ b0 ≤ 255) (hb1 : 0 ≤ b1 ∧ b1 ≤ 255) (hb2 : 0 ≤ b2 ∧ b2 ≤ 255) (hb3 : 0 ≤ b3 ∧ b3 ≤ 255) :
    Calls Try.prog 8 #[.agg #[.int .u8 a0, .int .u8 a1, .int .u8 a2, .int .u8 a3], .agg #[.int .u8 b0, .int .u8 b1, .int .u8 b2, .int .u8 b3]] w fun e w' => e = .returned (.bool true) ∧ Below w.heap.size w w' := by
  obtain ⟨x0, ex0⟩ : ∃ x0, x0 = a0 % 21 := ⟨_, rfl⟩
  obtain ⟨x1, ex1⟩ : ∃ x1, x1 = a1 % 21 := ⟨_, rfl⟩
  obtain ⟨x2, ex2⟩ : ∃ x2, x2 = a2 % 21 := ⟨_, rfl⟩
  obtain ⟨x3, ex3⟩ : ∃ x3, x3 = a3 % 21 := ⟨_, rfl⟩
  obtain ⟨y0, ey0⟩ : ∃ y0, y0 = b0 % 21 := ⟨_, rfl⟩
  obtain ⟨y1, ey1⟩ : ∃ y1, y1 = b1 % 21 := ⟨_, rfl⟩
  obtain ⟨y2, ey2⟩ : ∃ y2, y2 = b2 % 21 := ⟨_, rfl⟩
  obtain ⟨y3, ey3⟩ : ∃ y3, y3 = b3 % 21 := ⟨_, rfl⟩
  have SX : Hid (Sm x0 x1 x2 x3) := Sm.mod ex0 ex1 ex2 ex3
  have SY : Hid (Sm y0 y1 y2 y3) := Sm.mod ey0 ey1 ey2 ey3
  have EX : Hid (x0 = a0 % 21 ∧ x1 = a1 % 21 ∧ x2 = a2 % 21 ∧ x3 = a3 % 21) := ⟨ex0, ex1, ex2, ex3⟩
  have EY : Hid (y0 = b0 % 21 ∧ y1 = b1 % 21 ∧ y2 = b2 % 21 ∧ y3 = b3 % 21) := ⟨ey0, ey1, ey2, ey3⟩
  have HA : Hid ((0 ≤ a0 ∧ a0 ≤ 255) ∧ (0 ≤ a1 ∧ a1 ≤ 255) ∧ (0 ≤ a2 ∧ a2 ≤ 255) ∧ (0 ≤ a3 ∧ a3 ≤ 255)) := ⟨ha0, ha1, ha2, ha3⟩
  have HB : Hid ((0 ≤ b0 ∧ b0 ≤ 255) ∧ (0 ≤ b1 ∧ b1 ≤ 255) ∧ (0 ≤ b2 ∧ b2 ≤ 255) ∧ (0 ≤ b3 ∧ b3 ≤ 255)) := ⟨hb0, hb1, hb2, hb3⟩
  clear ex0 ex1 ex2 ex3 ey0 ey1 ey2 ey3 ha0 ha1 ha2 ha3 hb0 hb1 hb2 hb3
  obtain ⟨l0, el0⟩ : ∃ l0, l0 = max x0 y0 := ⟨_, rfl⟩
  obtain ⟨l1, el1⟩ : ∃ l1, l1 = max x1 y1 := ⟨_, rfl⟩
  obtain ⟨l2, el2⟩ : ∃ l2, l2 = max x2 y2 := ⟨_, rfl⟩
  obtain ⟨l3, el3⟩ : ∃ l3, l3 = max x3 y3 := ⟨_, rfl⟩
  have EL : Hid (l0 = max x0 y0 ∧ l1 = max x1 y1 ∧ l2 = max x2 y2 ∧ l3 = max x3 y3) := ⟨el0, el1, el2, el3⟩
  obtain ⟨t, ht⟩ : ∃ t, t = eqB l0 l1 l2 l3 y0 y1 y2 y3 := ⟨_, rfl⟩
  obtain ⟨s, hs⟩ : ∃ s, s = eqB l0 l1 l2 l3 x0 x1 x2 x3 := ⟨_, rfl⟩
  have HT : Hid (t = true ↔ May4 (y0 - x0) (y1 - x1) (y2 - x2) (y3 - x3)) := divs_max SY.out SX.out (by rw [ht, EL.out.1, EL.out.2.1, EL.out.2.2.1, EL.out.2.2.2])
  have HS : Hid (s = true ↔ May4 (x0 - y0) (x1 - y1) (x2 - y2) (x3 - y3)) := divs_max SX.out SY.out (by rw [hs, EL.out.1, EL.out.2.1, EL.out.2.2.1, EL.out.2.2.2, Int.max_comm x0, Int.max_comm x1, Int.max_comm x2, Int.max_comm x3])
  have HE : Hid ((t && s) = eqB x0 x1 x2 x3 y0 y1 y2 y3) := divs_both HT.out HS.out
  have q1 := eq_val l0 l1 l2 l3 y0 y1 y2 y3 t ht
  have q2 := eq_val x0 x1 x2 x3 y0 y1 y2 y3 (t && s) HE.out
  have q3 := eq_val l0 l1 l2 l3 l0 l1 l2 l3 true (eqB_self _ _ _ _)
  have q4 := eq_val x0 x1 x2 x3 x0 x1 x2 x3 true (eqB_self _ _ _ _)
  clear el0 el1 el2 el3 ht hs
  have B0 : Hid (((w.alloc (.cells #[.int .u8 a0, .int .u8 a1, .int .u8 a2, .int .u8 a3] 36 (0, 0))).alloc (.cells #[.int .u8 b0, .int .u8 b1, .int .u8 b2, .int .u8 b3] 36 (0, 0))).heap[w.heap.size]? = some (.cells #[.int .u8 a0, .int .u8 a1, .int .u8 a2, .int .u8 a3] 36 (0, 0)) ∧ ((w.alloc (.cells #[.int .u8 a0, .int .u8 a1, .int .u8 a2, .int .u8 a3] 36 (0, 0))).alloc (.cells #[.int .u8 b0, .int .u8 b1, .int .u8 b2, .int .u8 b3] 36 (0, 0))).heap[w.heap.size + 1]? = some (.cells #[.int .u8 b0, .int .u8 b1, .int .u8 b2, .int .u8 b3] 36 (0, 0)) ∧ Below w.heap.size w ((w.alloc (.cells #[.int .u8 a0, .int .u8 a1, .int .u8 a2, .int .u8 a3] 36 (0, 0))).alloc (.cells #[.int .u8 b0, .int .u8 b1, .int .u8 b2, .int .u8 b3] 36 (0, 0)))) := ⟨(keepAt (show (w.alloc (.cells #[.int .u8 a0, .int .u8 a1, .int .u8 a2, .int .u8 a3] 36 (0, 0))).heap[w.heap.size]? = some (.cells #[.int .u8 a0, .int .u8 a1, .int .u8 a2, .int .u8 a3] 36 (0, 0)) by have h := heap_alloc_new w (.cells #[.int .u8 a0, .int .u8 a1, .int .u8 a2, .int .u8 a3] 36 (0, 0)); simpa using h) ((Below.refl _ _).alloc (Nat.le_refl _) _)), (show ((w.alloc (.cells #[.int .u8 a0, .int .u8 a1, .int .u8 a2, .int .u8 a3] 36 (0, 0))).alloc (.cells #[.int .u8 b0, .int .u8 b1, .int .u8 b2, .int .u8 b3] 36 (0, 0))).heap[w.heap.size + 1]? = some (.cells #[.int .u8 b0, .int .u8 b1, .int .u8 b2, .int .u8 b3] 36 (0, 0)) by have h := heap_alloc_new (w.alloc (.cells #[.int .u8 a0, .int .u8 a1, .int .u8 a2, .int .u8 a3] 36 (0, 0))) (.cells #[.int .u8 b0, .int .u8 b1, .int .u8 b2, .int .u8 b3] 36 (0, 0)); simpa using h), (Below.alloc (Below.alloc (Below.refl _ _) (by go_size) _) (by go_size) _)⟩
  go_enter Try.func8, Try.ntmps8
  go_wp2_with fail
  refine (held_m a0 a1 a2 a3 _ HA.out.1 HA.out.2.1 HA.out.2.2.1 HA.out.2.2.2 x0 x1 x2 x3 EX.out.1 EX.out.2.1 EX.out.2.2.1 EX.out.2.2.2).mono ?_
  rintro e v1 ⟨rfl, p1⟩
  have B1 : Hid ((v1.alloc (.cells #[.int .i64 x0, .int .i64 x1, .int .i64 x2, .int .i64 x3] 23 (0, 0))).heap[w.heap.size]? = some (.cells #[.int .u8 a0, .int .u8 a1, .int .u8 a2, .int .u8 a3] 36 (0, 0)) ∧ (v1.alloc (.cells #[.int .i64 x0, .int .i64 x1, .int .i64 x2, .int .i64 x3] 23 (0, 0))).heap[w.heap.size + 1]? = some (.cells #[.int .u8 b0, .int .u8 b1, .int .u8 b2, .int .u8 b3] 36 (0, 0)) ∧ (v1.alloc (.cells #[.int .i64 x0, .int .i64 x1, .int .i64 x2, .int .i64 x3] 23 (0, 0))).heap[v1.heap.size]? = some (.cells #[.int .i64 x0, .int .i64 x1, .int .i64 x2, .int .i64 x3] 23 (0, 0)) ∧ Below w.heap.size w (v1.alloc (.cells #[.int .i64 x0, .int .i64 x1, .int .i64 x2, .int .i64 x3] 23 (0, 0)))) := ⟨(keepAt (keepAt B0.out.1 p1) ((Below.refl _ _).alloc (Nat.le_refl _) _)), (keepAt (keepAt B0.out.2.1 p1) ((Below.refl _ _).alloc (Nat.le_refl _) _)), (heap_alloc_new v1 (.cells #[.int .i64 x0, .int .i64 x1, .int .i64 x2, .int .i64 x3] 23 (0, 0))), (chain (chain B0.out.2.2 p1) ((Below.refl _ _).alloc (Nat.le_refl _) _))⟩
  clear p1 B0
  have g1_0 := at36_0 B1.out.2.1
  have g1_1 := at36_1 B1.out.2.1
  have g1_2 := at36_2 B1.out.2.1
  have g1_3 := at36_3 B1.out.2.1
  go_wp2_with fail
  refine (held_m b0 b1 b2 b3 _ HB.out.1 HB.out.2.1 HB.out.2.2.1 HB.out.2.2.2 y0 y1 y2 y3 EY.out.1 EY.out.2.1 EY.out.2.2.1 EY.out.2.2.2).mono ?_
  rintro e v2 ⟨rfl, p2⟩
  clear g1_0 g1_1 g1_2 g1_3
  have B2 : Hid ((v2.alloc (.cells #[.int .i64 y0, .int .i64 y1, .int .i64 y2, .int .i64 y3] 23 (0, 0))).heap[w.heap.size]? = some (.cells #[.int .u8 a0, .int .u8 a1, .int .u8 a2, .int .u8 a3] 36 (0, 0)) ∧ (v2.alloc (.cells #[.int .i64 y0, .int .i64 y1, .int .i64 y2, .int .i64 y3] 23 (0, 0))).heap[w.heap.size + 1]? = some (.cells #[.int .u8 b0, .int .u8 b1, .int .u8 b2, .int .u8 b3] 36 (0, 0)) ∧ (v2.alloc (.cells #[.int .i64 y0, .int .i64 y1, .int .i64 y2, .int .i64 y3] 23 (0, 0))).heap[v1.heap.size]? = some (.cells #[.int .i64 x0, .int .i64 x1, .int .i64 x2, .int .i64 x3] 23 (0, 0)) ∧ (v2.alloc (.cells #[.int .i64 y0, .int .i64 y1, .int .i64 y2, .int .i64 y3] 23 (0, 0))).heap[v2.heap.size]? = some (.cells #[.int .i64 y0, .int .i64 y1, .int .i64 y2, .int .i64 y3] 23 (0, 0)) ∧ Below w.heap.size w (v2.alloc (.cells #[.int .i64 y0, .int .i64 y1, .int .i64 y2, .int .i64 y3] 23 (0, 0)))) := ⟨(keepAt (keepAt B1.out.1 p2) ((Below.refl _ _).alloc (Nat.le_refl _) _)), (keepAt (keepAt B1.out.2.1 p2) ((Below.refl _ _).alloc (Nat.le_refl _) _)), (keepAt (keepAt B1.out.2.2.1 p2) ((Below.refl _ _).alloc (Nat.le_refl _) _)), (heap_alloc_new v2 (.cells #[.int .i64 y0, .int .i64 y1, .int .i64 y2, .int .i64 y3] 23 (0, 0))), (chain (chain B1.out.2.2.2 p2) ((Below.refl _ _).alloc (Nat.le_refl _) _))⟩
  clear p2 B1
  have g2_0 := at23_0 B2.out.2.2.1
  have g2_1 := at23_1 B2.out.2.2.1
  have g2_2 := at23_2 B2.out.2.2.1
  have g2_3 := at23_3 B2.out.2.2.1
  have g3_0 := at23_0 B2.out.2.2.2.1
  have g3_1 := at23_1 B2.out.2.2.2.1
  have g3_2 := at23_2 B2.out.2.2.2.1
  have g3_3 := at23_3 B2.out.2.2.2.1
  go_wp2_with fail
  refine (div_t y0 y1 y2 y3 x0 x1 x2 x3 _ ⟨SY.out.may, SX.out.may⟩ t HT.out).mono ?_
  rintro e v3 ⟨⟨d0, d1, d2, d3, rfl⟩, p3⟩
  clear g2_0 g2_1 g2_2 g2_3 g3_0 g3_1 g3_2 g3_3
  have B3 : Hid ((v3.alloc (.cells #[.int .i64 d0, .int .i64 d1, .int .i64 d2, .int .i64 d3] 23 (0, 0))).heap[w.heap.size]? = some (.cells #[.int .u8 a0, .int .u8 a1, .int .u8 a2, .int .u8 a3] 36 (0, 0)) ∧ (v3.alloc (.cells #[.int .i64 d0, .int .i64 d1, .int .i64 d2, .int .i64 d3] 23 (0, 0))).heap[w.heap.size + 1]? = some (.cells #[.int .u8 b0, .int .u8 b1, .int .u8 b2, .int .u8 b3] 36 (0, 0)) ∧ (v3.alloc (.cells #[.int .i64 d0, .int .i64 d1, .int .i64 d2, .int .i64 d3] 23 (0, 0))).heap[v1.heap.size]? = some (.cells #[.int .i64 x0, .int .i64 x1, .int .i64 x2, .int .i64 x3] 23 (0, 0)) ∧ (v3.alloc (.cells #[.int .i64 d0, .int .i64 d1, .int .i64 d2, .int .i64 d3] 23 (0, 0))).heap[v2.heap.size]? = some (.cells #[.int .i64 y0, .int .i64 y1, .int .i64 y2, .int .i64 y3] 23 (0, 0)) ∧ (v3.alloc (.cells #[.int .i64 d0, .int .i64 d1, .int .i64 d2, .int .i64 d3] 23 (0, 0))).heap[v3.heap.size]? = some (.cells #[.int .i64 d0, .int .i64 d1, .int .i64 d2, .int .i64 d3] 23 (0, 0)) ∧ Below w.heap.size w (v3.alloc (.cells #[.int .i64 d0, .int .i64 d1, .int .i64 d2, .int .i64 d3] 23 (0, 0)))) := ⟨(keepAt (keepAt B2.out.1 p3) ((Below.refl _ _).alloc (Nat.le_refl _) _)), (keepAt (keepAt B2.out.2.1 p3) ((Below.refl _ _).alloc (Nat.le_refl _) _)), (keepAt (keepAt B2.out.2.2.1 p3) ((Below.refl _ _).alloc (Nat.le_refl _) _)), (keepAt (keepAt B2.out.2.2.2.1 p3) ((Below.refl _ _).alloc (Nat.le_refl _) _)), (heap_alloc_new v3 (.cells #[.int .i64 d0, .int .i64 d1, .int .i64 d2, .int .i64 d3] 23 (0, 0))), (chain (chain B2.out.2.2.2.2 p3) ((Below.refl _ _).alloc (Nat.le_refl _) _))⟩
  clear p3 B2
  have g2_0 := at23_0 B3.out.2.2.1
  have g2_1 := at23_1 B3.out.2.2.1
  have g2_2 := at23_2 B3.out.2.2.1
  have g2_3 := at23_3 B3.out.2.2.1
  have g3_0 := at23_0 B3.out.2.2.2.1
  have g3_1 := at23_1 B3.out.2.2.2.1
  have g3_2 := at23_2 B3.out.2.2.2.1
  have g3_3 := at23_3 B3.out.2.2.2.1
  go_wp2_with fail
  refine (div_t x0 x1 x2 x3 y0 y1 y2 y3 _ ⟨SX.out.may, SY.out.may⟩ s HS.out).mono ?_
  rintro e v4 ⟨⟨f0, f1, f2, f3, rfl⟩, p4⟩
  clear g2_0 g2_1 g2_2 g2_3 g3_0 g3_1 g3_2 g3_3
  have B4 : Hid ((v4.alloc (.cells #[.int .i64 f0, .int .i64 f1, .int .i64 f2, .int .i64 f3] 23 (0, 0))).heap[w.heap.size]? = some (.cells #[.int .u8 a0, .int .u8 a1, .int .u8 a2, .int .u8 a3] 36 (0, 0)) ∧ (v4.alloc (.cells #[.int .i64 f0, .int .i64 f1, .int .i64 f2, .int .i64 f3] 23 (0, 0))).heap[w.heap.size + 1]? = some (.cells #[.int .u8 b0, .int .u8 b1, .int .u8 b2, .int .u8 b3] 36 (0, 0)) ∧ (v4.alloc (.cells #[.int .i64 f0, .int .i64 f1, .int .i64 f2, .int .i64 f3] 23 (0, 0))).heap[v1.heap.size]? = some (.cells #[.int .i64 x0, .int .i64 x1, .int .i64 x2, .int .i64 x3] 23 (0, 0)) ∧ (v4.alloc (.cells #[.int .i64 f0, .int .i64 f1, .int .i64 f2, .int .i64 f3] 23 (0, 0))).heap[v2.heap.size]? = some (.cells #[.int .i64 y0, .int .i64 y1, .int .i64 y2, .int .i64 y3] 23 (0, 0)) ∧ (v4.alloc (.cells #[.int .i64 f0, .int .i64 f1, .int .i64 f2, .int .i64 f3] 23 (0, 0))).heap[v3.heap.size]? = some (.cells #[.int .i64 d0, .int .i64 d1, .int .i64 d2, .int .i64 d3] 23 (0, 0)) ∧ (v4.alloc (.cells #[.int .i64 f0, .int .i64 f1, .int .i64 f2, .int .i64 f3] 23 (0, 0))).heap[v4.heap.size]? = some (.cells #[.int .i64 f0, .int .i64 f1, .int .i64 f2, .int .i64 f3] 23 (0, 0)) ∧ Below w.heap.size w (v4.alloc (.cells #[.int .i64 f0, .int .i64 f1, .int .i64 f2, .int .i64 f3] 23 (0, 0)))) := ⟨(keepAt (keepAt B3.out.1 p4) ((Below.refl _ _).alloc (Nat.le_refl _) _)), (keepAt (keepAt B3.out.2.1 p4) ((Below.refl _ _).alloc (Nat.le_refl _) _)), (keepAt (keepAt B3.out.2.2.1 p4) ((Below.refl _ _).alloc (Nat.le_refl _) _)), (keepAt (keepAt B3.out.2.2.2.1 p4) ((Below.refl _ _).alloc (Nat.le_refl _) _)), (keepAt (keepAt B3.out.2.2.2.2.1 p4) ((Below.refl _ _).alloc (Nat.le_refl _) _)), (heap_alloc_new v4 (.cells #[.int .i64 f0, .int .i64 f1, .int .i64 f2, .int .i64 f3] 23 (0, 0))), (chain (chain B3.out.2.2.2.2.2 p4) ((Below.refl _ _).alloc (Nat.le_refl _) _))⟩
  clear p4 B3
  cases t <;> cases s
  all_goals
    go_wp2_with fail
    have r2_0 : ∀ n : Wd ((v4.alloc (.cells #[.int .i64 f0, .int .i64 f1, .int .i64 f2, .int .i64 f3] 23 (0, 0)))), n.w.cell? ⟨v1.heap.size, 0, none⟩ = some (.int .i64 x0) := fun n => at23_0 (n.at B4.out.2.2.1)
    have r2_1 : ∀ n : Wd ((v4.alloc (.cells #[.int .i64 f0, .int .i64 f1, .int .i64 f2, .int .i64 f3] 23 (0, 0)))), n.w.cell? ⟨v1.heap.size, 1, none⟩ = some (.int .i64 x1) := fun n => at23_1 (n.at B4.out.2.2.1)
    have r2_2 : ∀ n : Wd ((v4.alloc (.cells #[.int .i64 f0, .int .i64 f1, .int .i64 f2, .int .i64 f3] 23 (0, 0)))), n.w.cell? ⟨v1.heap.size, 2, none⟩ = some (.int .i64 x2) := fun n => at23_2 (n.at B4.out.2.2.1)
    have r2_3 : ∀ n : Wd ((v4.alloc (.cells #[.int .i64 f0, .int .i64 f1, .int .i64 f2, .int .i64 f3] 23 (0, 0)))), n.w.cell? ⟨v1.heap.size, 3, none⟩ = some (.int .i64 x3) := fun n => at23_3 (n.at B4.out.2.2.1)
    have r3_0 : ∀ n : Wd ((v4.alloc (.cells #[.int .i64 f0, .int .i64 f1, .int .i64 f2, .int .i64 f3] 23 (0, 0)))), n.w.cell? ⟨v2.heap.size, 0, none⟩ = some (.int .i64 y0) := fun n => at23_0 (n.at B4.out.2.2.2.1)
    have r3_1 : ∀ n : Wd ((v4.alloc (.cells #[.int .i64 f0, .int .i64 f1, .int .i64 f2, .int .i64 f3] 23 (0, 0)))), n.w.cell? ⟨v2.heap.size, 1, none⟩ = some (.int .i64 y1) := fun n => at23_1 (n.at B4.out.2.2.2.1)
    have r3_2 : ∀ n : Wd ((v4.alloc (.cells #[.int .i64 f0, .int .i64 f1, .int .i64 f2, .int .i64 f3] 23 (0, 0)))), n.w.cell? ⟨v2.heap.size, 2, none⟩ = some (.int .i64 y2) := fun n => at23_2 (n.at B4.out.2.2.2.1)
    have r3_3 : ∀ n : Wd ((v4.alloc (.cells #[.int .i64 f0, .int .i64 f1, .int .i64 f2, .int .i64 f3] 23 (0, 0)))), n.w.cell? ⟨v2.heap.size, 3, none⟩ = some (.int .i64 y3) := fun n => at23_3 (n.at B4.out.2.2.2.1)
    have wne : Nonempty (Wd ((v4.alloc (.cells #[.int .i64 f0, .int .i64 f1, .int .i64 f2, .int .i64 f3] 23 (0, 0))))) := ⟨⟨_, Below.refl _ _⟩⟩
    refine region_wd (by kernel_rfl) (by kernel_rfl) ?_
    repeat (go_big_quiet_step ((first
      | (go_at_call 17; (with_reducible change Calls Try.prog 17 #[.agg #[.int .i64 x0, .int .i64 x1, .int .i64 x2, .int .i64 x3], .agg #[.int .i64 y0, .int .i64 y1, .int .i64 y2, .int .i64 y3]] _ _); exact wd_of (lcm_val x0 x1 x2 x3 y0 y1 y2 y3 l0 l1 l2 l3 _ ⟨SX.out.may, SY.out.may⟩ EL.out.1 EL.out.2.1 EL.out.2.2.1 EL.out.2.2.2))
      | (go_at_call 17; (with_reducible change Calls Try.prog 17 #[.agg #[.int .i64 y0, .int .i64 y1, .int .i64 y2, .int .i64 y3], .agg #[.int .i64 x0, .int .i64 x1, .int .i64 x2, .int .i64 x3]] _ _); exact wd_of (lcm_val y0 y1 y2 y3 x0 x1 x2 x3 l0 l1 l2 l3 _ ⟨SY.out.may, SX.out.may⟩ (by rw [Int.max_comm]; exact EL.out.1) (by rw [Int.max_comm]; exact EL.out.2.1) (by rw [Int.max_comm]; exact EL.out.2.2.1) (by rw [Int.max_comm]; exact EL.out.2.2.2)))
      | (go_at_call 17; (with_reducible change Calls Try.prog 17 #[.agg #[.int .i64 x0, .int .i64 x1, .int .i64 x2, .int .i64 x3], .agg #[.int .i64 x0, .int .i64 x1, .int .i64 x2, .int .i64 x3]] _ _); exact wd_of (lcm_val x0 x1 x2 x3 x0 x1 x2 x3 x0 x1 x2 x3 _ ⟨SX.out.may, SX.out.may⟩ (by simp) (by simp) (by simp) (by simp)))
      | (go_at_call 23; exact wd_of (shown_m _)))))
    refine wpQuiet_nil ?_
    intro _ hw
    obtain ⟨nq, hq⟩ := hw
    subst hq
    have HZ : Hid (Below w.heap.size w nq.w) := chain B4.out.2.2.2.2.2.2 nq.h
    clear wne r2_0 r2_1 r2_2 r2_3 r3_0 r3_1 r3_2 r3_3
    go_wp2
    go_ret
    exact ⟨rfl, HZ.out⟩

set_option maxRecDepth 100000 in
theorem lifted (os : Os) (started : os.Started) (H : Type) (enc : TypeId × Value → H) :
    ReturnsInHanded {} Try.checked os 8 .any (Rows.monoDividesSpec.pre6 enc Try.prog Try.f8 Rows.monoDividesRow.domain false) (Rows.monoDividesSpec.post enc Try.prog Try.f8 false true false false) := by
  refine returnsInHanded_of_change (C := Try.checked) own started (by kernel_rfl) Try.func8
    (ChangeSpec.witness6 (enc := enc) (C := Try.checked) false ⟨#[], #[.agg #[.int .u8 0, .int .u8 0, .int .u8 0, .int .u8 0], .agg #[.int .u8 0, .int .u8 0, .int .u8 0, .int .u8 0]], []⟩ 8 (by kernel_rfl) (by kernel_rfl) (by kernel_rfl) (by kernel_rfl)) ?_
  intro W base args ds gs before hval0 hW hcnd _
  have hval : ∀ (j : Nat) t v, Try.f8.params[j]? = some t → args[j]? = some v → Value.okWide Try.prog W .any base t v := hval0
  have hW' := hW
  obtain ⟨p, q, hA0, hV, rfl, hfz, hnd⟩ := hW
  have hA : DataW.TrodAll enc Try.prog W 0 (fun _ => true) true Try.f8.params.toList args.toList ds p := hA0
  rw [Try.params8] at hA hval
  obtain ⟨v0, vs0, d0, ds0, p0, q0, hargs0, rfl, rfl, h0, r0⟩ := trodAll_cons hA
  obtain ⟨v1, vs1, d1, ds1, p1, q1, hargs1, rfl, rfl, h1, r1⟩ := trodAll_cons r0
  obtain ⟨rfl, rfl, rfl⟩ := trodAll_nil r1
  obtain rfl : args = #[v0, v1] := by cases args; simp_all
  obtain ⟨rfl, rfl⟩ := trodVars_none hV
  obtain ⟨a0, a1, a2, a3, rfl, rfl, rfl, wa0, wa1, wa2, wa3⟩ := open_u4 (hval 0 36 v0 rfl rfl) h0
  obtain ⟨b0, b1, b2, b3, rfl, rfl, rfl, wb0, wb1, wb2, wb3⟩ := open_u4 (hval 1 36 v1 rfl rfl) h1
  clear hA0 hval0
  refine (walk a0 a1 a2 a3 b0 b1 b2 b3 W (bounds_u8 wa0) (bounds_u8 wa1) (bounds_u8 wa2) (bounds_u8 wa3) (bounds_u8 wb0) (bounds_u8 wb1) (bounds_u8 wb2) (bounds_u8 wb3)).mono fun e W' ⟨he, hg⟩ => ?_
  subst he
  exact ⟨_, rfl, _, _, _, [], _, [], hW', trodAll_mk1 (shut_bool Try.underlying4 _), (trodAll_cons_mk (shut_u4 wa0 wa1 wa2 wa3) (trodAll_cons_mk (shut_u4 wb0 wb1 wb2 wb3) trodAll_mk0)), rfl, hg.frame _, fun h => by cases h⟩

theorem over : Rows.monoDividesRow.holds Try.pinned (OpenSpec.ofChange Rows.monoDividesSpec) :=
  OpenClaim.holds_of_wide 8 Try.f8 rfl rfl rfl rfl rfl rfl rfl ⟨rfl, rfl, rfl, rfl, rfl⟩ rfl rfl rfl rfl rfl (by kernel_rfl) Try.func8 (by kernel_rfl)
    (of_decide_eq_true (by kernel_rfl)) (by unfold Func.isWrapper; first | (rw [if_pos (by decide +kernel)]; kernel_rfl) | (rw [if_neg (by decide +kernel)]; exact ⟨rfl, rfl⟩))
    (fun os started H enc _ => lifted os started H enc)

theorem proved : Rows.MonoDividesSaid :=
  over
#print axioms proved
end Go.Proofs.Ytjecibpeahjenaa.monoDivides
