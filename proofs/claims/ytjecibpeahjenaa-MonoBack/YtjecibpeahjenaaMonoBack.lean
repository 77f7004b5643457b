/-
  Proved here: for every input MonoBack returns true, and leaves its arguments as they were. No condition.
-/
import Derived.Test.YtjecibpeahjenaaMQ
namespace Go.Proofs.Ytjecibpeahjenaa.monoBack
open Go.ChangeShapes Go.WideShapes Go.ChangeAt Go.RowKit

theorem iff_yes {p : Prop} (h : p) : true = true ↔ p := ⟨fun _ => h, fun _ => rfl⟩
theorem div_val (a b c d p q r s x y z u : Int) (w : World) (h : Both a b c d p q r s) (hm : May4 x y z u) (hx : a = x + p) (hy : b = y + q) (hz : c = z + r) (hu : d = u + s) :
    Calls Try.prog 11 #[.agg #[.int .i64 a, .int .i64 b, .int .i64 c, .int .i64 d], .agg #[.int .i64 p, .int .i64 q, .int .i64 r, .int .i64 s]] w fun e w' => e = .returned (.tuple #[.agg #[.int .i64 x, .int .i64 y, .int .i64 z, .int .i64 u], .bool true]) ∧ Below w.heap.size w w' := by
  have e1 : a - p = x := by omega
  have e2 : b - q = y := by omega
  have e3 : c - r = z := by omega
  have e4 : d - s = u := by omega
  have := div_ok a b c d p q r s w h (by rw [e1, e2, e3, e4]; exact hm)
  rwa [e1, e2, e3, e4] at this
theorem deg_val (a b c d n : Int) (w : World) (h : May4 a b c d) (hn : n = a + b + c + d) :
    Calls Try.prog 15 #[.agg #[.int .i64 a, .int .i64 b, .int .i64 c, .int .i64 d]] w fun e w' => e = .returned (.int .i64 n) ∧ Below w.heap.size w w' := by
  rw [hn]
  exact deg_ok a b c d w h
/-- What is known of the product and of the least that both divide. -/
structure Facts (x0 x1 x2 x3 y0 y1 y2 y3 l0 l1 l2 l3 p0 p1 p2 p3 : Int) : Prop where
  p : May4 p0 p1 p2 p3
  l : May4 l0 l1 l2 l3
  lx : May4 (l0 - x0) (l1 - x1) (l2 - x2) (l3 - x3)
  ly : May4 (l0 - y0) (l1 - y1) (l2 - y2) (l3 - y3)
  pl : May4 (p0 - l0) (p1 - l1) (p2 - l2) (p3 - l3)
theorem facts_of {x0 x1 x2 x3 y0 y1 y2 y3 l0 l1 l2 l3 p0 p1 p2 p3 : Int} (hx : Sm x0 x1 x2 x3) (hy : Sm y0 y1 y2 y3) (l0e : l0 = max x0 y0) (l1e : l1 = max x1 y1) (l2e : l2 = max x2 y2) (l3e : l3 = max x3 y3) (p0e : p0 = x0 + y0) (p1e : p1 = x1 + y1) (p2e : p2 = x2 + y2) (p3e : p3 = x3 + y3) : Facts x0 x1 x2 x3 y0 y1 y2 y3 l0 l1 l2 l3 p0 p1 p2 p3 := by
  obtain ⟨h1, h2, h3, h4, h5, h6, h7, h8⟩ := hx
  obtain ⟨g1, g2, g3, g4, g5, g6, g7, g8⟩ := hy
  exact ⟨⟨⟨by omega, by omega⟩, ⟨by omega, by omega⟩, ⟨by omega, by omega⟩, ⟨by omega, by omega⟩⟩, ⟨⟨by omega, by omega⟩, ⟨by omega, by omega⟩, ⟨by omega, by omega⟩, ⟨by omega, by omega⟩⟩, ⟨⟨by omega, by omega⟩, ⟨by omega, by omega⟩, ⟨by omega, by omega⟩, ⟨by omega, by omega⟩⟩, ⟨⟨by omega, by omega⟩, ⟨by omega, by omega⟩, ⟨by omega, by omega⟩, ⟨by omega, by omega⟩⟩, ⟨⟨by omega, by omega⟩, ⟨by omega, by omega⟩, ⟨by omega, by omega⟩, ⟨by omega, by omega⟩⟩⟩
theorem apart_of {x0 x1 x2 x3 y0 y1 y2 y3 l0 l1 l2 l3 p0 p1 p2 p3 : Int} {t : Bool} (hx : Sm x0 x1 x2 x3) (hy : Sm y0 y1 y2 y3) (l0e : l0 = max x0 y0) (l1e : l1 = max x1 y1) (l2e : l2 = max x2 y2) (l3e : l3 = max x3 y3) (p0e : p0 = x0 + y0) (p1e : p1 = x1 + y1) (p2e : p2 = x2 + y2) (p3e : p3 = x3 + y3) (h : t = eqB l0 l1 l2 l3 p0 p1 p2 p3) : t = true ↔ Apart x0 x1 x2 x3 y0 y1 y2 y3 := by
  obtain ⟨h1, h2, h3, h4, h5, h6, h7, h8⟩ := hx
  obtain ⟨g1, g2, g3, g4, g5, g6, g7, g8⟩ := hy
  rw [h, eqB_iff]
  constructor
  · rintro ⟨m1, m2, m3, m4⟩
    exact ⟨by omega, by omega, by omega, by omega⟩
  · rintro ⟨m1, m2, m3, m4⟩
    exact ⟨by omega, by omega, by omega, by omega⟩

set_option maxRecDepth 100000 in
set_option maxHeartbeats 8000000 in
theorem walk (a0 a1 a2 a3 b0 b1 b2 b3 : Int) (w : World) (ha0 : 0 ≤ a0 ∧ a0 ≤ 255) (ha1 : 0 ≤ a1 ∧ a1 ≤ 255) (ha2 : 0 ≤ a2 ∧ a2 ≤ 255) (ha3 : 0 ≤ a3 ∧ a3 ≤ 255) (hb0 : 0 ≤ b0 ∧ b0 ≤ 255) (hb1 : 0 ≤ b1 ∧ b1 ≤ 255) (hb2 : 0 ≤ b2 ∧ b2 ≤ 255) (hb3 : 0 ≤ b3 ∧ b3 ≤ 255) :
    Calls Try.prog 6 #[.agg #[.int .u8 a0, .int .u8 a1, .int .u8 a2, .int .u8 a3], .agg #[.int .u8 b0, .int .u8 b1, .int .u8 b2, .int .u8 b3]] w fun e w' => e = .returned (.bool true) ∧ Below w.heap.size w w' := by
  obtain ⟨x0, ex0⟩ : ∃ x0, x0 = a0 % 21 := ⟨_, rfl⟩
  obtain ⟨x1, ex1⟩ : ∃ x1, x1 = a1 % 21 := ⟨_, rfl⟩
  obtain ⟨x2, ex2⟩ : ∃ x2, x2 = a2 % 21 := ⟨_, rfl⟩
  obtain ⟨x3, ex3⟩ : ∃ x3, x3 = a3 % 21 := ⟨_, rfl⟩
  have SX : Hid (Sm x0 x1 x2 x3) := Sm.mod ex0 ex1 ex2 ex3
  have EX : Hid (x0 = a0 % 21 ∧ x1 = a1 % 21 ∧ x2 = a2 % 21 ∧ x3 = a3 % 21) := ⟨ex0, ex1, ex2, ex3⟩
  have HA : Hid ((0 ≤ a0 ∧ a0 ≤ 255) ∧ (0 ≤ a1 ∧ a1 ≤ 255) ∧ (0 ≤ a2 ∧ a2 ≤ 255) ∧ (0 ≤ a3 ∧ a3 ≤ 255)) := ⟨ha0, ha1, ha2, ha3⟩
  clear ex0 ha0 ex1 ha1 ex2 ha2 ex3 ha3
  obtain ⟨y0, ey0⟩ : ∃ y0, y0 = b0 % 21 := ⟨_, rfl⟩
  obtain ⟨y1, ey1⟩ : ∃ y1, y1 = b1 % 21 := ⟨_, rfl⟩
  obtain ⟨y2, ey2⟩ : ∃ y2, y2 = b2 % 21 := ⟨_, rfl⟩
  obtain ⟨y3, ey3⟩ : ∃ y3, y3 = b3 % 21 := ⟨_, rfl⟩
  have SY : Hid (Sm y0 y1 y2 y3) := Sm.mod ey0 ey1 ey2 ey3
  have EY : Hid (y0 = b0 % 21 ∧ y1 = b1 % 21 ∧ y2 = b2 % 21 ∧ y3 = b3 % 21) := ⟨ey0, ey1, ey2, ey3⟩
  have HB : Hid ((0 ≤ b0 ∧ b0 ≤ 255) ∧ (0 ≤ b1 ∧ b1 ≤ 255) ∧ (0 ≤ b2 ∧ b2 ≤ 255) ∧ (0 ≤ b3 ∧ b3 ≤ 255)) := ⟨hb0, hb1, hb2, hb3⟩
  clear ey0 hb0 ey1 hb1 ey2 hb2 ey3 hb3
  obtain ⟨l0, el0⟩ : ∃ l0, l0 = max x0 y0 := ⟨_, rfl⟩
  obtain ⟨l1, el1⟩ : ∃ l1, l1 = max x1 y1 := ⟨_, rfl⟩
  obtain ⟨l2, el2⟩ : ∃ l2, l2 = max x2 y2 := ⟨_, rfl⟩
  obtain ⟨l3, el3⟩ : ∃ l3, l3 = max x3 y3 := ⟨_, rfl⟩
  obtain ⟨p0, ep0⟩ : ∃ p0, p0 = x0 + y0 := ⟨_, rfl⟩
  obtain ⟨p1, ep1⟩ : ∃ p1, p1 = x1 + y1 := ⟨_, rfl⟩
  obtain ⟨p2, ep2⟩ : ∃ p2, p2 = x2 + y2 := ⟨_, rfl⟩
  obtain ⟨p3, ep3⟩ : ∃ p3, p3 = x3 + y3 := ⟨_, rfl⟩
  have EL : Hid (l0 = max x0 y0 ∧ l1 = max x1 y1 ∧ l2 = max x2 y2 ∧ l3 = max x3 y3) := ⟨el0, el1, el2, el3⟩
  have EP : Hid (p0 = x0 + y0 ∧ p1 = x1 + y1 ∧ p2 = x2 + y2 ∧ p3 = x3 + y3) := ⟨ep0, ep1, ep2, ep3⟩
  have F : Hid (Facts x0 x1 x2 x3 y0 y1 y2 y3 l0 l1 l2 l3 p0 p1 p2 p3) := facts_of SX.out SY.out el0 el1 el2 el3 ep0 ep1 ep2 ep3
  obtain ⟨t, ht⟩ : ∃ t, t = eqB l0 l1 l2 l3 p0 p1 p2 p3 := ⟨_, rfl⟩
  have HT : Hid (t = true ↔ Apart x0 x1 x2 x3 y0 y1 y2 y3) := apart_of SX.out SY.out el0 el1 el2 el3 ep0 ep1 ep2 ep3 ht
  have q1 := eq_val l0 l1 l2 l3 p0 p1 p2 p3 t ht
  have q2 := eq_val x0 x1 x2 x3 x0 x1 x2 x3 true (eqB_self _ _ _ _)
  obtain ⟨dx, edx⟩ : ∃ dx, dx = x0 + x1 + x2 + x3 := ⟨_, rfl⟩
  have Hdx : Hid (dx = x0 + x1 + x2 + x3) := edx
  obtain ⟨dy, edy⟩ : ∃ dy, dy = y0 + y1 + y2 + y3 := ⟨_, rfl⟩
  have Hdy : Hid (dy = y0 + y1 + y2 + y3) := edy
  obtain ⟨dp, edp⟩ : ∃ dp, dp = p0 + p1 + p2 + p3 := ⟨_, rfl⟩
  have Hdp : Hid (dp = p0 + p1 + p2 + p3) := edp
  have x0b := SX.out.x0; have x1b := SX.out.x1; have x2b := SX.out.y0; have x3b := SX.out.y1; have x4b := SX.out.z0; have x5b := SX.out.z1; have x6b := SX.out.u0; have x7b := SX.out.u1
  have y0b := SY.out.x0; have y1b := SY.out.x1; have y2b := SY.out.y0; have y3b := SY.out.y1; have y4b := SY.out.z0; have y5b := SY.out.z1; have y6b := SY.out.u0; have y7b := SY.out.u1
  have gx : 0 ≤ dx := by omega
  have gX : dx ≤ 80 := by omega
  have gy : 0 ≤ dy := by omega
  have gY : dy ≤ 80 := by omega
  have gp : (dp == dx + dy) = true := by rw [beq_iff_eq]; omega
  clear x0b x1b x2b x3b x4b x5b x6b x7b y0b y1b y2b y3b y4b y5b y6b y7b edx edy edp ht el0 el1 el2 el3 ep0 ep1 ep2 ep3
  have B0 : Hid (((w.alloc (.cells #[.int .u8 a0, .int .u8 a1, .int .u8 a2, .int .u8 a3] 36 (0, 0))).alloc (.cells #[.int .u8 b0, .int .u8 b1, .int .u8 b2, .int .u8 b3] 36 (0, 0))).heap[w.heap.size]? = some (.cells #[.int .u8 a0, .int .u8 a1, .int .u8 a2, .int .u8 a3] 36 (0, 0)) ∧ ((w.alloc (.cells #[.int .u8 a0, .int .u8 a1, .int .u8 a2, .int .u8 a3] 36 (0, 0))).alloc (.cells #[.int .u8 b0, .int .u8 b1, .int .u8 b2, .int .u8 b3] 36 (0, 0))).heap[w.heap.size + 1]? = some (.cells #[.int .u8 b0, .int .u8 b1, .int .u8 b2, .int .u8 b3] 36 (0, 0)) ∧ Below w.heap.size w ((w.alloc (.cells #[.int .u8 a0, .int .u8 a1, .int .u8 a2, .int .u8 a3] 36 (0, 0))).alloc (.cells #[.int .u8 b0, .int .u8 b1, .int .u8 b2, .int .u8 b3] 36 (0, 0)))) := ⟨(keepAt (show (w.alloc (.cells #[.int .u8 a0, .int .u8 a1, .int .u8 a2, .int .u8 a3] 36 (0, 0))).heap[w.heap.size]? = some (.cells #[.int .u8 a0, .int .u8 a1, .int .u8 a2, .int .u8 a3] 36 (0, 0)) by have h := heap_alloc_new w (.cells #[.int .u8 a0, .int .u8 a1, .int .u8 a2, .int .u8 a3] 36 (0, 0)); simpa using h) ((Below.refl _ _).alloc (Nat.le_refl _) _)), (show ((w.alloc (.cells #[.int .u8 a0, .int .u8 a1, .int .u8 a2, .int .u8 a3] 36 (0, 0))).alloc (.cells #[.int .u8 b0, .int .u8 b1, .int .u8 b2, .int .u8 b3] 36 (0, 0))).heap[w.heap.size + 1]? = some (.cells #[.int .u8 b0, .int .u8 b1, .int .u8 b2, .int .u8 b3] 36 (0, 0)) by have h := heap_alloc_new (w.alloc (.cells #[.int .u8 a0, .int .u8 a1, .int .u8 a2, .int .u8 a3] 36 (0, 0))) (.cells #[.int .u8 b0, .int .u8 b1, .int .u8 b2, .int .u8 b3] 36 (0, 0)); simpa using h), (Below.alloc (Below.alloc (Below.refl _ _) (by go_size) _) (by go_size) _)⟩
  go_enter Try.func6, Try.ntmps6
  go_wp2_with fail
  refine (held_m a0 a1 a2 a3 _ HA.out.1 HA.out.2.1 HA.out.2.2.1 HA.out.2.2.2 x0 x1 x2 x3 EX.out.1 EX.out.2.1 EX.out.2.2.1 EX.out.2.2.2).mono ?_
  rintro e v1 ⟨rfl, bel1⟩
  have B1 : Hid ((v1.alloc (.cells #[.int .i64 x0, .int .i64 x1, .int .i64 x2, .int .i64 x3] 23 (0, 0))).heap[w.heap.size]? = some (.cells #[.int .u8 a0, .int .u8 a1, .int .u8 a2, .int .u8 a3] 36 (0, 0)) ∧ (v1.alloc (.cells #[.int .i64 x0, .int .i64 x1, .int .i64 x2, .int .i64 x3] 23 (0, 0))).heap[w.heap.size + 1]? = some (.cells #[.int .u8 b0, .int .u8 b1, .int .u8 b2, .int .u8 b3] 36 (0, 0)) ∧ (v1.alloc (.cells #[.int .i64 x0, .int .i64 x1, .int .i64 x2, .int .i64 x3] 23 (0, 0))).heap[v1.heap.size]? = some (.cells #[.int .i64 x0, .int .i64 x1, .int .i64 x2, .int .i64 x3] 23 (0, 0)) ∧ Below w.heap.size w (v1.alloc (.cells #[.int .i64 x0, .int .i64 x1, .int .i64 x2, .int .i64 x3] 23 (0, 0)))) := ⟨(keepAt (keepAt B0.out.1 bel1) ((Below.refl _ _).alloc (Nat.le_refl _) _)), (keepAt (keepAt B0.out.2.1 bel1) ((Below.refl _ _).alloc (Nat.le_refl _) _)), (heap_alloc_new v1 (.cells #[.int .i64 x0, .int .i64 x1, .int .i64 x2, .int .i64 x3] 23 (0, 0))), (chain (chain B0.out.2.2 bel1) ((Below.refl _ _).alloc (Nat.le_refl _) _))⟩
  clear bel1 B0
  have g1_0 := at36_0 B1.out.2.1
  have g1_1 := at36_1 B1.out.2.1
  have g1_2 := at36_2 B1.out.2.1
  have g1_3 := at36_3 B1.out.2.1
  go_wp2_with fail
  refine (held_m b0 b1 b2 b3 _ HB.out.1 HB.out.2.1 HB.out.2.2.1 HB.out.2.2.2 y0 y1 y2 y3 EY.out.1 EY.out.2.1 EY.out.2.2.1 EY.out.2.2.2).mono ?_
  rintro e v2 ⟨rfl, bel2⟩
  clear g1_0 g1_1 g1_2 g1_3
  have B2 : Hid ((v2.alloc (.cells #[.int .i64 y0, .int .i64 y1, .int .i64 y2, .int .i64 y3] 23 (0, 0))).heap[w.heap.size]? = some (.cells #[.int .u8 a0, .int .u8 a1, .int .u8 a2, .int .u8 a3] 36 (0, 0)) ∧ (v2.alloc (.cells #[.int .i64 y0, .int .i64 y1, .int .i64 y2, .int .i64 y3] 23 (0, 0))).heap[w.heap.size + 1]? = some (.cells #[.int .u8 b0, .int .u8 b1, .int .u8 b2, .int .u8 b3] 36 (0, 0)) ∧ (v2.alloc (.cells #[.int .i64 y0, .int .i64 y1, .int .i64 y2, .int .i64 y3] 23 (0, 0))).heap[v1.heap.size]? = some (.cells #[.int .i64 x0, .int .i64 x1, .int .i64 x2, .int .i64 x3] 23 (0, 0)) ∧ (v2.alloc (.cells #[.int .i64 y0, .int .i64 y1, .int .i64 y2, .int .i64 y3] 23 (0, 0))).heap[v2.heap.size]? = some (.cells #[.int .i64 y0, .int .i64 y1, .int .i64 y2, .int .i64 y3] 23 (0, 0)) ∧ Below w.heap.size w (v2.alloc (.cells #[.int .i64 y0, .int .i64 y1, .int .i64 y2, .int .i64 y3] 23 (0, 0)))) := ⟨(keepAt (keepAt B1.out.1 bel2) ((Below.refl _ _).alloc (Nat.le_refl _) _)), (keepAt (keepAt B1.out.2.1 bel2) ((Below.refl _ _).alloc (Nat.le_refl _) _)), (keepAt (keepAt B1.out.2.2.1 bel2) ((Below.refl _ _).alloc (Nat.le_refl _) _)), (heap_alloc_new v2 (.cells #[.int .i64 y0, .int .i64 y1, .int .i64 y2, .int .i64 y3] 23 (0, 0))), (chain (chain B1.out.2.2.2 bel2) ((Below.refl _ _).alloc (Nat.le_refl _) _))⟩
  clear bel2 B1
  have g2_0 := at23_0 B2.out.2.2.1
  have g2_1 := at23_1 B2.out.2.2.1
  have g2_2 := at23_2 B2.out.2.2.1
  have g2_3 := at23_3 B2.out.2.2.1
  have g3_0 := at23_0 B2.out.2.2.2.1
  have g3_1 := at23_1 B2.out.2.2.2.1
  have g3_2 := at23_2 B2.out.2.2.2.1
  have g3_3 := at23_3 B2.out.2.2.2.1
  go_wp2_with fail
  refine (mul_val x0 x1 x2 x3 y0 y1 y2 y3 p0 p1 p2 p3 _ ⟨SX.out.may, SY.out.may⟩ F.out.p EP.out.1 EP.out.2.1 EP.out.2.2.1 EP.out.2.2.2).mono ?_
  rintro e v3 ⟨rfl, bel3⟩
  clear g2_0 g2_1 g2_2 g2_3 g3_0 g3_1 g3_2 g3_3
  have B3 : Hid ((v3.alloc (.cells #[.int .i64 p0, .int .i64 p1, .int .i64 p2, .int .i64 p3] 23 (0, 0))).heap[w.heap.size]? = some (.cells #[.int .u8 a0, .int .u8 a1, .int .u8 a2, .int .u8 a3] 36 (0, 0)) ∧ (v3.alloc (.cells #[.int .i64 p0, .int .i64 p1, .int .i64 p2, .int .i64 p3] 23 (0, 0))).heap[w.heap.size + 1]? = some (.cells #[.int .u8 b0, .int .u8 b1, .int .u8 b2, .int .u8 b3] 36 (0, 0)) ∧ (v3.alloc (.cells #[.int .i64 p0, .int .i64 p1, .int .i64 p2, .int .i64 p3] 23 (0, 0))).heap[v1.heap.size]? = some (.cells #[.int .i64 x0, .int .i64 x1, .int .i64 x2, .int .i64 x3] 23 (0, 0)) ∧ (v3.alloc (.cells #[.int .i64 p0, .int .i64 p1, .int .i64 p2, .int .i64 p3] 23 (0, 0))).heap[v2.heap.size]? = some (.cells #[.int .i64 y0, .int .i64 y1, .int .i64 y2, .int .i64 y3] 23 (0, 0)) ∧ (v3.alloc (.cells #[.int .i64 p0, .int .i64 p1, .int .i64 p2, .int .i64 p3] 23 (0, 0))).heap[v3.heap.size]? = some (.cells #[.int .i64 p0, .int .i64 p1, .int .i64 p2, .int .i64 p3] 23 (0, 0)) ∧ Below w.heap.size w (v3.alloc (.cells #[.int .i64 p0, .int .i64 p1, .int .i64 p2, .int .i64 p3] 23 (0, 0)))) := ⟨(keepAt (keepAt B2.out.1 bel3) ((Below.refl _ _).alloc (Nat.le_refl _) _)), (keepAt (keepAt B2.out.2.1 bel3) ((Below.refl _ _).alloc (Nat.le_refl _) _)), (keepAt (keepAt B2.out.2.2.1 bel3) ((Below.refl _ _).alloc (Nat.le_refl _) _)), (keepAt (keepAt B2.out.2.2.2.1 bel3) ((Below.refl _ _).alloc (Nat.le_refl _) _)), (heap_alloc_new v3 (.cells #[.int .i64 p0, .int .i64 p1, .int .i64 p2, .int .i64 p3] 23 (0, 0))), (chain (chain B2.out.2.2.2.2 bel3) ((Below.refl _ _).alloc (Nat.le_refl _) _))⟩
  clear bel3 B2
  have g4_0 := at23_0 B3.out.2.2.2.2.1
  have g4_1 := at23_1 B3.out.2.2.2.2.1
  have g4_2 := at23_2 B3.out.2.2.2.2.1
  have g4_3 := at23_3 B3.out.2.2.2.2.1
  have g3_0 := at23_0 B3.out.2.2.2.1
  have g3_1 := at23_1 B3.out.2.2.2.1
  have g3_2 := at23_2 B3.out.2.2.2.1
  have g3_3 := at23_3 B3.out.2.2.2.1
  go_wp2_with fail
  refine (div_val p0 p1 p2 p3 y0 y1 y2 y3 x0 x1 x2 x3 _ ⟨F.out.p, SY.out.may⟩ SX.out.may EP.out.1 EP.out.2.1 EP.out.2.2.1 EP.out.2.2.2).mono ?_
  rintro e v4 ⟨rfl, bel4⟩
  clear g4_0 g4_1 g4_2 g4_3 g3_0 g3_1 g3_2 g3_3
  have B4 : Hid ((v4.alloc (.cells #[.int .i64 x0, .int .i64 x1, .int .i64 x2, .int .i64 x3] 23 (0, 0))).heap[w.heap.size]? = some (.cells #[.int .u8 a0, .int .u8 a1, .int .u8 a2, .int .u8 a3] 36 (0, 0)) ∧ (v4.alloc (.cells #[.int .i64 x0, .int .i64 x1, .int .i64 x2, .int .i64 x3] 23 (0, 0))).heap[w.heap.size + 1]? = some (.cells #[.int .u8 b0, .int .u8 b1, .int .u8 b2, .int .u8 b3] 36 (0, 0)) ∧ (v4.alloc (.cells #[.int .i64 x0, .int .i64 x1, .int .i64 x2, .int .i64 x3] 23 (0, 0))).heap[v1.heap.size]? = some (.cells #[.int .i64 x0, .int .i64 x1, .int .i64 x2, .int .i64 x3] 23 (0, 0)) ∧ (v4.alloc (.cells #[.int .i64 x0, .int .i64 x1, .int .i64 x2, .int .i64 x3] 23 (0, 0))).heap[v2.heap.size]? = some (.cells #[.int .i64 y0, .int .i64 y1, .int .i64 y2, .int .i64 y3] 23 (0, 0)) ∧ (v4.alloc (.cells #[.int .i64 x0, .int .i64 x1, .int .i64 x2, .int .i64 x3] 23 (0, 0))).heap[v3.heap.size]? = some (.cells #[.int .i64 p0, .int .i64 p1, .int .i64 p2, .int .i64 p3] 23 (0, 0)) ∧ (v4.alloc (.cells #[.int .i64 x0, .int .i64 x1, .int .i64 x2, .int .i64 x3] 23 (0, 0))).heap[v4.heap.size]? = some (.cells #[.int .i64 x0, .int .i64 x1, .int .i64 x2, .int .i64 x3] 23 (0, 0)) ∧ Below w.heap.size w (v4.alloc (.cells #[.int .i64 x0, .int .i64 x1, .int .i64 x2, .int .i64 x3] 23 (0, 0)))) := ⟨(keepAt (keepAt B3.out.1 bel4) ((Below.refl _ _).alloc (Nat.le_refl _) _)), (keepAt (keepAt B3.out.2.1 bel4) ((Below.refl _ _).alloc (Nat.le_refl _) _)), (keepAt (keepAt B3.out.2.2.1 bel4) ((Below.refl _ _).alloc (Nat.le_refl _) _)), (keepAt (keepAt B3.out.2.2.2.1 bel4) ((Below.refl _ _).alloc (Nat.le_refl _) _)), (keepAt (keepAt B3.out.2.2.2.2.1 bel4) ((Below.refl _ _).alloc (Nat.le_refl _) _)), (heap_alloc_new v4 (.cells #[.int .i64 x0, .int .i64 x1, .int .i64 x2, .int .i64 x3] 23 (0, 0))), (chain (chain B3.out.2.2.2.2.2 bel4) ((Below.refl _ _).alloc (Nat.le_refl _) _))⟩
  clear bel4 B3
  have g2_0 := at23_0 B4.out.2.2.1
  have g2_1 := at23_1 B4.out.2.2.1
  have g2_2 := at23_2 B4.out.2.2.1
  have g2_3 := at23_3 B4.out.2.2.1
  have g3_0 := at23_0 B4.out.2.2.2.1
  have g3_1 := at23_1 B4.out.2.2.2.1
  have g3_2 := at23_2 B4.out.2.2.2.1
  have g3_3 := at23_3 B4.out.2.2.2.1
  go_wp2_with fail
  refine (lcm_val x0 x1 x2 x3 y0 y1 y2 y3 l0 l1 l2 l3 _ ⟨SX.out.may, SY.out.may⟩ EL.out.1 EL.out.2.1 EL.out.2.2.1 EL.out.2.2.2).mono ?_
  rintro e v5 ⟨rfl, bel5⟩
  clear g2_0 g2_1 g2_2 g2_3 g3_0 g3_1 g3_2 g3_3
  have B5 : Hid ((v5.alloc (.cells #[.int .i64 l0, .int .i64 l1, .int .i64 l2, .int .i64 l3] 23 (0, 0))).heap[w.heap.size]? = some (.cells #[.int .u8 a0, .int .u8 a1, .int .u8 a2, .int .u8 a3] 36 (0, 0)) ∧ (v5.alloc (.cells #[.int .i64 l0, .int .i64 l1, .int .i64 l2, .int .i64 l3] 23 (0, 0))).heap[w.heap.size + 1]? = some (.cells #[.int .u8 b0, .int .u8 b1, .int .u8 b2, .int .u8 b3] 36 (0, 0)) ∧ (v5.alloc (.cells #[.int .i64 l0, .int .i64 l1, .int .i64 l2, .int .i64 l3] 23 (0, 0))).heap[v1.heap.size]? = some (.cells #[.int .i64 x0, .int .i64 x1, .int .i64 x2, .int .i64 x3] 23 (0, 0)) ∧ (v5.alloc (.cells #[.int .i64 l0, .int .i64 l1, .int .i64 l2, .int .i64 l3] 23 (0, 0))).heap[v2.heap.size]? = some (.cells #[.int .i64 y0, .int .i64 y1, .int .i64 y2, .int .i64 y3] 23 (0, 0)) ∧ (v5.alloc (.cells #[.int .i64 l0, .int .i64 l1, .int .i64 l2, .int .i64 l3] 23 (0, 0))).heap[v3.heap.size]? = some (.cells #[.int .i64 p0, .int .i64 p1, .int .i64 p2, .int .i64 p3] 23 (0, 0)) ∧ (v5.alloc (.cells #[.int .i64 l0, .int .i64 l1, .int .i64 l2, .int .i64 l3] 23 (0, 0))).heap[v4.heap.size]? = some (.cells #[.int .i64 x0, .int .i64 x1, .int .i64 x2, .int .i64 x3] 23 (0, 0)) ∧ (v5.alloc (.cells #[.int .i64 l0, .int .i64 l1, .int .i64 l2, .int .i64 l3] 23 (0, 0))).heap[v5.heap.size]? = some (.cells #[.int .i64 l0, .int .i64 l1, .int .i64 l2, .int .i64 l3] 23 (0, 0)) ∧ Below w.heap.size w (v5.alloc (.cells #[.int .i64 l0, .int .i64 l1, .int .i64 l2, .int .i64 l3] 23 (0, 0)))) := ⟨(keepAt (keepAt B4.out.1 bel5) ((Below.refl _ _).alloc (Nat.le_refl _) _)), (keepAt (keepAt B4.out.2.1 bel5) ((Below.refl _ _).alloc (Nat.le_refl _) _)), (keepAt (keepAt B4.out.2.2.1 bel5) ((Below.refl _ _).alloc (Nat.le_refl _) _)), (keepAt (keepAt B4.out.2.2.2.1 bel5) ((Below.refl _ _).alloc (Nat.le_refl _) _)), (keepAt (keepAt B4.out.2.2.2.2.1 bel5) ((Below.refl _ _).alloc (Nat.le_refl _) _)), (keepAt (keepAt B4.out.2.2.2.2.2.1 bel5) ((Below.refl _ _).alloc (Nat.le_refl _) _)), (heap_alloc_new v5 (.cells #[.int .i64 l0, .int .i64 l1, .int .i64 l2, .int .i64 l3] 23 (0, 0))), (chain (chain B4.out.2.2.2.2.2.2 bel5) ((Below.refl _ _).alloc (Nat.le_refl _) _))⟩
  clear bel5 B4
  have g6_0 := at23_0 B5.out.2.2.2.2.2.2.1
  have g6_1 := at23_1 B5.out.2.2.2.2.2.2.1
  have g6_2 := at23_2 B5.out.2.2.2.2.2.2.1
  have g6_3 := at23_3 B5.out.2.2.2.2.2.2.1
  have g2_0 := at23_0 B5.out.2.2.1
  have g2_1 := at23_1 B5.out.2.2.1
  have g2_2 := at23_2 B5.out.2.2.1
  have g2_3 := at23_3 B5.out.2.2.1
  go_wp2_with fail
  refine (div_t l0 l1 l2 l3 x0 x1 x2 x3 _ ⟨F.out.l, SX.out.may⟩ true (iff_yes F.out.lx)).mono ?_
  rintro e v6 ⟨⟨d0, d1, d2, d3, rfl⟩, bel6⟩
  clear g6_0 g6_1 g6_2 g6_3 g2_0 g2_1 g2_2 g2_3
  have B6 : Hid ((v6.alloc (.cells #[.int .i64 d0, .int .i64 d1, .int .i64 d2, .int .i64 d3] 23 (0, 0))).heap[w.heap.size]? = some (.cells #[.int .u8 a0, .int .u8 a1, .int .u8 a2, .int .u8 a3] 36 (0, 0)) ∧ (v6.alloc (.cells #[.int .i64 d0, .int .i64 d1, .int .i64 d2, .int .i64 d3] 23 (0, 0))).heap[w.heap.size + 1]? = some (.cells #[.int .u8 b0, .int .u8 b1, .int .u8 b2, .int .u8 b3] 36 (0, 0)) ∧ (v6.alloc (.cells #[.int .i64 d0, .int .i64 d1, .int .i64 d2, .int .i64 d3] 23 (0, 0))).heap[v1.heap.size]? = some (.cells #[.int .i64 x0, .int .i64 x1, .int .i64 x2, .int .i64 x3] 23 (0, 0)) ∧ (v6.alloc (.cells #[.int .i64 d0, .int .i64 d1, .int .i64 d2, .int .i64 d3] 23 (0, 0))).heap[v2.heap.size]? = some (.cells #[.int .i64 y0, .int .i64 y1, .int .i64 y2, .int .i64 y3] 23 (0, 0)) ∧ (v6.alloc (.cells #[.int .i64 d0, .int .i64 d1, .int .i64 d2, .int .i64 d3] 23 (0, 0))).heap[v3.heap.size]? = some (.cells #[.int .i64 p0, .int .i64 p1, .int .i64 p2, .int .i64 p3] 23 (0, 0)) ∧ (v6.alloc (.cells #[.int .i64 d0, .int .i64 d1, .int .i64 d2, .int .i64 d3] 23 (0, 0))).heap[v4.heap.size]? = some (.cells #[.int .i64 x0, .int .i64 x1, .int .i64 x2, .int .i64 x3] 23 (0, 0)) ∧ (v6.alloc (.cells #[.int .i64 d0, .int .i64 d1, .int .i64 d2, .int .i64 d3] 23 (0, 0))).heap[v5.heap.size]? = some (.cells #[.int .i64 l0, .int .i64 l1, .int .i64 l2, .int .i64 l3] 23 (0, 0)) ∧ (v6.alloc (.cells #[.int .i64 d0, .int .i64 d1, .int .i64 d2, .int .i64 d3] 23 (0, 0))).heap[v6.heap.size]? = some (.cells #[.int .i64 d0, .int .i64 d1, .int .i64 d2, .int .i64 d3] 23 (0, 0)) ∧ Below w.heap.size w (v6.alloc (.cells #[.int .i64 d0, .int .i64 d1, .int .i64 d2, .int .i64 d3] 23 (0, 0)))) := ⟨(keepAt (keepAt B5.out.1 bel6) ((Below.refl _ _).alloc (Nat.le_refl _) _)), (keepAt (keepAt B5.out.2.1 bel6) ((Below.refl _ _).alloc (Nat.le_refl _) _)), (keepAt (keepAt B5.out.2.2.1 bel6) ((Below.refl _ _).alloc (Nat.le_refl _) _)), (keepAt (keepAt B5.out.2.2.2.1 bel6) ((Below.refl _ _).alloc (Nat.le_refl _) _)), (keepAt (keepAt B5.out.2.2.2.2.1 bel6) ((Below.refl _ _).alloc (Nat.le_refl _) _)), (keepAt (keepAt B5.out.2.2.2.2.2.1 bel6) ((Below.refl _ _).alloc (Nat.le_refl _) _)), (keepAt (keepAt B5.out.2.2.2.2.2.2.1 bel6) ((Below.refl _ _).alloc (Nat.le_refl _) _)), (heap_alloc_new v6 (.cells #[.int .i64 d0, .int .i64 d1, .int .i64 d2, .int .i64 d3] 23 (0, 0))), (chain (chain B5.out.2.2.2.2.2.2.2 bel6) ((Below.refl _ _).alloc (Nat.le_refl _) _))⟩
  clear bel6 B5
  have g6_0 := at23_0 B6.out.2.2.2.2.2.2.1
  have g6_1 := at23_1 B6.out.2.2.2.2.2.2.1
  have g6_2 := at23_2 B6.out.2.2.2.2.2.2.1
  have g6_3 := at23_3 B6.out.2.2.2.2.2.2.1
  have g3_0 := at23_0 B6.out.2.2.2.1
  have g3_1 := at23_1 B6.out.2.2.2.1
  have g3_2 := at23_2 B6.out.2.2.2.1
  have g3_3 := at23_3 B6.out.2.2.2.1
  go_wp2_with fail
  refine (div_t l0 l1 l2 l3 y0 y1 y2 y3 _ ⟨F.out.l, SY.out.may⟩ true (iff_yes F.out.ly)).mono ?_
  rintro e v7 ⟨⟨f0, f1, f2, f3, rfl⟩, bel7⟩
  clear g6_0 g6_1 g6_2 g6_3 g3_0 g3_1 g3_2 g3_3
  have B7 : Hid ((v7.alloc (.cells #[.int .i64 f0, .int .i64 f1, .int .i64 f2, .int .i64 f3] 23 (0, 0))).heap[w.heap.size]? = some (.cells #[.int .u8 a0, .int .u8 a1, .int .u8 a2, .int .u8 a3] 36 (0, 0)) ∧ (v7.alloc (.cells #[.int .i64 f0, .int .i64 f1, .int .i64 f2, .int .i64 f3] 23 (0, 0))).heap[w.heap.size + 1]? = some (.cells #[.int .u8 b0, .int .u8 b1, .int .u8 b2, .int .u8 b3] 36 (0, 0)) ∧ (v7.alloc (.cells #[.int .i64 f0, .int .i64 f1, .int .i64 f2, .int .i64 f3] 23 (0, 0))).heap[v1.heap.size]? = some (.cells #[.int .i64 x0, .int .i64 x1, .int .i64 x2, .int .i64 x3] 23 (0, 0)) ∧ (v7.alloc (.cells #[.int .i64 f0, .int .i64 f1, .int .i64 f2, .int .i64 f3] 23 (0, 0))).heap[v2.heap.size]? = some (.cells #[.int .i64 y0, .int .i64 y1, .int .i64 y2, .int .i64 y3] 23 (0, 0)) ∧ (v7.alloc (.cells #[.int .i64 f0, .int .i64 f1, .int .i64 f2, .int .i64 f3] 23 (0, 0))).heap[v3.heap.size]? = some (.cells #[.int .i64 p0, .int .i64 p1, .int .i64 p2, .int .i64 p3] 23 (0, 0)) ∧ (v7.alloc (.cells #[.int .i64 f0, .int .i64 f1, .int .i64 f2, .int .i64 f3] 23 (0, 0))).heap[v4.heap.size]? = some (.cells #[.int .i64 x0, .int .i64 x1, .int .i64 x2, .int .i64 x3] 23 (0, 0)) ∧ (v7.alloc (.cells #[.int .i64 f0, .int .i64 f1, .int .i64 f2, .int .i64 f3] 23 (0, 0))).heap[v5.heap.size]? = some (.cells #[.int .i64 l0, .int .i64 l1, .int .i64 l2, .int .i64 l3] 23 (0, 0)) ∧ (v7.alloc (.cells #[.int .i64 f0, .int .i64 f1, .int .i64 f2, .int .i64 f3] 23 (0, 0))).heap[v6.heap.size]? = some (.cells #[.int .i64 d0, .int .i64 d1, .int .i64 d2, .int .i64 d3] 23 (0, 0)) ∧ (v7.alloc (.cells #[.int .i64 f0, .int .i64 f1, .int .i64 f2, .int .i64 f3] 23 (0, 0))).heap[v7.heap.size]? = some (.cells #[.int .i64 f0, .int .i64 f1, .int .i64 f2, .int .i64 f3] 23 (0, 0)) ∧ Below w.heap.size w (v7.alloc (.cells #[.int .i64 f0, .int .i64 f1, .int .i64 f2, .int .i64 f3] 23 (0, 0)))) := ⟨(keepAt (keepAt B6.out.1 bel7) ((Below.refl _ _).alloc (Nat.le_refl _) _)), (keepAt (keepAt B6.out.2.1 bel7) ((Below.refl _ _).alloc (Nat.le_refl _) _)), (keepAt (keepAt B6.out.2.2.1 bel7) ((Below.refl _ _).alloc (Nat.le_refl _) _)), (keepAt (keepAt B6.out.2.2.2.1 bel7) ((Below.refl _ _).alloc (Nat.le_refl _) _)), (keepAt (keepAt B6.out.2.2.2.2.1 bel7) ((Below.refl _ _).alloc (Nat.le_refl _) _)), (keepAt (keepAt B6.out.2.2.2.2.2.1 bel7) ((Below.refl _ _).alloc (Nat.le_refl _) _)), (keepAt (keepAt B6.out.2.2.2.2.2.2.1 bel7) ((Below.refl _ _).alloc (Nat.le_refl _) _)), (keepAt (keepAt B6.out.2.2.2.2.2.2.2.1 bel7) ((Below.refl _ _).alloc (Nat.le_refl _) _)), (heap_alloc_new v7 (.cells #[.int .i64 f0, .int .i64 f1, .int .i64 f2, .int .i64 f3] 23 (0, 0))), (chain (chain B6.out.2.2.2.2.2.2.2.2 bel7) ((Below.refl _ _).alloc (Nat.le_refl _) _))⟩
  clear bel7 B6
  have g4_0 := at23_0 B7.out.2.2.2.2.1
  have g4_1 := at23_1 B7.out.2.2.2.2.1
  have g4_2 := at23_2 B7.out.2.2.2.2.1
  have g4_3 := at23_3 B7.out.2.2.2.2.1
  have g6_0 := at23_0 B7.out.2.2.2.2.2.2.1
  have g6_1 := at23_1 B7.out.2.2.2.2.2.2.1
  have g6_2 := at23_2 B7.out.2.2.2.2.2.2.1
  have g6_3 := at23_3 B7.out.2.2.2.2.2.2.1
  go_wp2_with fail
  refine (div_t p0 p1 p2 p3 l0 l1 l2 l3 _ ⟨F.out.p, F.out.l⟩ true (iff_yes F.out.pl)).mono ?_
  rintro e v8 ⟨⟨g0, g1, g2, g3, rfl⟩, bel8⟩
  clear g4_0 g4_1 g4_2 g4_3 g6_0 g6_1 g6_2 g6_3
  have B8 : Hid ((v8.alloc (.cells #[.int .i64 g0, .int .i64 g1, .int .i64 g2, .int .i64 g3] 23 (0, 0))).heap[w.heap.size]? = some (.cells #[.int .u8 a0, .int .u8 a1, .int .u8 a2, .int .u8 a3] 36 (0, 0)) ∧ (v8.alloc (.cells #[.int .i64 g0, .int .i64 g1, .int .i64 g2, .int .i64 g3] 23 (0, 0))).heap[w.heap.size + 1]? = some (.cells #[.int .u8 b0, .int .u8 b1, .int .u8 b2, .int .u8 b3] 36 (0, 0)) ∧ (v8.alloc (.cells #[.int .i64 g0, .int .i64 g1, .int .i64 g2, .int .i64 g3] 23 (0, 0))).heap[v1.heap.size]? = some (.cells #[.int .i64 x0, .int .i64 x1, .int .i64 x2, .int .i64 x3] 23 (0, 0)) ∧ (v8.alloc (.cells #[.int .i64 g0, .int .i64 g1, .int .i64 g2, .int .i64 g3] 23 (0, 0))).heap[v2.heap.size]? = some (.cells #[.int .i64 y0, .int .i64 y1, .int .i64 y2, .int .i64 y3] 23 (0, 0)) ∧ (v8.alloc (.cells #[.int .i64 g0, .int .i64 g1, .int .i64 g2, .int .i64 g3] 23 (0, 0))).heap[v3.heap.size]? = some (.cells #[.int .i64 p0, .int .i64 p1, .int .i64 p2, .int .i64 p3] 23 (0, 0)) ∧ (v8.alloc (.cells #[.int .i64 g0, .int .i64 g1, .int .i64 g2, .int .i64 g3] 23 (0, 0))).heap[v4.heap.size]? = some (.cells #[.int .i64 x0, .int .i64 x1, .int .i64 x2, .int .i64 x3] 23 (0, 0)) ∧ (v8.alloc (.cells #[.int .i64 g0, .int .i64 g1, .int .i64 g2, .int .i64 g3] 23 (0, 0))).heap[v5.heap.size]? = some (.cells #[.int .i64 l0, .int .i64 l1, .int .i64 l2, .int .i64 l3] 23 (0, 0)) ∧ (v8.alloc (.cells #[.int .i64 g0, .int .i64 g1, .int .i64 g2, .int .i64 g3] 23 (0, 0))).heap[v6.heap.size]? = some (.cells #[.int .i64 d0, .int .i64 d1, .int .i64 d2, .int .i64 d3] 23 (0, 0)) ∧ (v8.alloc (.cells #[.int .i64 g0, .int .i64 g1, .int .i64 g2, .int .i64 g3] 23 (0, 0))).heap[v7.heap.size]? = some (.cells #[.int .i64 f0, .int .i64 f1, .int .i64 f2, .int .i64 f3] 23 (0, 0)) ∧ (v8.alloc (.cells #[.int .i64 g0, .int .i64 g1, .int .i64 g2, .int .i64 g3] 23 (0, 0))).heap[v8.heap.size]? = some (.cells #[.int .i64 g0, .int .i64 g1, .int .i64 g2, .int .i64 g3] 23 (0, 0)) ∧ Below w.heap.size w (v8.alloc (.cells #[.int .i64 g0, .int .i64 g1, .int .i64 g2, .int .i64 g3] 23 (0, 0)))) := ⟨(keepAt (keepAt B7.out.1 bel8) ((Below.refl _ _).alloc (Nat.le_refl _) _)), (keepAt (keepAt B7.out.2.1 bel8) ((Below.refl _ _).alloc (Nat.le_refl _) _)), (keepAt (keepAt B7.out.2.2.1 bel8) ((Below.refl _ _).alloc (Nat.le_refl _) _)), (keepAt (keepAt B7.out.2.2.2.1 bel8) ((Below.refl _ _).alloc (Nat.le_refl _) _)), (keepAt (keepAt B7.out.2.2.2.2.1 bel8) ((Below.refl _ _).alloc (Nat.le_refl _) _)), (keepAt (keepAt B7.out.2.2.2.2.2.1 bel8) ((Below.refl _ _).alloc (Nat.le_refl _) _)), (keepAt (keepAt B7.out.2.2.2.2.2.2.1 bel8) ((Below.refl _ _).alloc (Nat.le_refl _) _)), (keepAt (keepAt B7.out.2.2.2.2.2.2.2.1 bel8) ((Below.refl _ _).alloc (Nat.le_refl _) _)), (keepAt (keepAt B7.out.2.2.2.2.2.2.2.2.1 bel8) ((Below.refl _ _).alloc (Nat.le_refl _) _)), (heap_alloc_new v8 (.cells #[.int .i64 g0, .int .i64 g1, .int .i64 g2, .int .i64 g3] 23 (0, 0))), (chain (chain B7.out.2.2.2.2.2.2.2.2.2 bel8) ((Below.refl _ _).alloc (Nat.le_refl _) _))⟩
  clear bel8 B7
  go_wp2_with fail
  have r2_0 : ∀ n : Wd ((v8.alloc (.cells #[.int .i64 g0, .int .i64 g1, .int .i64 g2, .int .i64 g3] 23 (0, 0)))), n.w.cell? ⟨v1.heap.size, 0, none⟩ = some (.int .i64 x0) := fun n => at23_0 (n.at B8.out.2.2.1)
  have r2_1 : ∀ n : Wd ((v8.alloc (.cells #[.int .i64 g0, .int .i64 g1, .int .i64 g2, .int .i64 g3] 23 (0, 0)))), n.w.cell? ⟨v1.heap.size, 1, none⟩ = some (.int .i64 x1) := fun n => at23_1 (n.at B8.out.2.2.1)
  have r2_2 : ∀ n : Wd ((v8.alloc (.cells #[.int .i64 g0, .int .i64 g1, .int .i64 g2, .int .i64 g3] 23 (0, 0)))), n.w.cell? ⟨v1.heap.size, 2, none⟩ = some (.int .i64 x2) := fun n => at23_2 (n.at B8.out.2.2.1)
  have r2_3 : ∀ n : Wd ((v8.alloc (.cells #[.int .i64 g0, .int .i64 g1, .int .i64 g2, .int .i64 g3] 23 (0, 0)))), n.w.cell? ⟨v1.heap.size, 3, none⟩ = some (.int .i64 x3) := fun n => at23_3 (n.at B8.out.2.2.1)
  have r3_0 : ∀ n : Wd ((v8.alloc (.cells #[.int .i64 g0, .int .i64 g1, .int .i64 g2, .int .i64 g3] 23 (0, 0)))), n.w.cell? ⟨v2.heap.size, 0, none⟩ = some (.int .i64 y0) := fun n => at23_0 (n.at B8.out.2.2.2.1)
  have r3_1 : ∀ n : Wd ((v8.alloc (.cells #[.int .i64 g0, .int .i64 g1, .int .i64 g2, .int .i64 g3] 23 (0, 0)))), n.w.cell? ⟨v2.heap.size, 1, none⟩ = some (.int .i64 y1) := fun n => at23_1 (n.at B8.out.2.2.2.1)
  have r3_2 : ∀ n : Wd ((v8.alloc (.cells #[.int .i64 g0, .int .i64 g1, .int .i64 g2, .int .i64 g3] 23 (0, 0)))), n.w.cell? ⟨v2.heap.size, 2, none⟩ = some (.int .i64 y2) := fun n => at23_2 (n.at B8.out.2.2.2.1)
  have r3_3 : ∀ n : Wd ((v8.alloc (.cells #[.int .i64 g0, .int .i64 g1, .int .i64 g2, .int .i64 g3] 23 (0, 0)))), n.w.cell? ⟨v2.heap.size, 3, none⟩ = some (.int .i64 y3) := fun n => at23_3 (n.at B8.out.2.2.2.1)
  have r4_0 : ∀ n : Wd ((v8.alloc (.cells #[.int .i64 g0, .int .i64 g1, .int .i64 g2, .int .i64 g3] 23 (0, 0)))), n.w.cell? ⟨v3.heap.size, 0, none⟩ = some (.int .i64 p0) := fun n => at23_0 (n.at B8.out.2.2.2.2.1)
  have r4_1 : ∀ n : Wd ((v8.alloc (.cells #[.int .i64 g0, .int .i64 g1, .int .i64 g2, .int .i64 g3] 23 (0, 0)))), n.w.cell? ⟨v3.heap.size, 1, none⟩ = some (.int .i64 p1) := fun n => at23_1 (n.at B8.out.2.2.2.2.1)
  have r4_2 : ∀ n : Wd ((v8.alloc (.cells #[.int .i64 g0, .int .i64 g1, .int .i64 g2, .int .i64 g3] 23 (0, 0)))), n.w.cell? ⟨v3.heap.size, 2, none⟩ = some (.int .i64 p2) := fun n => at23_2 (n.at B8.out.2.2.2.2.1)
  have r4_3 : ∀ n : Wd ((v8.alloc (.cells #[.int .i64 g0, .int .i64 g1, .int .i64 g2, .int .i64 g3] 23 (0, 0)))), n.w.cell? ⟨v3.heap.size, 3, none⟩ = some (.int .i64 p3) := fun n => at23_3 (n.at B8.out.2.2.2.2.1)
  have r5_0 : ∀ n : Wd ((v8.alloc (.cells #[.int .i64 g0, .int .i64 g1, .int .i64 g2, .int .i64 g3] 23 (0, 0)))), n.w.cell? ⟨v4.heap.size, 0, none⟩ = some (.int .i64 x0) := fun n => at23_0 (n.at B8.out.2.2.2.2.2.1)
  have r5_1 : ∀ n : Wd ((v8.alloc (.cells #[.int .i64 g0, .int .i64 g1, .int .i64 g2, .int .i64 g3] 23 (0, 0)))), n.w.cell? ⟨v4.heap.size, 1, none⟩ = some (.int .i64 x1) := fun n => at23_1 (n.at B8.out.2.2.2.2.2.1)
  have r5_2 : ∀ n : Wd ((v8.alloc (.cells #[.int .i64 g0, .int .i64 g1, .int .i64 g2, .int .i64 g3] 23 (0, 0)))), n.w.cell? ⟨v4.heap.size, 2, none⟩ = some (.int .i64 x2) := fun n => at23_2 (n.at B8.out.2.2.2.2.2.1)
  have r5_3 : ∀ n : Wd ((v8.alloc (.cells #[.int .i64 g0, .int .i64 g1, .int .i64 g2, .int .i64 g3] 23 (0, 0)))), n.w.cell? ⟨v4.heap.size, 3, none⟩ = some (.int .i64 x3) := fun n => at23_3 (n.at B8.out.2.2.2.2.2.1)
  have r6_0 : ∀ n : Wd ((v8.alloc (.cells #[.int .i64 g0, .int .i64 g1, .int .i64 g2, .int .i64 g3] 23 (0, 0)))), n.w.cell? ⟨v5.heap.size, 0, none⟩ = some (.int .i64 l0) := fun n => at23_0 (n.at B8.out.2.2.2.2.2.2.1)
  have r6_1 : ∀ n : Wd ((v8.alloc (.cells #[.int .i64 g0, .int .i64 g1, .int .i64 g2, .int .i64 g3] 23 (0, 0)))), n.w.cell? ⟨v5.heap.size, 1, none⟩ = some (.int .i64 l1) := fun n => at23_1 (n.at B8.out.2.2.2.2.2.2.1)
  have r6_2 : ∀ n : Wd ((v8.alloc (.cells #[.int .i64 g0, .int .i64 g1, .int .i64 g2, .int .i64 g3] 23 (0, 0)))), n.w.cell? ⟨v5.heap.size, 2, none⟩ = some (.int .i64 l2) := fun n => at23_2 (n.at B8.out.2.2.2.2.2.2.1)
  have r6_3 : ∀ n : Wd ((v8.alloc (.cells #[.int .i64 g0, .int .i64 g1, .int .i64 g2, .int .i64 g3] 23 (0, 0)))), n.w.cell? ⟨v5.heap.size, 3, none⟩ = some (.int .i64 l3) := fun n => at23_3 (n.at B8.out.2.2.2.2.2.2.1)
  have wne : Nonempty (Wd ((v8.alloc (.cells #[.int .i64 g0, .int .i64 g1, .int .i64 g2, .int .i64 g3] 23 (0, 0))))) := ⟨⟨_, Below.refl _ _⟩⟩
  refine region_wd (by kernel_rfl) (by kernel_rfl) ?_
  repeat (go_big_quiet_step ((first
    | (go_at_call 19; (with_reducible change Calls Try.prog 19 #[.agg #[.int .i64 x0, .int .i64 x1, .int .i64 x2, .int .i64 x3], .agg #[.int .i64 y0, .int .i64 y1, .int .i64 y2, .int .i64 y3]] _ _); exact wd_of (cop_ok x0 x1 x2 x3 y0 y1 y2 y3 _ ⟨SX.out.may, SY.out.may⟩ t HT.out))
    | (go_at_call 15; (with_reducible change Calls Try.prog 15 #[.agg #[.int .i64 p0, .int .i64 p1, .int .i64 p2, .int .i64 p3]] _ _); exact wd_of (deg_val p0 p1 p2 p3 dp _ F.out.p Hdp.out))
    | (go_at_call 15; (with_reducible change Calls Try.prog 15 #[.agg #[.int .i64 x0, .int .i64 x1, .int .i64 x2, .int .i64 x3]] _ _); exact wd_of (deg_val x0 x1 x2 x3 dx _ SX.out.may Hdx.out))
    | (go_at_call 15; (with_reducible change Calls Try.prog 15 #[.agg #[.int .i64 y0, .int .i64 y1, .int .i64 y2, .int .i64 y3]] _ _); exact wd_of (deg_val y0 y1 y2 y3 dy _ SY.out.may Hdy.out))
    | (go_at_call 23; exact wd_of (shown_m _)))))
  refine wpQuiet_nil ?_
  intro _ hw
  obtain ⟨nq, hq⟩ := hw
  subst hq
  have HZ : Hid (Below w.heap.size w nq.w) := chain B8.out.2.2.2.2.2.2.2.2.2.2 nq.h
  clear wne r2_0 r2_1 r2_2 r2_3 r3_0 r3_1 r3_2 r3_3 r4_0 r4_1 r4_2 r4_3 r5_0 r5_1 r5_2 r5_3 r6_0 r6_1 r6_2 r6_3
  go_wp2
  go_ret
  exact ⟨rfl, HZ.out⟩

set_option maxRecDepth 100000 in
theorem lifted (os : Os) (started : os.Started) (H : Type) (enc : TypeId × Value → H) :
    ReturnsInHanded {} Try.checked os 6 .any (Rows.monoBackSpec.pre6 enc Try.prog Try.f6 Rows.monoBackRow.domain false) (Rows.monoBackSpec.post enc Try.prog Try.f6 false true false false) := by
  refine returnsInHanded_of_change (C := Try.checked) own started (by kernel_rfl) Try.func6
    (ChangeSpec.witness6 (enc := enc) (C := Try.checked) false ⟨#[], #[.agg #[.int .u8 0, .int .u8 0, .int .u8 0, .int .u8 0], .agg #[.int .u8 0, .int .u8 0, .int .u8 0, .int .u8 0]], []⟩ 8 (by kernel_rfl) (by kernel_rfl) (by kernel_rfl) (by kernel_rfl)) ?_
  intro W base args ds gs before hval0 hW hcnd _
  have hval : ∀ (j : Nat) t v, Try.f6.params[j]? = some t → args[j]? = some v → Value.okWide Try.prog W .any base t v := hval0
  have hW' := hW
  obtain ⟨p, q, hA0, hV, rfl, hfz, hnd⟩ := hW
  have hA : DataW.TrodAll enc Try.prog W 0 (fun _ => true) true Try.f6.params.toList args.toList ds p := hA0
  rw [Try.params6] at hA hval
  obtain ⟨v0, vs0, d0, ds0, p0, q0, hargs0, rfl, rfl, h0, r0⟩ := trodAll_cons hA
  obtain ⟨v1, vs1, d1, ds1, p1, q1, hargs1, rfl, rfl, h1, r1⟩ := trodAll_cons r0
  obtain ⟨rfl, rfl, rfl⟩ := trodAll_nil r1
  obtain rfl : args = #[v0, v1] := by cases args; simp_all
  obtain ⟨rfl, rfl⟩ := trodVars_none hV
  obtain ⟨a0, a1, a2, a3, rfl, rfl, rfl, wa0, wa1, wa2, wa3⟩ := open_u4 (hval 0 36 v0 rfl rfl) h0
  obtain ⟨b0, b1, b2, b3, rfl, rfl, rfl, wb0, wb1, wb2, wb3⟩ := open_u4 (hval 1 36 v1 rfl rfl) h1
  clear hA0 hval0
  refine (walk a0 a1 a2 a3 b0 b1 b2 b3 W (bounds_u8 wa0) (bounds_u8 wa1) (bounds_u8 wa2) (bounds_u8 wa3) (bounds_u8 wb0) (bounds_u8 wb1) (bounds_u8 wb2) (bounds_u8 wb3)).mono fun e W' ⟨he, hg⟩ => ?_
  subst he
  exact ⟨_, rfl, _, _, _, [], _, [], hW', trodAll_mk1 (shut_bool Try.underlying4 _), (trodAll_cons_mk (shut_u4 wa0 wa1 wa2 wa3) (trodAll_cons_mk (shut_u4 wb0 wb1 wb2 wb3) trodAll_mk0)), rfl, hg.frame _, fun h => by cases h⟩

theorem over : Rows.monoBackRow.holds Try.pinned (OpenSpec.ofChange Rows.monoBackSpec) :=
  OpenClaim.holds_of_wide 6 Try.f6 rfl rfl rfl rfl rfl rfl rfl ⟨rfl, rfl, rfl, rfl, rfl⟩ rfl rfl rfl rfl rfl (by kernel_rfl) Try.func6 (by kernel_rfl)
    (of_decide_eq_true (by kernel_rfl)) (by unfold Func.isWrapper; first | (rw [if_pos (by decide +kernel)]; kernel_rfl) | (rw [if_neg (by decide +kernel)]; exact ⟨rfl, rfl⟩))
    (fun os started H enc _ => lifted os started H enc)

theorem proved : Rows.MonoBackSaid :=
  over
#print axioms proved
end Go.Proofs.Ytjecibpeahjenaa.monoBack
