/-
  Joined: RatI · Three · OrderWalk.
-/
import Derived.Test.YtnkjfandknndkaaJ1
import Derived.Laws.IdiomArrays
import Derived.Deep.Strs

/-! Sums and products of small numbers are never too big; the order of sums and products; the struct of three small numbers in memory. -/
namespace Go.Proofs.Ytnkjfandknndkaa
open Go.RowKit

theorem add_fine {a b r : RatL} {k N D M E : Int} (h : AddOut a b r k) (ha : Is a N D) (hb : Is b M E) {L K : Int} (la : (N.natAbs : Int) ≤ L) (la' : D ≤ L) (lb : (M.natAbs : Int) ≤ K) (lb' : E ≤ K) (hL : 2 * (L * K) < Big) :
    k = 0 ∧ Is r (N * E + M * D) (D * E) := by
  have a0 := ha.may.bot_pos ha.lim
  have b0 := hb.may.bot_pos hb.lim
  have a1 := ha.le
  have b1 := hb.le
  have va := (val_bd ha.lim.1).1
  have vb := (val_bd hb.lim.1).1
  have L0 : 0 ≤ L := by omega
  have K0 : 0 ≤ K := by omega
  have m1 : val a.num * b.bot ≤ L * K := Int.mul_le_mul (by omega) (by omega) (by omega) L0
  have m2 : val b.num * a.bot ≤ K * L := Int.mul_le_mul (by omega) (by omega) (by omega) K0
  have m3 : a.bot * b.bot ≤ L * K := Int.mul_le_mul (by omega) (by omega) (by omega) L0
  rw [Int.mul_comm K L] at m2
  have p1 : 0 ≤ val a.num * b.bot := Int.mul_nonneg va (by omega)
  have p2 : 0 ≤ val b.num * a.bot := Int.mul_nonneg vb (by omega)
  have hN := addTop_eq a b
  have hs1 := sg_abs a.neg p1
  have hs2 := sg_abs b.neg p2
  have hp : 0 < a.bot * b.bot := Int.mul_pos a0 b0
  obtain ⟨h1, h2⟩ := h.fine ⟨ha.may, hb.may⟩ (by
    rintro ((h | h | h) | h)
    · omega
    · omega
    · rw [hN] at h; omega
    · omega)
  refine ⟨h1, h2.same (Int.mul_pos ha.pos hb.pos) ?_⟩
  obtain ⟨c, c0, hD, hN'⟩ := ha.parts
  obtain ⟨d, d0, hE, hM⟩ := hb.parts
  rw [hD, hN', hE, hM]
  unfold addTop
  grind

theorem mul_fine {a b r : RatL} {k N D M E : Int} (h : MulOut a b r k) (ha : Is a N D) (hb : Is b M E) {L K : Int} (la : (N.natAbs : Int) ≤ L) (la' : D ≤ L) (lb : (M.natAbs : Int) ≤ K) (lb' : E ≤ K) (hL : 2 * (L * K) < Big) :
    k = 0 ∧ Is r (N * M) (D * E) := by
  have a0 := ha.may.bot_pos ha.lim
  have b0 := hb.may.bot_pos hb.lim
  have a1 := ha.le
  have b1 := hb.le
  have va := (val_bd ha.lim.1).1
  have vb := (val_bd hb.lim.1).1
  have L0 : 0 ≤ L := by omega
  have m1 : val a.num * val b.num ≤ L * K := Int.mul_le_mul (by omega) (by omega) (by omega) L0
  have m3 : a.bot * b.bot ≤ L * K := Int.mul_le_mul (by omega) (by omega) (by omega) L0
  have p1 : 0 ≤ val a.num * val b.num := Int.mul_nonneg va vb
  have hp : 0 < a.bot * b.bot := Int.mul_pos a0 b0
  obtain ⟨h1, h2⟩ := h.fine ⟨ha.may, hb.may⟩ (by
    rintro (h | h) <;> omega)
  refine ⟨h1, h2.same (Int.mul_pos ha.pos hb.pos) ?_⟩
  obtain ⟨c, c0, hD, hN'⟩ := ha.parts
  obtain ⟨d, d0, hE, hM⟩ := hb.parts
  rw [hD, hN', hE, hM]
  grind

theorem cmpI_sub (x y : Int) : cmpI x y = cmpI (x - y) 0 := by
  unfold cmpI
  split <;> split <;> (try split) <;> (try split) <;> omega
theorem cmpI_pos {x : Int} (h : 0 < x) : cmpI x 0 = 1 := by unfold cmpI; rw [if_neg (by omega), if_neg (by omega)]
theorem cmpI_lt0 {x : Int} (h : x < 0) : cmpI x 0 = -1 := by unfold cmpI; rw [if_pos h]
theorem cmpI_00 : cmpI 0 0 = 0 := by decide
theorem cmpI_zero {x y : Int} : cmpI x y = 0 ↔ x = y := by
  unfold cmpI
  split
  · omega
  · split <;> omega
theorem cmpI_times (x y : Int) : cmpI (x * y) 0 = cmpI x 0 * cmpI y 0 := by
  rcases Int.lt_trichotomy x 0 with h | h | h
  · rcases Int.lt_trichotomy y 0 with k | k | k
    · rw [cmpI_pos (Int.mul_pos_of_neg_of_neg h k), cmpI_lt0 h, cmpI_lt0 k]; rfl
    · subst k; simp [cmpI_00]
    · rw [cmpI_lt0 (Int.mul_neg_of_neg_of_pos h k), cmpI_lt0 h, cmpI_pos k]; rfl
  · subst h; simp [cmpI_00]
  · rcases Int.lt_trichotomy y 0 with k | k | k
    · rw [cmpI_lt0 (Int.mul_neg_of_pos_of_neg h k), cmpI_pos h, cmpI_lt0 k]; rfl
    · subst k; simp [cmpI_00]
    · rw [cmpI_pos (Int.mul_pos h k), cmpI_pos h, cmpI_pos k]; rfl
theorem cmpI_diff {L R u v n m : Int} (h : L - R = (u - v) * (n * m)) (hm : 0 < m) : cmpI L R = cmpI u v * cmpI n 0 := by
  rw [cmpI_sub L R, h, cmpI_times, cmpI_times, cmpI_pos hm, Int.mul_one, ← cmpI_sub]
theorem cmpI_rev (x y : Int) : cmpI y x = - cmpI x y := by
  unfold cmpI
  split <;> split <;> (try split) <;> (try split) <;> omega
theorem wrap_small {v : Int} (h : -1 ≤ v) (k : v ≤ 1) : IntKind.i64.wrap v = v := by
  obtain rfl | rfl | rfl : v = -1 ∨ v = 0 ∨ v = 1 := by omega
  all_goals decide
theorem unit_times {k s : Int} (h : -1 ≤ k) (h' : k ≤ 1) (g : -1 ≤ s) (g' : s ≤ 1) : -1 ≤ k * s ∧ k * s ≤ 1 := by
  obtain rfl | rfl | rfl : k = -1 ∨ k = 0 ∨ k = 1 := by omega
  all_goals omega

/-- Three small numbers in memory. -/
def TBox (W : World) (B : Nat) (s0 s1 s2 : Bool) (n0 n1 n2 d0 d1 d2 : Int) : Prop := W.heap[B]? = some (.cells #[.bool s0, .bool s1, .bool s2, .int .u32 n0, .int .u32 n1, .int .u32 n2, .int .u32 d0, .int .u32 d1, .int .u32 d2] 41 (0, 0))
theorem TBox.lt {W : World} {B : Nat} {s0 s1 s2 : Bool} {n0 n1 n2 d0 d1 d2 : Int} (h : TBox W B s0 s1 s2 n0 n1 n2 d0 d1 d2) : B < W.heap.size := (Array.getElem?_eq_some_iff.1 h).1
theorem TBox.below {W W' : World} {B : Nat} {s0 s1 s2 : Bool} {n0 n1 n2 d0 d1 d2 : Int} (h : TBox W B s0 s1 s2 n0 n1 n2 d0 d1 d2) (hb : Below W.heap.size W W') : TBox W' B s0 s1 s2 n0 n1 n2 d0 d1 d2 := (hb.block B h.lt).trans h
theorem TBox.new (W : World) (s0 s1 s2 : Bool) (n0 n1 n2 d0 d1 d2 : Int) : TBox (W.alloc (.cells #[.bool s0, .bool s1, .bool s2, .int .u32 n0, .int .u32 n1, .int .u32 n2, .int .u32 d0, .int .u32 d1, .int .u32 d2] 41)) W.heap.size s0 s1 s2 n0 n1 n2 d0 d1 d2 := heap_alloc_new W _
theorem TBox.cells {W : World} {B : Nat} {s0 s1 s2 : Bool} {n0 n1 n2 d0 d1 d2 : Int} (h : TBox W B s0 s1 s2 n0 n1 n2 d0 d1 d2) :
    (W.cell? ⟨B, 0, none⟩ = some (.bool s0) ∧ W.cell? ⟨B, 1, none⟩ = some (.bool s1) ∧ W.cell? ⟨B, 2, none⟩ = some (.bool s2)) ∧
    (W.cell? ⟨B, 3, none⟩ = some (.int .u32 n0) ∧ W.cell? ⟨B, 4, none⟩ = some (.int .u32 n1) ∧ W.cell? ⟨B, 5, none⟩ = some (.int .u32 n2)) ∧
    (W.cell? ⟨B, 6, none⟩ = some (.int .u32 d0) ∧ W.cell? ⟨B, 7, none⟩ = some (.int .u32 d1) ∧ W.cell? ⟨B, 8, none⟩ = some (.int .u32 d2)) := by
  refine ⟨⟨?_, ?_, ?_⟩, ⟨?_, ?_, ?_⟩, ?_, ?_, ?_⟩ <;> simp [World.cell?, show W.heap[B]? = _ from h]
end Go.Proofs.Ytnkjfandknndkaa

/-! A struct of three arrays of three, as the reader reads it: taken apart, and put together. -/
namespace Go.Proofs.Ytnkjfandknndkaa
open Go.ChangeShapes Go.WideShapes Go.ChangeAt Go.RowKit

theorem array9 {α : Type} {cs : Array α} (h : cs.size = 9) : ∃ c0 c1 c2 c3 c4 c5 c6 c7 c8, cs = #[c0, c1, c2, c3, c4, c5, c6, c7, c8] := by
  obtain ⟨l⟩ := cs
  match l, h with
  | [c0, c1, c2, c3, c4, c5, c6, c7, c8], _ => exact ⟨c0, c1, c2, c3, c4, c5, c6, c7, c8, rfl⟩

theorem cells41 : Try.prog.cellsOf 41 = 9 := by kernel_rfl
theorem cells37 : Try.prog.cellsOf 37 = 3 := by kernel_rfl
theorem cells39 : Try.prog.cellsOf 39 = 3 := by kernel_rfl
theorem cells4 : Try.prog.cellsOf 4 = 1 := by kernel_rfl
theorem cells38 : Try.prog.cellsOf 38 = 1 := by kernel_rfl

variable {H : Type} {enc : TypeId × Value → H} {w : World} {base : Nat} {spare : Nat → Bool} {held : Bool}

theorem open_three {r : Reach} {b0 : Nat} {v : Value} {d : DataW H} {p : List MemPlace} (hv : Value.okWide Try.prog w r b0 41 v) (h : DataW.Trod enc Try.prog w base spare held 41 v d p) :
    ∃ s0 s1 s2 n0 n1 n2 d0 d1 d2, v = .agg #[.bool s0, .bool s1, .bool s2, .int .u32 n0, .int .u32 n1, .int .u32 n2, .int .u32 d0, .int .u32 d1, .int .u32 d2] ∧ d = .agg [.agg [.lit (.bool s0), .lit (.bool s1), .lit (.bool s2)], .agg [.lit (.int .u32 n0), .lit (.int .u32 n1), .lit (.int .u32 n2)], .agg [.lit (.int .u32 d0), .lit (.int .u32 d1), .lit (.int .u32 d2)]] ∧ p = [] ∧
      ((Lit.int .u32 n0).wf = true ∧ (Lit.int .u32 n1).wf = true ∧ (Lit.int .u32 n2).wf = true) ∧ (Lit.int .u32 d0).wf = true ∧ (Lit.int .u32 d1).wf = true ∧ (Lit.int .u32 d2).wf = true := by
  obtain ⟨cs, rfl, hsz⟩ := okWide_struct Try.underlying41 hv
  obtain ⟨c0, c1, c2, c3, c4, c5, c6, c7, c8, rfl⟩ := array9 (hsz.trans cells41)
  obtain ⟨fuel, hf⟩ := h
  obtain ⟨y0, y1, y2, n, hx, _, h0, h1, h2⟩ := Go.Deep.trod_struct3 Try.underlying41 hf
  simp only [Prod.mk.injEq] at hx
  obtain ⟨rfl, rfl⟩ := hx
  obtain ⟨a0, a1, a2, m, rfl, k0, k1, k2⟩ := trod_array3 Try.underlying37 cells4 (show DataW.trod enc Try.prog w base spare held n 37 [c0, c1, c2] = some y0 by simpa [Value.cells, cells37] using h0)
  obtain ⟨a3, a4, a5, m', rfl, k3, k4, k5⟩ := trod_array3 Try.underlying39 cells38 (show DataW.trod enc Try.prog w base spare held n 39 [c3, c4, c5] = some y1 by simpa [Value.cells, cells39] using h1)
  obtain ⟨a6, a7, a8, m'', rfl, k6, k7, k8⟩ := trod_array3 Try.underlying39 cells38 (show DataW.trod enc Try.prog w base spare held n 39 [c6, c7, c8] = some y2 by simpa [Value.cells, cells39] using h2)
  obtain ⟨s0, e0, rfl⟩ := DataW.trod_bool Try.underlying4 k0
  obtain ⟨s1, e1, rfl⟩ := DataW.trod_bool Try.underlying4 k1
  obtain ⟨s2, e2, rfl⟩ := DataW.trod_bool Try.underlying4 k2
  obtain ⟨n0, e3, rfl, w0⟩ := DataW.trod_int Try.underlying38 k3
  obtain ⟨n1, e4, rfl, w1⟩ := DataW.trod_int Try.underlying38 k4
  obtain ⟨n2, e5, rfl, w2⟩ := DataW.trod_int Try.underlying38 k5
  obtain ⟨d0, e6, rfl, w3⟩ := DataW.trod_int Try.underlying38 k6
  obtain ⟨d1, e7, rfl, w4⟩ := DataW.trod_int Try.underlying38 k7
  obtain ⟨d2, e8, rfl, w5⟩ := DataW.trod_int Try.underlying38 k8
  simp only [List.cons.injEq, and_true] at e0 e1 e2 e3 e4 e5 e6 e7 e8
  subst e0 e1 e2 e3 e4 e5 e6 e7 e8
  exact ⟨s0, s1, s2, n0, n1, n2, d0, d1, d2, rfl, rfl, rfl, ⟨w0, w1, w2⟩, w3, w4, w5⟩

theorem trod_bools3 (n : Nat) (s0 s1 s2 : Bool) : DataW.trod enc Try.prog w base spare held (n + 2) 37 [.bool s0, .bool s1, .bool s2] = some (.agg [.lit (.bool s0), .lit (.bool s1), .lit (.bool s2)], []) := by
  have r3 : List.range 3 = [0, 1, 2] := rfl
  unfold DataW.trod
  rw [Try.underlying37]
  simp [r3, cells4, cells37, DataW.trod, Try.underlying4]
theorem trod_ints3 (n : Nat) {n0 n1 n2 : Int} (w0 : (Lit.int .u32 n0).wf = true) (w1 : (Lit.int .u32 n1).wf = true) (w2 : (Lit.int .u32 n2).wf = true) : DataW.trod enc Try.prog w base spare held (n + 2) 39 [.int .u32 n0, .int .u32 n1, .int .u32 n2] = some (.agg [.lit (.int .u32 n0), .lit (.int .u32 n1), .lit (.int .u32 n2)], []) := by
  have r3 : List.range 3 = [0, 1, 2] := rfl
  unfold DataW.trod
  rw [Try.underlying39]
  simp [r3, cells38, cells39, DataW.trod, Try.underlying38, w0, w1, w2]

theorem shut_three {s0 s1 s2 : Bool} {n0 n1 n2 d0 d1 d2 : Int} (w0 : (Lit.int .u32 n0).wf = true) (w1 : (Lit.int .u32 n1).wf = true) (w2 : (Lit.int .u32 n2).wf = true) (w3 : (Lit.int .u32 d0).wf = true) (w4 : (Lit.int .u32 d1).wf = true) (w5 : (Lit.int .u32 d2).wf = true) :
    DataW.Trod enc Try.prog w base spare held 41 (.agg #[.bool s0, .bool s1, .bool s2, .int .u32 n0, .int .u32 n1, .int .u32 n2, .int .u32 d0, .int .u32 d1, .int .u32 d2]) (.agg [.agg [.lit (.bool s0), .lit (.bool s1), .lit (.bool s2)], .agg [.lit (.int .u32 n0), .lit (.int .u32 n1), .lit (.int .u32 n2)], .agg [.lit (.int .u32 d0), .lit (.int .u32 d1), .lit (.int .u32 d2)]]) [] :=
  ⟨3, Go.Deep.trod_struct3_mk (n := 2) (y0 := (.agg [.lit (.bool s0), .lit (.bool s1), .lit (.bool s2)], [])) (y1 := (.agg [.lit (.int .u32 n0), .lit (.int .u32 n1), .lit (.int .u32 n2)], [])) (y2 := (.agg [.lit (.int .u32 d0), .lit (.int .u32 d1), .lit (.int .u32 d2)], [])) Try.underlying41 (by rw [cells41]; rfl)
    (by simpa [Value.cells, cells37] using trod_bools3 0 s0 s1 s2) (by simpa [Value.cells, cells39] using trod_ints3 0 w0 w1 w2) (by simpa [Value.cells, cells39] using trod_ints3 0 w3 w4 w5)⟩
end Go.Proofs.Ytnkjfandknndkaa

/-! RatioOrder's walk, by nine plain values. -/
namespace Go.Proofs.Ytnkjfandknndkaa
open Go.RowKit

theorem sg_le (s : Bool) {n : Int} (h : 0 ≤ n) (k : n ≤ 4294967295) : ((sg s n).natAbs : Int) ≤ 4294967296 := by
  rw [sg_abs s h]; omega

set_option maxRecDepth 100000 in
set_option maxHeartbeats 8000000 in
theorem order_walk (s0 s1 s2 : Bool) (n0 n1 n2 d0 d1 d2 : Int) (w : World) (bn0 : 0 ≤ n0 ∧ n0 ≤ 4294967295) (bn1 : 0 ≤ n1 ∧ n1 ≤ 4294967295) (bn2 : 0 ≤ n2 ∧ n2 ≤ 4294967295) (bd0 : 0 ≤ d0 ∧ d0 ≤ 4294967295) (bd1 : 0 ≤ d1 ∧ d1 ≤ 4294967295) (bd2 : 0 ≤ d2 ∧ d2 ≤ 4294967295) :
    Calls Try.prog 5 #[.agg #[.bool s0, .bool s1, .bool s2, .int .u32 n0, .int .u32 n1, .int .u32 n2, .int .u32 d0, .int .u32 d1, .int .u32 d2]] w fun e w' => e = .returned (.bool true) ∧ Below w.heap.size w w' := by
  have hBig : (2 : Int) * (4294967296 * 4294967296) < Big := by unfold Big BB; decide
  have HB : Hid ((0 ≤ n0 ∧ n0 ≤ 4294967295) ∧ (0 ≤ n1 ∧ n1 ≤ 4294967295) ∧ (0 ≤ n2 ∧ n2 ≤ 4294967295) ∧ (0 ≤ d0 ∧ d0 ≤ 4294967295) ∧ (0 ≤ d1 ∧ d1 ≤ 4294967295) ∧ (0 ≤ d2 ∧ d2 ≤ 4294967295) ∧ (2 : Int) * (4294967296 * 4294967296) < Big) := ⟨bn0, bn1, bn2, bd0, bd1, bd2, hBig⟩
  have HP : Hid ((((sg s0 n0).natAbs : Int) ≤ 4294967296 ∧ d0 + 1 ≤ 4294967296) ∧ (((sg s1 n1).natAbs : Int) ≤ 4294967296 ∧ d1 + 1 ≤ 4294967296) ∧ (((sg s2 n2).natAbs : Int) ≤ 4294967296 ∧ d2 + 1 ≤ 4294967296)) := ⟨⟨sg_le _ bn0.1 bn0.2, by omega⟩, ⟨sg_le _ bn1.1 bn1.2, by omega⟩, ⟨sg_le _ bn2.1 bn2.2, by omega⟩⟩
  clear bn0 bn1 bn2 bd0 bd1 bd2 hBig
  have t0 := TBox.new w s0 s1 s2 n0 n1 n2 d0 d1 d2
  have H0 : Hid (TBox (w.alloc (.cells #[.bool s0, .bool s1, .bool s2, .int .u32 n0, .int .u32 n1, .int .u32 n2, .int .u32 d0, .int .u32 d1, .int .u32 d2] 41)) w.heap.size s0 s1 s2 n0 n1 n2 d0 d1 d2 ∧ Below w.heap.size w (w.alloc (.cells #[.bool s0, .bool s1, .bool s2, .int .u32 n0, .int .u32 n1, .int .u32 n2, .int .u32 d0, .int .u32 d1, .int .u32 d2] 41))) := ⟨t0, (Below.refl _ _).alloc (Nat.le_refl _) _⟩
  clear t0
  go_enter Try.func5, Try.ntmps5
  obtain ⟨⟨z0, z1, z2⟩, ⟨z3, z4, z5⟩, z6, z7, z8⟩ := (H0.out.1).cells
  go_wp2_with fail
  refine (made_r s0 n0 d0 _ HB.out.1.1 HB.out.1.2 HB.out.2.2.2.1.1 HB.out.2.2.2.1.2).mono ?_
  rintro e w1 ⟨ag, ao, an, ac, aeo, aen, aec, a, rfl, q1, q2, q3, q4⟩
  clear z0 z1 z2 z3 z4 z5 z6 z7 z8
  have Ia : Hid (a.neg = ag ∧ Is a (sg s0 n0) (d0 + 1)) := ⟨q1, q3⟩
  have bx := RBox.new w1 ag ao an ac aeo aen aec
  have a1 : Below w1.heap.size w1 (w1.alloc (.cells #[.bool ag, .slice ao an ac, .slice aeo aen aec] 28)) := (Below.refl _ _).alloc (Nat.le_refl _) _
  have H1 : Hid (TBox (w1.alloc (.cells #[.bool ag, .slice ao an ac, .slice aeo aen aec] 28)) w.heap.size s0 s1 s2 n0 n1 n2 d0 d1 d2 ∧ Below w.heap.size w (w1.alloc (.cells #[.bool ag, .slice ao an ac, .slice aeo aen aec] 28)) ∧ RatAt (w1.alloc (.cells #[.bool ag, .slice ao an ac, .slice aeo aen aec] 28)) ao an ac aeo aen aec a ∧ RBox (w1.alloc (.cells #[.bool ag, .slice ao an ac, .slice aeo aen aec] 28)) w1.heap.size ag ao an ac aeo aen aec) := ⟨((H0.out.1).below q4).below a1, chain (chain (H0.out.2) q4) a1, q2.below a1, bx⟩
  clear bx a1
  clear q1 q2 q3 q4
  obtain ⟨⟨z0, z1, z2⟩, ⟨z3, z4, z5⟩, z6, z7, z8⟩ := (H1.out.1).cells
  go_wp2_with fail
  refine (made_r s1 n1 d1 _ HB.out.2.1.1 HB.out.2.1.2 HB.out.2.2.2.2.1.1 HB.out.2.2.2.2.1.2).mono ?_
  rintro e w2 ⟨bg, bo, bn, bc, beo, ben, bec, b, rfl, q1, q2, q3, q4⟩
  clear z0 z1 z2 z3 z4 z5 z6 z7 z8
  have Ib : Hid (b.neg = bg ∧ Is b (sg s1 n1) (d1 + 1)) := ⟨q1, q3⟩
  have bx := RBox.new w2 bg bo bn bc beo ben bec
  have a1 : Below w2.heap.size w2 (w2.alloc (.cells #[.bool bg, .slice bo bn bc, .slice beo ben bec] 28)) := (Below.refl _ _).alloc (Nat.le_refl _) _
  have H2 : Hid (TBox (w2.alloc (.cells #[.bool bg, .slice bo bn bc, .slice beo ben bec] 28)) w.heap.size s0 s1 s2 n0 n1 n2 d0 d1 d2 ∧ Below w.heap.size w (w2.alloc (.cells #[.bool bg, .slice bo bn bc, .slice beo ben bec] 28)) ∧ RatAt (w2.alloc (.cells #[.bool bg, .slice bo bn bc, .slice beo ben bec] 28)) ao an ac aeo aen aec a ∧ RBox (w2.alloc (.cells #[.bool bg, .slice bo bn bc, .slice beo ben bec] 28)) w1.heap.size ag ao an ac aeo aen aec ∧ RatAt (w2.alloc (.cells #[.bool bg, .slice bo bn bc, .slice beo ben bec] 28)) bo bn bc beo ben bec b ∧ RBox (w2.alloc (.cells #[.bool bg, .slice bo bn bc, .slice beo ben bec] 28)) w2.heap.size bg bo bn bc beo ben bec) := ⟨((H1.out.1).below q4).below a1, chain (chain (H1.out.2.1) q4) a1, ((H1.out.2.2.1).below q4).below a1, ((H1.out.2.2.2).below q4).below a1, q2.below a1, bx⟩
  clear bx a1
  clear q1 q2 q3 q4
  obtain ⟨⟨z0, z1, z2⟩, ⟨z3, z4, z5⟩, z6, z7, z8⟩ := (H2.out.1).cells
  go_wp2_with fail
  refine (made_r s2 n2 d2 _ HB.out.2.2.1.1 HB.out.2.2.1.2 HB.out.2.2.2.2.2.1.1 HB.out.2.2.2.2.2.1.2).mono ?_
  rintro e w3 ⟨cg, co, cn, cc, ceo, cen, cec, c, rfl, q1, q2, q3, q4⟩
  clear z0 z1 z2 z3 z4 z5 z6 z7 z8
  have Ic : Hid (c.neg = cg ∧ Is c (sg s2 n2) (d2 + 1)) := ⟨q1, q3⟩
  have bx := RBox.new w3 cg co cn cc ceo cen cec
  have a1 : Below w3.heap.size w3 (w3.alloc (.cells #[.bool cg, .slice co cn cc, .slice ceo cen cec] 28)) := (Below.refl _ _).alloc (Nat.le_refl _) _
  have H3 : Hid (TBox (w3.alloc (.cells #[.bool cg, .slice co cn cc, .slice ceo cen cec] 28)) w.heap.size s0 s1 s2 n0 n1 n2 d0 d1 d2 ∧ Below w.heap.size w (w3.alloc (.cells #[.bool cg, .slice co cn cc, .slice ceo cen cec] 28)) ∧ RatAt (w3.alloc (.cells #[.bool cg, .slice co cn cc, .slice ceo cen cec] 28)) ao an ac aeo aen aec a ∧ RBox (w3.alloc (.cells #[.bool cg, .slice co cn cc, .slice ceo cen cec] 28)) w1.heap.size ag ao an ac aeo aen aec ∧ RatAt (w3.alloc (.cells #[.bool cg, .slice co cn cc, .slice ceo cen cec] 28)) bo bn bc beo ben bec b ∧ RBox (w3.alloc (.cells #[.bool cg, .slice co cn cc, .slice ceo cen cec] 28)) w2.heap.size bg bo bn bc beo ben bec ∧ RatAt (w3.alloc (.cells #[.bool cg, .slice co cn cc, .slice ceo cen cec] 28)) co cn cc ceo cen cec c ∧ RBox (w3.alloc (.cells #[.bool cg, .slice co cn cc, .slice ceo cen cec] 28)) w3.heap.size cg co cn cc ceo cen cec) := ⟨((H2.out.1).below q4).below a1, chain (chain (H2.out.2.1) q4) a1, ((H2.out.2.2.1).below q4).below a1, ((H2.out.2.2.2.1).below q4).below a1, ((H2.out.2.2.2.2.1).below q4).below a1, ((H2.out.2.2.2.2.2).below q4).below a1, q2.below a1, bx⟩
  clear bx a1
  clear q1 q2 q3 q4
  have a0_ := (H3.out.2.2.2.1).c0
  have a1_ := (H3.out.2.2.2.1).c1
  have a2_ := (H3.out.2.2.2.1).c2
  have c0_ := (H3.out.2.2.2.2.2.2.2).c0
  have c1_ := (H3.out.2.2.2.2.2.2.2).c1
  have c2_ := (H3.out.2.2.2.2.2.2.2).c2
  go_wp2_with fail
  refine (radd_r ag ao an ac aeo aen aec cg co cn cc ceo cen cec a c _ (H3.out.2.2.1) (H3.out.2.2.2.2.2.2.1) Ia.out.1 Ic.out.1).mono ?_
  rintro e w4 ⟨xg, xo, xn, xc, xeo, xen, xec, x, k, rfl, q1, q2, q3, q4⟩
  obtain ⟨hk, q5⟩ := add_fine q3 Ia.out.2 Ic.out.2 HP.out.1.1 HP.out.1.2 HP.out.2.2.1 HP.out.2.2.2 HB.out.2.2.2.2.2.2
  subst hk
  clear a0_ a1_ a2_ c0_ c1_ c2_
  have Ix : Hid (x.neg = xg ∧ Is x (sg s0 n0 * (d2 + 1) + sg s2 n2 * (d0 + 1)) ((d0 + 1) * (d2 + 1))) := ⟨q1, q5⟩
  have bx := RBox.new w4 xg xo xn xc xeo xen xec
  have a1 : Below w4.heap.size w4 (w4.alloc (.cells #[.bool xg, .slice xo xn xc, .slice xeo xen xec] 28)) := (Below.refl _ _).alloc (Nat.le_refl _) _
  have H4 : Hid (TBox (w4.alloc (.cells #[.bool xg, .slice xo xn xc, .slice xeo xen xec] 28)) w.heap.size s0 s1 s2 n0 n1 n2 d0 d1 d2 ∧ Below w.heap.size w (w4.alloc (.cells #[.bool xg, .slice xo xn xc, .slice xeo xen xec] 28)) ∧ RatAt (w4.alloc (.cells #[.bool xg, .slice xo xn xc, .slice xeo xen xec] 28)) ao an ac aeo aen aec a ∧ RBox (w4.alloc (.cells #[.bool xg, .slice xo xn xc, .slice xeo xen xec] 28)) w1.heap.size ag ao an ac aeo aen aec ∧ RatAt (w4.alloc (.cells #[.bool xg, .slice xo xn xc, .slice xeo xen xec] 28)) bo bn bc beo ben bec b ∧ RBox (w4.alloc (.cells #[.bool xg, .slice xo xn xc, .slice xeo xen xec] 28)) w2.heap.size bg bo bn bc beo ben bec ∧ RatAt (w4.alloc (.cells #[.bool xg, .slice xo xn xc, .slice xeo xen xec] 28)) co cn cc ceo cen cec c ∧ RBox (w4.alloc (.cells #[.bool xg, .slice xo xn xc, .slice xeo xen xec] 28)) w3.heap.size cg co cn cc ceo cen cec ∧ RatAt (w4.alloc (.cells #[.bool xg, .slice xo xn xc, .slice xeo xen xec] 28)) xo xn xc xeo xen xec x ∧ RBox (w4.alloc (.cells #[.bool xg, .slice xo xn xc, .slice xeo xen xec] 28)) w4.heap.size xg xo xn xc xeo xen xec) := ⟨((H3.out.1).below q4).below a1, chain (chain (H3.out.2.1) q4) a1, ((H3.out.2.2.1).below q4).below a1, ((H3.out.2.2.2.1).below q4).below a1, ((H3.out.2.2.2.2.1).below q4).below a1, ((H3.out.2.2.2.2.2.1).below q4).below a1, ((H3.out.2.2.2.2.2.2.1).below q4).below a1, ((H3.out.2.2.2.2.2.2.2).below q4).below a1, q2.below a1, bx⟩
  clear bx a1
  clear q1 q2 q3 q4 q5
  have b0_ := (H4.out.2.2.2.2.2.1).c0
  have b1_ := (H4.out.2.2.2.2.2.1).c1
  have b2_ := (H4.out.2.2.2.2.2.1).c2
  have c0_ := (H4.out.2.2.2.2.2.2.2.1).c0
  have c1_ := (H4.out.2.2.2.2.2.2.2.1).c1
  have c2_ := (H4.out.2.2.2.2.2.2.2.1).c2
  go_wp2_with fail
  refine (radd_r bg bo bn bc beo ben bec cg co cn cc ceo cen cec b c _ (H4.out.2.2.2.2.1) (H4.out.2.2.2.2.2.2.1) Ib.out.1 Ic.out.1).mono ?_
  rintro e w5 ⟨yg, yo, yn, yc, yeo, yen, yec, y, k, rfl, q1, q2, q3, q4⟩
  obtain ⟨hk, q5⟩ := add_fine q3 Ib.out.2 Ic.out.2 HP.out.2.1.1 HP.out.2.1.2 HP.out.2.2.1 HP.out.2.2.2 HB.out.2.2.2.2.2.2
  subst hk
  clear b0_ b1_ b2_ c0_ c1_ c2_
  have Iy : Hid (y.neg = yg ∧ Is y (sg s1 n1 * (d2 + 1) + sg s2 n2 * (d1 + 1)) ((d1 + 1) * (d2 + 1))) := ⟨q1, q5⟩
  have bx := RBox.new w5 yg yo yn yc yeo yen yec
  have a1 : Below w5.heap.size w5 (w5.alloc (.cells #[.bool yg, .slice yo yn yc, .slice yeo yen yec] 28)) := (Below.refl _ _).alloc (Nat.le_refl _) _
  have H5 : Hid (TBox (w5.alloc (.cells #[.bool yg, .slice yo yn yc, .slice yeo yen yec] 28)) w.heap.size s0 s1 s2 n0 n1 n2 d0 d1 d2 ∧ Below w.heap.size w (w5.alloc (.cells #[.bool yg, .slice yo yn yc, .slice yeo yen yec] 28)) ∧ RatAt (w5.alloc (.cells #[.bool yg, .slice yo yn yc, .slice yeo yen yec] 28)) ao an ac aeo aen aec a ∧ RBox (w5.alloc (.cells #[.bool yg, .slice yo yn yc, .slice yeo yen yec] 28)) w1.heap.size ag ao an ac aeo aen aec ∧ RatAt (w5.alloc (.cells #[.bool yg, .slice yo yn yc, .slice yeo yen yec] 28)) bo bn bc beo ben bec b ∧ RBox (w5.alloc (.cells #[.bool yg, .slice yo yn yc, .slice yeo yen yec] 28)) w2.heap.size bg bo bn bc beo ben bec ∧ RatAt (w5.alloc (.cells #[.bool yg, .slice yo yn yc, .slice yeo yen yec] 28)) co cn cc ceo cen cec c ∧ RBox (w5.alloc (.cells #[.bool yg, .slice yo yn yc, .slice yeo yen yec] 28)) w3.heap.size cg co cn cc ceo cen cec ∧ RatAt (w5.alloc (.cells #[.bool yg, .slice yo yn yc, .slice yeo yen yec] 28)) xo xn xc xeo xen xec x ∧ RBox (w5.alloc (.cells #[.bool yg, .slice yo yn yc, .slice yeo yen yec] 28)) w4.heap.size xg xo xn xc xeo xen xec ∧ RatAt (w5.alloc (.cells #[.bool yg, .slice yo yn yc, .slice yeo yen yec] 28)) yo yn yc yeo yen yec y ∧ RBox (w5.alloc (.cells #[.bool yg, .slice yo yn yc, .slice yeo yen yec] 28)) w5.heap.size yg yo yn yc yeo yen yec) := ⟨((H4.out.1).below q4).below a1, chain (chain (H4.out.2.1) q4) a1, ((H4.out.2.2.1).below q4).below a1, ((H4.out.2.2.2.1).below q4).below a1, ((H4.out.2.2.2.2.1).below q4).below a1, ((H4.out.2.2.2.2.2.1).below q4).below a1, ((H4.out.2.2.2.2.2.2.1).below q4).below a1, ((H4.out.2.2.2.2.2.2.2.1).below q4).below a1, ((H4.out.2.2.2.2.2.2.2.2.1).below q4).below a1, ((H4.out.2.2.2.2.2.2.2.2.2).below q4).below a1, q2.below a1, bx⟩
  clear bx a1
  clear q1 q2 q3 q4 q5
  have a0_ := (H5.out.2.2.2.1).c0
  have a1_ := (H5.out.2.2.2.1).c1
  have a2_ := (H5.out.2.2.2.1).c2
  have c0_ := (H5.out.2.2.2.2.2.2.2.1).c0
  have c1_ := (H5.out.2.2.2.2.2.2.2.1).c1
  have c2_ := (H5.out.2.2.2.2.2.2.2.1).c2
  go_wp2_with fail
  refine (rmul_r ag ao an ac aeo aen aec cg co cn cc ceo cen cec a c _ (H5.out.2.2.1) (H5.out.2.2.2.2.2.2.1) Ia.out.1 Ic.out.1).mono ?_
  rintro e w6 ⟨pg, po, pn, pc, peo, pen, pec, p, k, rfl, q1, q2, q3, q4⟩
  obtain ⟨hk, q5⟩ := mul_fine q3 Ia.out.2 Ic.out.2 HP.out.1.1 HP.out.1.2 HP.out.2.2.1 HP.out.2.2.2 HB.out.2.2.2.2.2.2
  subst hk
  clear a0_ a1_ a2_ c0_ c1_ c2_
  have Ip : Hid (p.neg = pg ∧ Is p (sg s0 n0 * sg s2 n2) ((d0 + 1) * (d2 + 1))) := ⟨q1, q5⟩
  have bx := RBox.new w6 pg po pn pc peo pen pec
  have a1 : Below w6.heap.size w6 (w6.alloc (.cells #[.bool pg, .slice po pn pc, .slice peo pen pec] 28)) := (Below.refl _ _).alloc (Nat.le_refl _) _
  have H6 : Hid (TBox (w6.alloc (.cells #[.bool pg, .slice po pn pc, .slice peo pen pec] 28)) w.heap.size s0 s1 s2 n0 n1 n2 d0 d1 d2 ∧ Below w.heap.size w (w6.alloc (.cells #[.bool pg, .slice po pn pc, .slice peo pen pec] 28)) ∧ RatAt (w6.alloc (.cells #[.bool pg, .slice po pn pc, .slice peo pen pec] 28)) ao an ac aeo aen aec a ∧ RBox (w6.alloc (.cells #[.bool pg, .slice po pn pc, .slice peo pen pec] 28)) w1.heap.size ag ao an ac aeo aen aec ∧ RatAt (w6.alloc (.cells #[.bool pg, .slice po pn pc, .slice peo pen pec] 28)) bo bn bc beo ben bec b ∧ RBox (w6.alloc (.cells #[.bool pg, .slice po pn pc, .slice peo pen pec] 28)) w2.heap.size bg bo bn bc beo ben bec ∧ RatAt (w6.alloc (.cells #[.bool pg, .slice po pn pc, .slice peo pen pec] 28)) co cn cc ceo cen cec c ∧ RBox (w6.alloc (.cells #[.bool pg, .slice po pn pc, .slice peo pen pec] 28)) w3.heap.size cg co cn cc ceo cen cec ∧ RatAt (w6.alloc (.cells #[.bool pg, .slice po pn pc, .slice peo pen pec] 28)) xo xn xc xeo xen xec x ∧ RBox (w6.alloc (.cells #[.bool pg, .slice po pn pc, .slice peo pen pec] 28)) w4.heap.size xg xo xn xc xeo xen xec ∧ RatAt (w6.alloc (.cells #[.bool pg, .slice po pn pc, .slice peo pen pec] 28)) yo yn yc yeo yen yec y ∧ RBox (w6.alloc (.cells #[.bool pg, .slice po pn pc, .slice peo pen pec] 28)) w5.heap.size yg yo yn yc yeo yen yec ∧ RatAt (w6.alloc (.cells #[.bool pg, .slice po pn pc, .slice peo pen pec] 28)) po pn pc peo pen pec p ∧ RBox (w6.alloc (.cells #[.bool pg, .slice po pn pc, .slice peo pen pec] 28)) w6.heap.size pg po pn pc peo pen pec) := ⟨((H5.out.1).below q4).below a1, chain (chain (H5.out.2.1) q4) a1, ((H5.out.2.2.1).below q4).below a1, ((H5.out.2.2.2.1).below q4).below a1, ((H5.out.2.2.2.2.1).below q4).below a1, ((H5.out.2.2.2.2.2.1).below q4).below a1, ((H5.out.2.2.2.2.2.2.1).below q4).below a1, ((H5.out.2.2.2.2.2.2.2.1).below q4).below a1, ((H5.out.2.2.2.2.2.2.2.2.1).below q4).below a1, ((H5.out.2.2.2.2.2.2.2.2.2.1).below q4).below a1, ((H5.out.2.2.2.2.2.2.2.2.2.2.1).below q4).below a1, ((H5.out.2.2.2.2.2.2.2.2.2.2.2).below q4).below a1, q2.below a1, bx⟩
  clear bx a1
  clear q1 q2 q3 q4 q5
  have b0_ := (H6.out.2.2.2.2.2.1).c0
  have b1_ := (H6.out.2.2.2.2.2.1).c1
  have b2_ := (H6.out.2.2.2.2.2.1).c2
  have c0_ := (H6.out.2.2.2.2.2.2.2.1).c0
  have c1_ := (H6.out.2.2.2.2.2.2.2.1).c1
  have c2_ := (H6.out.2.2.2.2.2.2.2.1).c2
  go_wp2_with fail
  refine (rmul_r bg bo bn bc beo ben bec cg co cn cc ceo cen cec b c _ (H6.out.2.2.2.2.1) (H6.out.2.2.2.2.2.2.1) Ib.out.1 Ic.out.1).mono ?_
  rintro e w7 ⟨qg, qo, qn, qc, qeo, qen, qec, q, k, rfl, q1, q2, q3, q4⟩
  obtain ⟨hk, q5⟩ := mul_fine q3 Ib.out.2 Ic.out.2 HP.out.2.1.1 HP.out.2.1.2 HP.out.2.2.1 HP.out.2.2.2 HB.out.2.2.2.2.2.2
  subst hk
  clear b0_ b1_ b2_ c0_ c1_ c2_
  have Iq : Hid (q.neg = qg ∧ Is q (sg s1 n1 * sg s2 n2) ((d1 + 1) * (d2 + 1))) := ⟨q1, q5⟩
  have bx := RBox.new w7 qg qo qn qc qeo qen qec
  have a1 : Below w7.heap.size w7 (w7.alloc (.cells #[.bool qg, .slice qo qn qc, .slice qeo qen qec] 28)) := (Below.refl _ _).alloc (Nat.le_refl _) _
  have H7 : Hid (TBox (w7.alloc (.cells #[.bool qg, .slice qo qn qc, .slice qeo qen qec] 28)) w.heap.size s0 s1 s2 n0 n1 n2 d0 d1 d2 ∧ Below w.heap.size w (w7.alloc (.cells #[.bool qg, .slice qo qn qc, .slice qeo qen qec] 28)) ∧ RatAt (w7.alloc (.cells #[.bool qg, .slice qo qn qc, .slice qeo qen qec] 28)) ao an ac aeo aen aec a ∧ RBox (w7.alloc (.cells #[.bool qg, .slice qo qn qc, .slice qeo qen qec] 28)) w1.heap.size ag ao an ac aeo aen aec ∧ RatAt (w7.alloc (.cells #[.bool qg, .slice qo qn qc, .slice qeo qen qec] 28)) bo bn bc beo ben bec b ∧ RBox (w7.alloc (.cells #[.bool qg, .slice qo qn qc, .slice qeo qen qec] 28)) w2.heap.size bg bo bn bc beo ben bec ∧ RatAt (w7.alloc (.cells #[.bool qg, .slice qo qn qc, .slice qeo qen qec] 28)) co cn cc ceo cen cec c ∧ RBox (w7.alloc (.cells #[.bool qg, .slice qo qn qc, .slice qeo qen qec] 28)) w3.heap.size cg co cn cc ceo cen cec ∧ RatAt (w7.alloc (.cells #[.bool qg, .slice qo qn qc, .slice qeo qen qec] 28)) xo xn xc xeo xen xec x ∧ RBox (w7.alloc (.cells #[.bool qg, .slice qo qn qc, .slice qeo qen qec] 28)) w4.heap.size xg xo xn xc xeo xen xec ∧ RatAt (w7.alloc (.cells #[.bool qg, .slice qo qn qc, .slice qeo qen qec] 28)) yo yn yc yeo yen yec y ∧ RBox (w7.alloc (.cells #[.bool qg, .slice qo qn qc, .slice qeo qen qec] 28)) w5.heap.size yg yo yn yc yeo yen yec ∧ RatAt (w7.alloc (.cells #[.bool qg, .slice qo qn qc, .slice qeo qen qec] 28)) po pn pc peo pen pec p ∧ RBox (w7.alloc (.cells #[.bool qg, .slice qo qn qc, .slice qeo qen qec] 28)) w6.heap.size pg po pn pc peo pen pec ∧ RatAt (w7.alloc (.cells #[.bool qg, .slice qo qn qc, .slice qeo qen qec] 28)) qo qn qc qeo qen qec q ∧ RBox (w7.alloc (.cells #[.bool qg, .slice qo qn qc, .slice qeo qen qec] 28)) w7.heap.size qg qo qn qc qeo qen qec) := ⟨((H6.out.1).below q4).below a1, chain (chain (H6.out.2.1) q4) a1, ((H6.out.2.2.1).below q4).below a1, ((H6.out.2.2.2.1).below q4).below a1, ((H6.out.2.2.2.2.1).below q4).below a1, ((H6.out.2.2.2.2.2.1).below q4).below a1, ((H6.out.2.2.2.2.2.2.1).below q4).below a1, ((H6.out.2.2.2.2.2.2.2.1).below q4).below a1, ((H6.out.2.2.2.2.2.2.2.2.1).below q4).below a1, ((H6.out.2.2.2.2.2.2.2.2.2.1).below q4).below a1, ((H6.out.2.2.2.2.2.2.2.2.2.2.1).below q4).below a1, ((H6.out.2.2.2.2.2.2.2.2.2.2.2.1).below q4).below a1, ((H6.out.2.2.2.2.2.2.2.2.2.2.2.2.1).below q4).below a1, ((H6.out.2.2.2.2.2.2.2.2.2.2.2.2.2).below q4).below a1, q2.below a1, bx⟩
  clear bx a1
  clear q1 q2 q3 q4 q5
  obtain ⟨K, hK⟩ : ∃ K, K = cmpR a b := ⟨_, rfl⟩
  obtain ⟨G, hG⟩ : ∃ G, G = cmpI (sg s2 n2) 0 := ⟨_, rfl⟩
  obtain ⟨K', hK'⟩ : ∃ K', K' = cmpR b a := ⟨_, rfl⟩
  obtain ⟨T, hT⟩ : ∃ T, T = cmpR p q := ⟨_, rfl⟩
  obtain ⟨sm, hsm⟩ : ∃ sm : Bool, sm = (K == 0) := ⟨_, rfl⟩
  have eK := cmpR_is Ia.out.2 Ib.out.2
  have pc : 0 < d2 + 1 := Ic.out.2.pos
  have bK := cmpI_bd (a.top * b.bot) (b.top * a.bot)
  have bG := cmpI_bd (sg s2 n2) 0
  have fK : IntKind.i64.wrap (-K') = K := by
    have h1 : K' = -K := by rw [hK', hK]; exact cmpI_rev _ _
    rw [h1, Int.neg_neg]
    exact wrap_small (by rw [hK]; exact bK.1) (by rw [hK]; exact bK.2)
  have fX : K = cmpR x y := by
    rw [cmpR_is Ix.out.2 Iy.out.2, hK, eK]
    refine Eq.symm (Eq.trans (cmpI_diff (u := sg s0 n0 * (d1 + 1)) (v := sg s1 n1 * (d0 + 1)) (n := 1) (m := (d2 + 1) * (d2 + 1)) (by grind) (Int.mul_pos pc pc)) ?_)
    rw [show cmpI 1 0 = 1 by decide, Int.mul_one]
  have fT : K * G = T := by
    rw [hT, cmpR_is Ip.out.2 Iq.out.2, hK, eK, hG]
    exact (cmpI_diff (by grind) pc).symm
  have fW : IntKind.i64.wrap (K * G) = T := by
    have := unit_times (k := K) (s := G) (by rw [hK]; exact bK.1) (by rw [hK]; exact bK.2) (by rw [hG]; exact bG.1) (by rw [hG]; exact bG.2)
    rw [← fT]
    exact wrap_small this.1 this.2
  have fS : (K == 0) = sm := hsm.symm
  have fS' : sm = true ↔ a = b := by
    rw [hsm, hK, eK, beq_iff_eq, cmpI_zero]
    exact ⟨fun h => Ia.out.2.one Ib.out.2 h, fun h => cmpI_zero.1 (by rw [← eK, h]; exact cmpI_zero.2 rfl)⟩
  have HK : Hid (K = cmpR a b ∧ K' = cmpR b a ∧ K = cmpR x y ∧ T = cmpR p q ∧ G = cmpI (sg s2 n2) 0) := ⟨hK, hK', fX, hT, hG⟩
  have HS : Hid (sm = true ↔ a = b) := fS'
  clear hK hG hK' hT hsm eK pc bK bG fX fT fS'
  have a0_ := (H7.out.2.2.2.1).c0
  have a1_ := (H7.out.2.2.2.1).c1
  have a2_ := (H7.out.2.2.2.1).c2
  have b0_ := (H7.out.2.2.2.2.2.1).c0
  have b1_ := (H7.out.2.2.2.2.2.1).c1
  have b2_ := (H7.out.2.2.2.2.2.1).c2
  go_wp2_with fail
  refine (cmp_r ag ao an ac aeo aen aec bg bo bn bc beo ben bec a b _ (H7.out.2.2.1) (H7.out.2.2.2.2.1) Ia.out.1 Ib.out.1 Ia.out.2.may Ib.out.2.may K HK.out.1).mono ?_
  rintro e w8 ⟨rfl, fb⟩
  clear a0_ a1_ a2_ b0_ b1_ b2_
  have H8 : Hid (TBox (w8) w.heap.size s0 s1 s2 n0 n1 n2 d0 d1 d2 ∧ Below w.heap.size w (w8) ∧ RatAt (w8) ao an ac aeo aen aec a ∧ RBox (w8) w1.heap.size ag ao an ac aeo aen aec ∧ RatAt (w8) bo bn bc beo ben bec b ∧ RBox (w8) w2.heap.size bg bo bn bc beo ben bec ∧ RatAt (w8) co cn cc ceo cen cec c ∧ RBox (w8) w3.heap.size cg co cn cc ceo cen cec ∧ RatAt (w8) xo xn xc xeo xen xec x ∧ RBox (w8) w4.heap.size xg xo xn xc xeo xen xec ∧ RatAt (w8) yo yn yc yeo yen yec y ∧ RBox (w8) w5.heap.size yg yo yn yc yeo yen yec ∧ RatAt (w8) po pn pc peo pen pec p ∧ RBox (w8) w6.heap.size pg po pn pc peo pen pec ∧ RatAt (w8) qo qn qc qeo qen qec q ∧ RBox (w8) w7.heap.size qg qo qn qc qeo qen qec) := ⟨(H7.out.1).below fb, chain (H7.out.2.1) fb, (H7.out.2.2.1).below fb, (H7.out.2.2.2.1).below fb, (H7.out.2.2.2.2.1).below fb, (H7.out.2.2.2.2.2.1).below fb, (H7.out.2.2.2.2.2.2.1).below fb, (H7.out.2.2.2.2.2.2.2.1).below fb, (H7.out.2.2.2.2.2.2.2.2.1).below fb, (H7.out.2.2.2.2.2.2.2.2.2.1).below fb, (H7.out.2.2.2.2.2.2.2.2.2.2.1).below fb, (H7.out.2.2.2.2.2.2.2.2.2.2.2.1).below fb, (H7.out.2.2.2.2.2.2.2.2.2.2.2.2.1).below fb, (H7.out.2.2.2.2.2.2.2.2.2.2.2.2.2.1).below fb, (H7.out.2.2.2.2.2.2.2.2.2.2.2.2.2.2.1).below fb, (H7.out.2.2.2.2.2.2.2.2.2.2.2.2.2.2.2).below fb⟩
  clear fb
  have e0_ := (H8.out.2.2.2.2.2.2.2.1).c0
  have e1_ := (H8.out.2.2.2.2.2.2.2.1).c1
  have e2_ := (H8.out.2.2.2.2.2.2.2.1).c2
  have hC := (H8.out.2.2.2.2.2.2.2.1).lt
  have bz : Below w8.heap.size w8 w8.drew := (Below.refl _ _).drew
  go_wp2_with fail
  go_region_held3 (fun w' => w'.cell? ⟨w3.heap.size, 0, none⟩ = some (.bool cg) ∧ w'.cell? ⟨w3.heap.size, 1, none⟩ = some (.slice co cn cc) ∧ w'.cell? ⟨w3.heap.size, 2, none⟩ = some (.slice ceo cen cec))
    (first | (refine ⟨?_, ?_, ?_⟩; (rw [bz.cell (p := ⟨w3.heap.size, 0, none⟩) hC]; assumption); (rw [bz.cell (p := ⟨w3.heap.size, 1, none⟩) hC]; assumption); (rw [bz.cell (p := ⟨w3.heap.size, 2, none⟩) hC]; assumption)) | go_keep)
    (first
      | (go_at_call 16; refine (of_r 0 _ ?_ ?_).mono ?_; omega; omega; rintro e v1 ⟨ug, uo, un, uc, ueo, uen, uec, u, rfl, q1, q2, q3, q4⟩; have bz := chain bz q4; have IU : Hid (u.neg = ug ∧ RatAt v1 uo un uc ueo uen uec u ∧ Is u 0 1 ∧ G = cmpR c u) := ⟨q1, q2, q3, by rw [HK.out.2.2.2.2, cmpR_is Ic.out.2 q3, Int.mul_one, Int.zero_mul]⟩; clear q1 q2 q3 q4)
      | (go_at_call 26; refine (cmp_r cg co cn cc ceo cen cec ug uo un uc ueo uen uec c u _ ((H8.out.2.2.2.2.2.2.1).below bz) IU.out.2.1 Ic.out.1 IU.out.1 Ic.out.2.may IU.out.2.2.1.may G IU.out.2.2.2).mono ?_; rintro e v2 ⟨rfl, q⟩; have bz := chain bz q; clear q))
  have H9 : Hid (TBox (v2) w.heap.size s0 s1 s2 n0 n1 n2 d0 d1 d2 ∧ Below w.heap.size w (v2) ∧ RatAt (v2) ao an ac aeo aen aec a ∧ RBox (v2) w1.heap.size ag ao an ac aeo aen aec ∧ RatAt (v2) bo bn bc beo ben bec b ∧ RBox (v2) w2.heap.size bg bo bn bc beo ben bec ∧ RatAt (v2) co cn cc ceo cen cec c ∧ RBox (v2) w3.heap.size cg co cn cc ceo cen cec ∧ RatAt (v2) xo xn xc xeo xen xec x ∧ RBox (v2) w4.heap.size xg xo xn xc xeo xen xec ∧ RatAt (v2) yo yn yc yeo yen yec y ∧ RBox (v2) w5.heap.size yg yo yn yc yeo yen yec ∧ RatAt (v2) po pn pc peo pen pec p ∧ RBox (v2) w6.heap.size pg po pn pc peo pen pec ∧ RatAt (v2) qo qn qc qeo qen qec q ∧ RBox (v2) w7.heap.size qg qo qn qc qeo qen qec) := ⟨(H8.out.1).below bz, chain (H8.out.2.1) bz, (H8.out.2.2.1).below bz, (H8.out.2.2.2.1).below bz, (H8.out.2.2.2.2.1).below bz, (H8.out.2.2.2.2.2.1).below bz, (H8.out.2.2.2.2.2.2.1).below bz, (H8.out.2.2.2.2.2.2.2.1).below bz, (H8.out.2.2.2.2.2.2.2.2.1).below bz, (H8.out.2.2.2.2.2.2.2.2.2.1).below bz, (H8.out.2.2.2.2.2.2.2.2.2.2.1).below bz, (H8.out.2.2.2.2.2.2.2.2.2.2.2.1).below bz, (H8.out.2.2.2.2.2.2.2.2.2.2.2.2.1).below bz, (H8.out.2.2.2.2.2.2.2.2.2.2.2.2.2.1).below bz, (H8.out.2.2.2.2.2.2.2.2.2.2.2.2.2.2.1).below bz, (H8.out.2.2.2.2.2.2.2.2.2.2.2.2.2.2.2).below bz⟩
  clear bz hC IU
  try clear e0_ e1_ e2_
  have a0_ := (H9.out.2.2.2.1).c0
  have a1_ := (H9.out.2.2.2.1).c1
  have a2_ := (H9.out.2.2.2.1).c2
  have b0_ := (H9.out.2.2.2.2.2.1).c0
  have b1_ := (H9.out.2.2.2.2.2.1).c1
  have b2_ := (H9.out.2.2.2.2.2.1).c2
  go_wp2_with fail
  refine (cmp_r bg bo bn bc beo ben bec ag ao an ac aeo aen aec b a _ (H9.out.2.2.2.2.1) (H9.out.2.2.1) Ib.out.1 Ia.out.1 Ib.out.2.may Ia.out.2.may K' HK.out.2.1).mono ?_
  rintro e w9 ⟨rfl, fb⟩
  clear a0_ a1_ a2_ b0_ b1_ b2_
  have H10 : Hid (TBox (w9) w.heap.size s0 s1 s2 n0 n1 n2 d0 d1 d2 ∧ Below w.heap.size w (w9) ∧ RatAt (w9) ao an ac aeo aen aec a ∧ RBox (w9) w1.heap.size ag ao an ac aeo aen aec ∧ RatAt (w9) bo bn bc beo ben bec b ∧ RBox (w9) w2.heap.size bg bo bn bc beo ben bec ∧ RatAt (w9) co cn cc ceo cen cec c ∧ RBox (w9) w3.heap.size cg co cn cc ceo cen cec ∧ RatAt (w9) xo xn xc xeo xen xec x ∧ RBox (w9) w4.heap.size xg xo xn xc xeo xen xec ∧ RatAt (w9) yo yn yc yeo yen yec y ∧ RBox (w9) w5.heap.size yg yo yn yc yeo yen yec ∧ RatAt (w9) po pn pc peo pen pec p ∧ RBox (w9) w6.heap.size pg po pn pc peo pen pec ∧ RatAt (w9) qo qn qc qeo qen qec q ∧ RBox (w9) w7.heap.size qg qo qn qc qeo qen qec) := ⟨(H9.out.1).below fb, chain (H9.out.2.1) fb, (H9.out.2.2.1).below fb, (H9.out.2.2.2.1).below fb, (H9.out.2.2.2.2.1).below fb, (H9.out.2.2.2.2.2.1).below fb, (H9.out.2.2.2.2.2.2.1).below fb, (H9.out.2.2.2.2.2.2.2.1).below fb, (H9.out.2.2.2.2.2.2.2.2.1).below fb, (H9.out.2.2.2.2.2.2.2.2.2.1).below fb, (H9.out.2.2.2.2.2.2.2.2.2.2.1).below fb, (H9.out.2.2.2.2.2.2.2.2.2.2.2.1).below fb, (H9.out.2.2.2.2.2.2.2.2.2.2.2.2.1).below fb, (H9.out.2.2.2.2.2.2.2.2.2.2.2.2.2.1).below fb, (H9.out.2.2.2.2.2.2.2.2.2.2.2.2.2.2.1).below fb, (H9.out.2.2.2.2.2.2.2.2.2.2.2.2.2.2.2).below fb⟩
  clear fb
  have a0_ := (H10.out.2.2.2.1).c0
  have a1_ := (H10.out.2.2.2.1).c1
  have a2_ := (H10.out.2.2.2.1).c2
  have b0_ := (H10.out.2.2.2.2.2.1).c0
  have b1_ := (H10.out.2.2.2.2.2.1).c1
  have b2_ := (H10.out.2.2.2.2.2.1).c2
  go_wp2_with fail
  refine (rsame_r ag ao an ac aeo aen aec bg bo bn bc beo ben bec a b _ (H10.out.2.2.1) (H10.out.2.2.2.2.1) Ia.out.1 Ib.out.1 sm HS.out).mono ?_
  rintro e w10 ⟨rfl, fb⟩
  clear a0_ a1_ a2_ b0_ b1_ b2_
  have H11 : Hid (TBox (w10) w.heap.size s0 s1 s2 n0 n1 n2 d0 d1 d2 ∧ Below w.heap.size w (w10) ∧ RatAt (w10) ao an ac aeo aen aec a ∧ RBox (w10) w1.heap.size ag ao an ac aeo aen aec ∧ RatAt (w10) bo bn bc beo ben bec b ∧ RBox (w10) w2.heap.size bg bo bn bc beo ben bec ∧ RatAt (w10) co cn cc ceo cen cec c ∧ RBox (w10) w3.heap.size cg co cn cc ceo cen cec ∧ RatAt (w10) xo xn xc xeo xen xec x ∧ RBox (w10) w4.heap.size xg xo xn xc xeo xen xec ∧ RatAt (w10) yo yn yc yeo yen yec y ∧ RBox (w10) w5.heap.size yg yo yn yc yeo yen yec ∧ RatAt (w10) po pn pc peo pen pec p ∧ RBox (w10) w6.heap.size pg po pn pc peo pen pec ∧ RatAt (w10) qo qn qc qeo qen qec q ∧ RBox (w10) w7.heap.size qg qo qn qc qeo qen qec) := ⟨(H10.out.1).below fb, chain (H10.out.2.1) fb, (H10.out.2.2.1).below fb, (H10.out.2.2.2.1).below fb, (H10.out.2.2.2.2.1).below fb, (H10.out.2.2.2.2.2.1).below fb, (H10.out.2.2.2.2.2.2.1).below fb, (H10.out.2.2.2.2.2.2.2.1).below fb, (H10.out.2.2.2.2.2.2.2.2.1).below fb, (H10.out.2.2.2.2.2.2.2.2.2.1).below fb, (H10.out.2.2.2.2.2.2.2.2.2.2.1).below fb, (H10.out.2.2.2.2.2.2.2.2.2.2.2.1).below fb, (H10.out.2.2.2.2.2.2.2.2.2.2.2.2.1).below fb, (H10.out.2.2.2.2.2.2.2.2.2.2.2.2.2.1).below fb, (H10.out.2.2.2.2.2.2.2.2.2.2.2.2.2.2.1).below fb, (H10.out.2.2.2.2.2.2.2.2.2.2.2.2.2.2.2).below fb⟩
  clear fb
  have x0_ := (H11.out.2.2.2.2.2.2.2.2.2.1).c0
  have x1_ := (H11.out.2.2.2.2.2.2.2.2.2.1).c1
  have x2_ := (H11.out.2.2.2.2.2.2.2.2.2.1).c2
  have y0_ := (H11.out.2.2.2.2.2.2.2.2.2.2.2.1).c0
  have y1_ := (H11.out.2.2.2.2.2.2.2.2.2.2.2.1).c1
  have y2_ := (H11.out.2.2.2.2.2.2.2.2.2.2.2.1).c2
  go_wp2_with fail
  refine (cmp_r xg xo xn xc xeo xen xec yg yo yn yc yeo yen yec x y _ (H11.out.2.2.2.2.2.2.2.2.1) (H11.out.2.2.2.2.2.2.2.2.2.2.1) Ix.out.1 Iy.out.1 Ix.out.2.may Iy.out.2.may K HK.out.2.2.1).mono ?_
  rintro e w11 ⟨rfl, fb⟩
  clear x0_ x1_ x2_ y0_ y1_ y2_
  have H12 : Hid (TBox (w11) w.heap.size s0 s1 s2 n0 n1 n2 d0 d1 d2 ∧ Below w.heap.size w (w11) ∧ RatAt (w11) ao an ac aeo aen aec a ∧ RBox (w11) w1.heap.size ag ao an ac aeo aen aec ∧ RatAt (w11) bo bn bc beo ben bec b ∧ RBox (w11) w2.heap.size bg bo bn bc beo ben bec ∧ RatAt (w11) co cn cc ceo cen cec c ∧ RBox (w11) w3.heap.size cg co cn cc ceo cen cec ∧ RatAt (w11) xo xn xc xeo xen xec x ∧ RBox (w11) w4.heap.size xg xo xn xc xeo xen xec ∧ RatAt (w11) yo yn yc yeo yen yec y ∧ RBox (w11) w5.heap.size yg yo yn yc yeo yen yec ∧ RatAt (w11) po pn pc peo pen pec p ∧ RBox (w11) w6.heap.size pg po pn pc peo pen pec ∧ RatAt (w11) qo qn qc qeo qen qec q ∧ RBox (w11) w7.heap.size qg qo qn qc qeo qen qec) := ⟨(H11.out.1).below fb, chain (H11.out.2.1) fb, (H11.out.2.2.1).below fb, (H11.out.2.2.2.1).below fb, (H11.out.2.2.2.2.1).below fb, (H11.out.2.2.2.2.2.1).below fb, (H11.out.2.2.2.2.2.2.1).below fb, (H11.out.2.2.2.2.2.2.2.1).below fb, (H11.out.2.2.2.2.2.2.2.2.1).below fb, (H11.out.2.2.2.2.2.2.2.2.2.1).below fb, (H11.out.2.2.2.2.2.2.2.2.2.2.1).below fb, (H11.out.2.2.2.2.2.2.2.2.2.2.2.1).below fb, (H11.out.2.2.2.2.2.2.2.2.2.2.2.2.1).below fb, (H11.out.2.2.2.2.2.2.2.2.2.2.2.2.2.1).below fb, (H11.out.2.2.2.2.2.2.2.2.2.2.2.2.2.2.1).below fb, (H11.out.2.2.2.2.2.2.2.2.2.2.2.2.2.2.2).below fb⟩
  clear fb
  have p0_ := (H12.out.2.2.2.2.2.2.2.2.2.2.2.2.2.1).c0
  have p1_ := (H12.out.2.2.2.2.2.2.2.2.2.2.2.2.2.1).c1
  have p2_ := (H12.out.2.2.2.2.2.2.2.2.2.2.2.2.2.1).c2
  have q0_ := (H12.out.2.2.2.2.2.2.2.2.2.2.2.2.2.2.2).c0
  have q1_ := (H12.out.2.2.2.2.2.2.2.2.2.2.2.2.2.2.2).c1
  have q2_ := (H12.out.2.2.2.2.2.2.2.2.2.2.2.2.2.2.2).c2
  go_wp2_with fail
  refine (cmp_r pg po pn pc peo pen pec qg qo qn qc qeo qen qec p q _ (H12.out.2.2.2.2.2.2.2.2.2.2.2.2.1) (H12.out.2.2.2.2.2.2.2.2.2.2.2.2.2.2.1) Ip.out.1 Iq.out.1 Ip.out.2.may Iq.out.2.may T HK.out.2.2.2.1).mono ?_
  rintro e w12 ⟨rfl, fb⟩
  clear p0_ p1_ p2_ q0_ q1_ q2_
  have H13 : Hid (TBox (w12) w.heap.size s0 s1 s2 n0 n1 n2 d0 d1 d2 ∧ Below w.heap.size w (w12) ∧ RatAt (w12) ao an ac aeo aen aec a ∧ RBox (w12) w1.heap.size ag ao an ac aeo aen aec ∧ RatAt (w12) bo bn bc beo ben bec b ∧ RBox (w12) w2.heap.size bg bo bn bc beo ben bec ∧ RatAt (w12) co cn cc ceo cen cec c ∧ RBox (w12) w3.heap.size cg co cn cc ceo cen cec ∧ RatAt (w12) xo xn xc xeo xen xec x ∧ RBox (w12) w4.heap.size xg xo xn xc xeo xen xec ∧ RatAt (w12) yo yn yc yeo yen yec y ∧ RBox (w12) w5.heap.size yg yo yn yc yeo yen yec ∧ RatAt (w12) po pn pc peo pen pec p ∧ RBox (w12) w6.heap.size pg po pn pc peo pen pec ∧ RatAt (w12) qo qn qc qeo qen qec q ∧ RBox (w12) w7.heap.size qg qo qn qc qeo qen qec) := ⟨(H12.out.1).below fb, chain (H12.out.2.1) fb, (H12.out.2.2.1).below fb, (H12.out.2.2.2.1).below fb, (H12.out.2.2.2.2.1).below fb, (H12.out.2.2.2.2.2.1).below fb, (H12.out.2.2.2.2.2.2.1).below fb, (H12.out.2.2.2.2.2.2.2.1).below fb, (H12.out.2.2.2.2.2.2.2.2.1).below fb, (H12.out.2.2.2.2.2.2.2.2.2.1).below fb, (H12.out.2.2.2.2.2.2.2.2.2.2.1).below fb, (H12.out.2.2.2.2.2.2.2.2.2.2.2.1).below fb, (H12.out.2.2.2.2.2.2.2.2.2.2.2.2.1).below fb, (H12.out.2.2.2.2.2.2.2.2.2.2.2.2.2.1).below fb, (H12.out.2.2.2.2.2.2.2.2.2.2.2.2.2.2.1).below fb, (H12.out.2.2.2.2.2.2.2.2.2.2.2.2.2.2.2).below fb⟩
  clear fb
  go_wp2_with fail
  refine (shown_r _).mono ?_
  rintro e w13 ⟨rfl, fb⟩
  have H14 : Hid (TBox (w13) w.heap.size s0 s1 s2 n0 n1 n2 d0 d1 d2 ∧ Below w.heap.size w (w13) ∧ RatAt (w13) ao an ac aeo aen aec a ∧ RBox (w13) w1.heap.size ag ao an ac aeo aen aec ∧ RatAt (w13) bo bn bc beo ben bec b ∧ RBox (w13) w2.heap.size bg bo bn bc beo ben bec ∧ RatAt (w13) co cn cc ceo cen cec c ∧ RBox (w13) w3.heap.size cg co cn cc ceo cen cec ∧ RatAt (w13) xo xn xc xeo xen xec x ∧ RBox (w13) w4.heap.size xg xo xn xc xeo xen xec ∧ RatAt (w13) yo yn yc yeo yen yec y ∧ RBox (w13) w5.heap.size yg yo yn yc yeo yen yec ∧ RatAt (w13) po pn pc peo pen pec p ∧ RBox (w13) w6.heap.size pg po pn pc peo pen pec ∧ RatAt (w13) qo qn qc qeo qen qec q ∧ RBox (w13) w7.heap.size qg qo qn qc qeo qen qec) := ⟨(H13.out.1).below fb, chain (H13.out.2.1) fb, (H13.out.2.2.1).below fb, (H13.out.2.2.2.1).below fb, (H13.out.2.2.2.2.1).below fb, (H13.out.2.2.2.2.2.1).below fb, (H13.out.2.2.2.2.2.2.1).below fb, (H13.out.2.2.2.2.2.2.2.1).below fb, (H13.out.2.2.2.2.2.2.2.2.1).below fb, (H13.out.2.2.2.2.2.2.2.2.2.1).below fb, (H13.out.2.2.2.2.2.2.2.2.2.2.1).below fb, (H13.out.2.2.2.2.2.2.2.2.2.2.2.1).below fb, (H13.out.2.2.2.2.2.2.2.2.2.2.2.2.1).below fb, (H13.out.2.2.2.2.2.2.2.2.2.2.2.2.2.1).below fb, (H13.out.2.2.2.2.2.2.2.2.2.2.2.2.2.2.1).below fb, (H13.out.2.2.2.2.2.2.2.2.2.2.2.2.2.2.2).below fb⟩
  clear fb
  go_wp2
  go_ret
  exact ⟨rfl, H14.out.2.1⟩
end Go.Proofs.Ytnkjfandknndkaa
