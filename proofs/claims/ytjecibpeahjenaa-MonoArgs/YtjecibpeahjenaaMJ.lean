/-
  What the laws of layer 8 need: arguments of four, small monomials, contracts over named answers.
-/
import Derived.Test.YtjecibpeahjenaaMI
import Derived.ProofKit
import Derived.OpenShut
import Derived.ChangeOld
import Derived.Below
import Derived.Laws.IdiomArrays
namespace Go.Proofs.Ytjecibpeahjenaa
open Go.ChangeShapes Go.WideShapes Go.ChangeAt Go.RowKit

theorem own : ownKnob Try.prog.godebug = none := by kernel_rfl

theorem array4 {α : Type} {cs : Array α} (h : cs.size = 4) : ∃ c0 c1 c2 c3, cs = #[c0, c1, c2, c3] := by
  obtain ⟨l⟩ := cs
  match l, h with
  | [c0, c1, c2, c3], _ => exact ⟨c0, c1, c2, c3, rfl⟩
theorem cells36 : Try.prog.cellsOf 36 = 4 := by kernel_rfl
theorem cells23 : Try.prog.cellsOf 23 = 4 := by kernel_rfl
theorem cells5 : Try.prog.cellsOf 5 = 1 := by kernel_rfl

theorem okWide_arr4 {t e : TypeId} {n : Nat} {w : World} {r : Reach} {base : Nat} {v : Value} (ht : Try.prog.underlying t = some (.array n e)) (h : Value.okWide Try.prog w r base t v) : ∃ cs, v = .agg cs ∧ cs.size = Try.prog.cellsOf t := by
  cases v <;> simp_all [Value.okWide]

variable {H : Type} {enc : TypeId × Value → H} {w : World} {base : Nat} {spare : Nat → Bool} {held : Bool}

theorem open_u4 {r : Reach} {b0 : Nat} {v : Value} {d : DataW H} {p : List MemPlace} (hv : Value.okWide Try.prog w r b0 36 v) (h : DataW.Trod enc Try.prog w base spare held 36 v d p) :
    ∃ n0 n1 n2 n3, v = .agg #[.int .u8 n0, .int .u8 n1, .int .u8 n2, .int .u8 n3] ∧ d = .agg [.lit (.int .u8 n0), .lit (.int .u8 n1), .lit (.int .u8 n2), .lit (.int .u8 n3)] ∧ p = [] ∧ (Lit.int .u8 n0).wf = true ∧ (Lit.int .u8 n1).wf = true ∧ (Lit.int .u8 n2).wf = true ∧ (Lit.int .u8 n3).wf = true := by
  obtain ⟨cs, rfl, hsz⟩ := okWide_arr4 Try.underlying36 hv
  obtain ⟨c0, c1, c2, c3, rfl⟩ := array4 (hsz.trans cells36)
  obtain ⟨fuel, hf⟩ := h
  obtain ⟨a0, a1, a2, a3, m, hx, k0, k1, k2, k3⟩ := trod_array4 Try.underlying36 cells5 (show DataW.trod enc Try.prog w base spare held fuel 36 [c0, c1, c2, c3] = some (d, p) by simpa [Value.cells] using hf)
  obtain ⟨n0, e0, rfl, w0⟩ := DataW.trod_int Try.underlying5 k0
  obtain ⟨n1, e1, rfl, w1⟩ := DataW.trod_int Try.underlying5 k1
  obtain ⟨n2, e2, rfl, w2⟩ := DataW.trod_int Try.underlying5 k2
  obtain ⟨n3, e3, rfl, w3⟩ := DataW.trod_int Try.underlying5 k3
  simp only [List.cons.injEq, and_true] at e0 e1 e2 e3
  subst e0 e1 e2 e3
  simp only [Prod.mk.injEq] at hx
  obtain ⟨rfl, rfl⟩ := hx
  exact ⟨n0, n1, n2, n3, rfl, rfl, rfl, w0, w1, w2, w3⟩

theorem shut_u4 {n0 n1 n2 n3 : Int} (w0 : (Lit.int .u8 n0).wf = true) (w1 : (Lit.int .u8 n1).wf = true) (w2 : (Lit.int .u8 n2).wf = true) (w3 : (Lit.int .u8 n3).wf = true) :
    DataW.Trod enc Try.prog w base spare held 36 (.agg #[.int .u8 n0, .int .u8 n1, .int .u8 n2, .int .u8 n3]) (.agg [.lit (.int .u8 n0), .lit (.int .u8 n1), .lit (.int .u8 n2), .lit (.int .u8 n3)]) [] := by
  refine ⟨2, ?_⟩
  have r4 : List.range 4 = [0, 1, 2, 3] := rfl
  show DataW.trod enc Try.prog w base spare held 2 36 [.int .u8 n0, .int .u8 n1, .int .u8 n2, .int .u8 n3] = _
  unfold DataW.trod
  rw [Try.underlying36]
  simp [r4, cells5, cells36, DataW.trod, Try.underlying5, w0, w1, w2, w3]

theorem open_i4 {r : Reach} {b0 : Nat} {v : Value} {d : DataW H} {p : List MemPlace} (hv : Value.okWide Try.prog w r b0 23 v) (h : DataW.Trod enc Try.prog w base spare held 23 v d p) :
    ∃ n0 n1 n2 n3, v = .agg #[.int .i64 n0, .int .i64 n1, .int .i64 n2, .int .i64 n3] ∧ d = .agg [.lit (.int .i64 n0), .lit (.int .i64 n1), .lit (.int .i64 n2), .lit (.int .i64 n3)] ∧ p = [] ∧ (Lit.int .i64 n0).wf = true ∧ (Lit.int .i64 n1).wf = true ∧ (Lit.int .i64 n2).wf = true ∧ (Lit.int .i64 n3).wf = true := by
  obtain ⟨cs, rfl, hsz⟩ := okWide_arr4 Try.underlying23 hv
  obtain ⟨c0, c1, c2, c3, rfl⟩ := array4 (hsz.trans cells23)
  obtain ⟨fuel, hf⟩ := h
  obtain ⟨a0, a1, a2, a3, m, hx, k0, k1, k2, k3⟩ := trod_array4 Try.underlying23 cells3 (show DataW.trod enc Try.prog w base spare held fuel 23 [c0, c1, c2, c3] = some (d, p) by simpa [Value.cells] using hf)
  obtain ⟨n0, e0, rfl, w0⟩ := DataW.trod_int Try.underlying3 k0
  obtain ⟨n1, e1, rfl, w1⟩ := DataW.trod_int Try.underlying3 k1
  obtain ⟨n2, e2, rfl, w2⟩ := DataW.trod_int Try.underlying3 k2
  obtain ⟨n3, e3, rfl, w3⟩ := DataW.trod_int Try.underlying3 k3
  simp only [List.cons.injEq, and_true] at e0 e1 e2 e3
  subst e0 e1 e2 e3
  simp only [Prod.mk.injEq] at hx
  obtain ⟨rfl, rfl⟩ := hx
  exact ⟨n0, n1, n2, n3, rfl, rfl, rfl, w0, w1, w2, w3⟩

theorem shut_i4 {n0 n1 n2 n3 : Int} (w0 : (Lit.int .i64 n0).wf = true) (w1 : (Lit.int .i64 n1).wf = true) (w2 : (Lit.int .i64 n2).wf = true) (w3 : (Lit.int .i64 n3).wf = true) :
    DataW.Trod enc Try.prog w base spare held 23 (.agg #[.int .i64 n0, .int .i64 n1, .int .i64 n2, .int .i64 n3]) (.agg [.lit (.int .i64 n0), .lit (.int .i64 n1), .lit (.int .i64 n2), .lit (.int .i64 n3)]) [] := by
  refine ⟨2, ?_⟩
  have r4 : List.range 4 = [0, 1, 2, 3] := rfl
  show DataW.trod enc Try.prog w base spare held 2 23 [.int .i64 n0, .int .i64 n1, .int .i64 n2, .int .i64 n3] = _
  unfold DataW.trod
  rw [Try.underlying23]
  simp [r4, cells3, cells23, DataW.trod, Try.underlying3, w0, w1, w2, w3]
theorem at36_0 {W : World} {B : Nat} {a b c d : Int} (h : W.heap[B]? = some (.cells #[.int .u8 a, .int .u8 b, .int .u8 c, .int .u8 d] 36 (0, 0))) : W.cell? ⟨B, 0, none⟩ = some (.int .u8 a) := by simp [World.cell?, h]
theorem at36_1 {W : World} {B : Nat} {a b c d : Int} (h : W.heap[B]? = some (.cells #[.int .u8 a, .int .u8 b, .int .u8 c, .int .u8 d] 36 (0, 0))) : W.cell? ⟨B, 1, none⟩ = some (.int .u8 b) := by simp [World.cell?, h]
theorem at36_2 {W : World} {B : Nat} {a b c d : Int} (h : W.heap[B]? = some (.cells #[.int .u8 a, .int .u8 b, .int .u8 c, .int .u8 d] 36 (0, 0))) : W.cell? ⟨B, 2, none⟩ = some (.int .u8 c) := by simp [World.cell?, h]
theorem at36_3 {W : World} {B : Nat} {a b c d : Int} (h : W.heap[B]? = some (.cells #[.int .u8 a, .int .u8 b, .int .u8 c, .int .u8 d] 36 (0, 0))) : W.cell? ⟨B, 3, none⟩ = some (.int .u8 d) := by simp [World.cell?, h]
theorem at23_0 {W : World} {B : Nat} {a b c d : Int} (h : W.heap[B]? = some (.cells #[.int .i64 a, .int .i64 b, .int .i64 c, .int .i64 d] 23 (0, 0))) : W.cell? ⟨B, 0, none⟩ = some (.int .i64 a) := by simp [World.cell?, h]
theorem at23_1 {W : World} {B : Nat} {a b c d : Int} (h : W.heap[B]? = some (.cells #[.int .i64 a, .int .i64 b, .int .i64 c, .int .i64 d] 23 (0, 0))) : W.cell? ⟨B, 1, none⟩ = some (.int .i64 b) := by simp [World.cell?, h]
theorem at23_2 {W : World} {B : Nat} {a b c d : Int} (h : W.heap[B]? = some (.cells #[.int .i64 a, .int .i64 b, .int .i64 c, .int .i64 d] 23 (0, 0))) : W.cell? ⟨B, 2, none⟩ = some (.int .i64 c) := by simp [World.cell?, h]
theorem at23_3 {W : World} {B : Nat} {a b c d : Int} (h : W.heap[B]? = some (.cells #[.int .i64 a, .int .i64 b, .int .i64 c, .int .i64 d] 23 (0, 0))) : W.cell? ⟨B, 3, none⟩ = some (.int .i64 d) := by simp [World.cell?, h]

/-- A monomial whose exponents are at most 20. -/
structure Sm (a b c d : Int) : Prop where
  x0 : 0 ≤ a
  x1 : a ≤ 20
  y0 : 0 ≤ b
  y1 : b ≤ 20
  z0 : 0 ≤ c
  z1 : c ≤ 20
  u0 : 0 ≤ d
  u1 : d ≤ 20
theorem Sm.may {a b c d : Int} (h : Sm a b c d) : May4 a b c d := by
  obtain ⟨h1, h2, h3, h4, h5, h6, h7, h8⟩ := h
  exact ⟨⟨by omega, by omega⟩, ⟨by omega, by omega⟩, ⟨by omega, by omega⟩, ⟨by omega, by omega⟩⟩
theorem Sm.add {a b c d p q r s : Int} (h : Sm a b c d) (g : Sm p q r s) : May4 (a + p) (b + q) (c + r) (d + s) := by
  obtain ⟨h1, h2, h3, h4, h5, h6, h7, h8⟩ := h
  obtain ⟨g1, g2, g3, g4, g5, g6, g7, g8⟩ := g
  exact ⟨⟨by omega, by omega⟩, ⟨by omega, by omega⟩, ⟨by omega, by omega⟩, ⟨by omega, by omega⟩⟩
theorem Sm.mod {a b c d x y z u : Int} (hx : x = a % 21) (hy : y = b % 21) (hz : z = c % 21) (hu : u = d % 21) : Sm x y z u := by
  refine ⟨?_, ?_, ?_, ?_, ?_, ?_, ?_, ?_⟩ <;> omega
theorem may_zero : May4 0 0 0 0 := ⟨⟨by omega, by omega⟩, ⟨by omega, by omega⟩, ⟨by omega, by omega⟩, ⟨by omega, by omega⟩⟩

/-- Div, of two that may be: whether it divides. -/
theorem div_t (a b c d p q r s : Int) (w : World) (h : Both a b c d p q r s) (t : Bool) (ht : t = true ↔ May4 (a - p) (b - q) (c - r) (d - s)) :
    Calls Try.prog 11 #[.agg #[.int .i64 a, .int .i64 b, .int .i64 c, .int .i64 d], .agg #[.int .i64 p, .int .i64 q, .int .i64 r, .int .i64 s]] w fun e w' => (∃ x y z u : Int, e = .returned (.tuple #[.agg #[.int .i64 x, .int .i64 y, .int .i64 z, .int .i64 u], .bool t])) ∧ Below w.heap.size w w' := by
  cases t with
  | true => exact (div_ok a b c d p q r s w h (ht.1 rfl)).mono fun _ _ ⟨h1, h2⟩ => ⟨⟨_, _, _, _, h1⟩, h2⟩
  | false => exact (div_exp a b c d p q r s w h (fun hm => by have := ht.2 hm; cases this)).mono fun _ _ ⟨h1, h2⟩ => ⟨⟨_, _, _, _, h1⟩, h2⟩
theorem mul_val (a b c d p q r s x y z u : Int) (w : World) (h : Both a b c d p q r s) (hm : May4 x y z u) (hx : x = a + p) (hy : y = b + q) (hz : z = c + r) (hu : u = d + s) :
    Calls Try.prog 9 #[.agg #[.int .i64 a, .int .i64 b, .int .i64 c, .int .i64 d], .agg #[.int .i64 p, .int .i64 q, .int .i64 r, .int .i64 s]] w fun e w' => e = .returned (.tuple #[.agg #[.int .i64 x, .int .i64 y, .int .i64 z, .int .i64 u], .int .i64 0]) ∧ Below w.heap.size w w' := by
  subst hx hy hz hu
  exact mul_ok a b c d p q r s w h hm
theorem lcm_val (a b c d p q r s x y z u : Int) (w : World) (h : Both a b c d p q r s) (hx : x = max a p) (hy : y = max b q) (hz : z = max c r) (hu : u = max d s) :
    Calls Try.prog 17 #[.agg #[.int .i64 a, .int .i64 b, .int .i64 c, .int .i64 d], .agg #[.int .i64 p, .int .i64 q, .int .i64 r, .int .i64 s]] w fun e w' => e = .returned (.agg #[.int .i64 x, .int .i64 y, .int .i64 z, .int .i64 u]) ∧ Below w.heap.size w w' := by
  subst hx hy hz hu
  exact lcm_ok a b c d p q r s w h
theorem eq_val (a b c d p q r s : Int) (t : Bool) (h : t = eqB a b c d p q r s) (w : World) : (Op.equalIn 10000 23 (.agg #[.int .i64 a, .int .i64 b, .int .i64 c, .int .i64 d]) (.agg #[.int .i64 p, .int .i64 q, .int .i64 r, .int .i64 s])).run Try.prog w = .ok t w := by
  rw [h]
  exact eq_m a b c d p q r s w
theorem eqB_self (a b c d : Int) : true = eqB a b c d a b c d := by simp [eqB]

end Go.Proofs.Ytjecibpeahjenaa
