/-
  Joined: MJ · MK · MQ.
-/
import Derived.Below
import Derived.ChangeOld
import Derived.Laws.IdiomArrays
import Derived.OpenShut
import Derived.ProofKit
import Derived.Test.YtnedghhcidohnaaGreatJI1

/-! What the laws of layer 8 need: arguments of four, small monomials, contracts over named answers. -/
namespace Go.Proofs.YtnedghhcidohnaaGreat.Mn
open Go.ChangeShapes Go.WideShapes Go.ChangeAt Go.RowKit

theorem own : ownKnob Tryz.prog.godebug = none := by kernel_rfl

theorem array4 {α : Type} {cs : Array α} (h : cs.size = 4) : ∃ c0 c1 c2 c3, cs = #[c0, c1, c2, c3] := by
  obtain ⟨l⟩ := cs
  match l, h with
  | [c0, c1, c2, c3], _ => exact ⟨c0, c1, c2, c3, rfl⟩
theorem cells23 : Tryz.prog.cellsOf 47 = 4 := by kernel_rfl
theorem cells5 : Tryz.prog.cellsOf 5 = 1 := by kernel_rfl

theorem at23_0 {W : World} {B : Nat} {a b c d : Int} (h : W.heap[B]? = some (.cells #[.int .i64 a, .int .i64 b, .int .i64 c, .int .i64 d] 47 (0, 0))) : W.cell? ⟨B, 0, none⟩ = some (.int .i64 a) := by simp [World.cell?, h]
theorem at23_1 {W : World} {B : Nat} {a b c d : Int} (h : W.heap[B]? = some (.cells #[.int .i64 a, .int .i64 b, .int .i64 c, .int .i64 d] 47 (0, 0))) : W.cell? ⟨B, 1, none⟩ = some (.int .i64 b) := by simp [World.cell?, h]
theorem at23_2 {W : World} {B : Nat} {a b c d : Int} (h : W.heap[B]? = some (.cells #[.int .i64 a, .int .i64 b, .int .i64 c, .int .i64 d] 47 (0, 0))) : W.cell? ⟨B, 2, none⟩ = some (.int .i64 c) := by simp [World.cell?, h]
theorem at23_3 {W : World} {B : Nat} {a b c d : Int} (h : W.heap[B]? = some (.cells #[.int .i64 a, .int .i64 b, .int .i64 c, .int .i64 d] 47 (0, 0))) : W.cell? ⟨B, 3, none⟩ = some (.int .i64 d) := by simp [World.cell?, h]

/-- A monomial whose exponents are at most 20. -/
structure Sm (a b c d : Int) : Prop where
  x0 : 0 ≤ a
  x1 : a ≤ 20
  y0 : 0 ≤ b
  y1 : b ≤ 20
  z0 : 0 ≤ c
  z1 : c ≤ 20
  u0 : 0 ≤ d
  u1 : d ≤ 20
theorem may_zero : May4 0 0 0 0 := ⟨⟨by omega, by omega⟩, ⟨by omega, by omega⟩, ⟨by omega, by omega⟩, ⟨by omega, by omega⟩⟩

theorem eq_val (a b c d p q r s : Int) (t : Bool) (h : t = eqB a b c d p q r s) (w : World) : (Op.equalIn 10000 47 (.agg #[.int .i64 a, .int .i64 b, .int .i64 c, .int .i64 d]) (.agg #[.int .i64 p, .int .i64 q, .int .i64 r, .int .i64 s])).run Tryz.prog w = .ok t w := by
  rw [h]
  exact eq_m a b c d p q r s w
theorem eqB_self (a b c d : Int) : true = eqB a b c d a b c d := by simp [eqB]

end Go.Proofs.YtnedghhcidohnaaGreat.Mn

/-! The three orders are orders. -/
namespace Go.Proofs.YtnedghhcidohnaaGreat.Mn
open Go.RowKit

theorem cmpI_spec (a b : Int) : (cmpI a b = 1 ∧ b < a) ∨ (cmpI a b = 0 ∧ a = b) ∨ (cmpI a b = -1 ∧ a < b) := by
  unfold cmpI
  rcases Int.lt_trichotomy a b with h | h | h
  · rw [if_pos h]; omega
  · rw [if_neg (by omega), if_neg (by omega)]; omega
  · rw [if_neg (by omega), if_pos h]; omega
theorem lexI_spec (a b c d p q r s : Int) : (lexI a b c d p q r s = 1 ∧ (p < a ∨ (a = p ∧ (q < b ∨ (b = q ∧ (r < c ∨ (c = r ∧ s < d))))))) ∨ (lexI a b c d p q r s = 0 ∧ (a = p ∧ b = q ∧ c = r ∧ d = s)) ∨ (lexI a b c d p q r s = -1 ∧ (a < p ∨ (p = a ∧ (b < q ∨ (q = b ∧ (c < r ∨ (r = c ∧ d < s))))))) := by
  have h1 := cmpI_spec a p
  have h2 := cmpI_spec b q
  have h3 := cmpI_spec c r
  have h4 := cmpI_spec d s
  unfold lexI
  by_cases e1 : a = p
  · rw [if_pos e1]
    by_cases e2 : b = q
    · rw [if_pos e2]
      by_cases e3 : c = r
      · rw [if_pos e3]; omega
      · rw [if_neg e3]; omega
    · rw [if_neg e2]; omega
  · rw [if_neg e1]; omega
theorem revI_spec (a b c d p q r s : Int) : (revI a b c d p q r s = 1 ∧ (d < s ∨ (d = s ∧ (c < r ∨ (c = r ∧ (b < q ∨ (b = q ∧ a < p))))))) ∨ (revI a b c d p q r s = 0 ∧ (a = p ∧ b = q ∧ c = r ∧ d = s)) ∨ (revI a b c d p q r s = -1 ∧ (s < d ∨ (s = d ∧ (r < c ∨ (r = c ∧ (q < b ∨ (q = b ∧ p < a))))))) := by
  have h1 := cmpI_spec p a
  have h2 := cmpI_spec q b
  have h3 := cmpI_spec r c
  have h4 := cmpI_spec s d
  unfold revI
  by_cases e1 : d = s
  · rw [if_pos e1]
    by_cases e2 : c = r
    · rw [if_pos e2]
      by_cases e3 : b = q
      · rw [if_pos e3]; omega
      · rw [if_neg e3]; omega
    · rw [if_neg e2]; omega
  · rw [if_neg e1]; omega

/-- Above, by an order. -/
structure Up (o a b c d p q r s : Int) : Prop where
  lex : o = 0 → (p < a ∨ (a = p ∧ (q < b ∨ (b = q ∧ (r < c ∨ (c = r ∧ s < d))))))
  grl : o = 1 → (p + q + r + s < a + b + c + d ∨ (a + b + c + d = p + q + r + s ∧ (p < a ∨ (a = p ∧ (q < b ∨ (b = q ∧ (r < c ∨ (c = r ∧ s < d))))))))
  rev : o = 2 → (p + q + r + s < a + b + c + d ∨ (a + b + c + d = p + q + r + s ∧ (d < s ∨ (d = s ∧ (c < r ∨ (c = r ∧ (b < q ∨ (b = q ∧ a < p))))))))

/-- What Cmp tells, of two that may be, by an order that is one. -/
theorem CmpIs.spec {o a b c d p q r s k : Int} (h : CmpIs o a b c d p q r s k) (hb : Both a b c d p q r s) (h0 : 0 ≤ o) (h2 : o ≤ 2) : (k = 1 ∧ Up o a b c d p q r s) ∨ (k = 0 ∧ (a = p ∧ b = q ∧ c = r ∧ d = s)) ∨ (k = -1 ∧ Up o p q r s a b c d) := by
  have h3 : o = 0 ∨ o = 1 ∨ o = 2 := by omega
  have hl := lexI_spec a b c d p q r s
  have hr := revI_spec a b c d p q r s
  have hd := cmpI_spec (a + b + c + d) (p + q + r + s)
  rcases h3 with rfl | rfl | rfl
  · rw [h.lex hb rfl]
    rcases hl with ⟨e, g⟩ | ⟨e, g⟩ | ⟨e, g⟩
    · exact Or.inl ⟨e, fun _ => g, fun h => by omega, fun h => by omega⟩
    · exact Or.inr (Or.inl ⟨e, g⟩)
    · exact Or.inr (Or.inr ⟨e, fun _ => g, fun h => by omega, fun h => by omega⟩)
  · rw [h.grl hb rfl]
    unfold degI
    by_cases e1 : a + b + c + d = p + q + r + s
    · rw [if_pos e1]
      rcases hl with ⟨e, g⟩ | ⟨e, g⟩ | ⟨e, g⟩
      · exact Or.inl ⟨e, fun h => by omega, fun _ => Or.inr ⟨e1, g⟩, fun h => by omega⟩
      · exact Or.inr (Or.inl ⟨e, g⟩)
      · exact Or.inr (Or.inr ⟨e, fun h => by omega, fun _ => Or.inr ⟨e1.symm, g⟩, fun h => by omega⟩)
    · rw [if_neg e1]
      rcases hd with ⟨e, g⟩ | ⟨e, g⟩ | ⟨e, g⟩
      · exact Or.inl ⟨e, fun h => by omega, fun _ => Or.inl g, fun h => by omega⟩
      · exact absurd g e1
      · exact Or.inr (Or.inr ⟨e, fun h => by omega, fun _ => Or.inl g, fun h => by omega⟩)
  · rw [h.rev hb rfl]
    unfold degI
    by_cases e1 : a + b + c + d = p + q + r + s
    · rw [if_pos e1]
      rcases hr with ⟨e, g⟩ | ⟨e, g⟩ | ⟨e, g⟩
      · exact Or.inl ⟨e, fun h => by omega, fun h => by omega, fun _ => Or.inr ⟨e1, g⟩⟩
      · exact Or.inr (Or.inl ⟨e, g⟩)
      · exact Or.inr (Or.inr ⟨e, fun h => by omega, fun h => by omega, fun _ => Or.inr ⟨e1.symm, g⟩⟩)
    · rw [if_neg e1]
      rcases hd with ⟨e, g⟩ | ⟨e, g⟩ | ⟨e, g⟩
      · exact Or.inl ⟨e, fun h => by omega, fun h => by omega, fun _ => Or.inl g⟩
      · exact absurd g e1
      · exact Or.inr (Or.inr ⟨e, fun h => by omega, fun h => by omega, fun _ => Or.inl g⟩)

theorem Up.irr {o a b c d p q r s : Int} (h : Up o a b c d p q r s) (g : Up o p q r s a b c d) (h0 : 0 ≤ o) (h2 : o ≤ 2) : False := by
  have h3 : o = 0 ∨ o = 1 ∨ o = 2 := by omega
  rcases h3 with rfl | rfl | rfl
  · have := h.lex rfl; have := g.lex rfl; omega
  · have := h.grl rfl; have := g.grl rfl; omega
  · have := h.rev rfl; have := g.rev rfl; omega
theorem Up.self {o a b c d : Int} (h : Up o a b c d a b c d) (h0 : 0 ≤ o) (h2 : o ≤ 2) : False := h.irr h h0 h2
theorem Up.trans {o a b c d p q r s i j l m : Int} (h : Up o a b c d p q r s) (g : Up o p q r s i j l m) (h0 : 0 ≤ o) (h2 : o ≤ 2) : Up o a b c d i j l m := by
  have h3 : o = 0 ∨ o = 1 ∨ o = 2 := by omega
  rcases h3 with rfl | rfl | rfl
  · refine ⟨fun _ => ?_, fun h => by omega, fun h => by omega⟩
    have := h.lex rfl; have := g.lex rfl; omega
  · refine ⟨fun h => by omega, fun _ => ?_, fun h => by omega⟩
    have := h.grl rfl; have := g.grl rfl; omega
  · refine ⟨fun h => by omega, fun h => by omega, fun _ => ?_⟩
    have := h.rev rfl; have := g.rev rfl; omega
theorem Up.add {o a b c d p q r s i j l m : Int} (h : Up o a b c d p q r s) (h0 : 0 ≤ o) (h2 : o ≤ 2) : Up o (a + i) (b + j) (c + l) (d + m) (p + i) (q + j) (r + l) (s + m) := by
  have h3 : o = 0 ∨ o = 1 ∨ o = 2 := by omega
  rcases h3 with rfl | rfl | rfl
  · refine ⟨fun _ => ?_, fun h => by omega, fun h => by omega⟩
    have := h.lex rfl; omega
  · refine ⟨fun h => by omega, fun _ => ?_, fun h => by omega⟩
    have := h.grl rfl; omega
  · refine ⟨fun h => by omega, fun h => by omega, fun _ => ?_⟩
    have := h.rev rfl; omega
theorem Up.least {o a b c d i j l m : Int} (h : Up o a b c d (a + i) (b + j) (c + l) (d + m)) (hi : 0 ≤ i) (hj : 0 ≤ j) (hl : 0 ≤ l) (hm : 0 ≤ m) (h0 : 0 ≤ o) (h2 : o ≤ 2) : False := by
  have h3 : o = 0 ∨ o = 1 ∨ o = 2 := by omega
  rcases h3 with rfl | rfl | rfl
  · have := h.lex rfl; omega
  · have := h.grl rfl; omega
  · have := h.rev rfl; omega

/-- The other way round it is the other one. -/
theorem CmpIs.turn {o a b c d p q r s k n : Int} (h : CmpIs o a b c d p q r s k) (g : CmpIs o p q r s a b c d n) (hb : Both a b c d p q r s) (h0 : 0 ≤ o) (h2 : o ≤ 2) : k = -n := by
  rcases h.spec hb h0 h2 with ⟨e, u⟩ | ⟨e, u⟩ | ⟨e, u⟩ <;> rcases g.spec ⟨hb.b, hb.a⟩ h0 h2 with ⟨f, v⟩ | ⟨f, v⟩ | ⟨f, v⟩
  · exact (u.irr v h0 h2).elim
  · obtain ⟨rfl, rfl, rfl, rfl⟩ := v; exact (u.self h0 h2).elim
  · omega
  · obtain ⟨rfl, rfl, rfl, rfl⟩ := u; exact (v.self h0 h2).elim
  · omega
  · obtain ⟨rfl, rfl, rfl, rfl⟩ := u; exact (v.self h0 h2).elim
  · omega
  · obtain ⟨rfl, rfl, rfl, rfl⟩ := v; exact (u.self h0 h2).elim
  · exact (u.irr v h0 h2).elim
theorem CmpIs.zero {o a b c d p q r s k : Int} (h : CmpIs o a b c d p q r s k) (hb : Both a b c d p q r s) (h0 : 0 ≤ o) (h2 : o ≤ 2) : (k == 0) = eqB a b c d p q r s := by
  rw [Bool.eq_iff_iff, eqB_iff, beq_iff_eq]
  rcases h.spec hb h0 h2 with ⟨e, u⟩ | ⟨e, u⟩ | ⟨e, u⟩
  · exact ⟨fun z => by omega, fun ⟨e1, e2, e3, e4⟩ => by subst e1 e2 e3 e4; exact (u.self h0 h2).elim⟩
  · exact ⟨fun _ => u, fun _ => e⟩
  · exact ⟨fun z => by omega, fun ⟨e1, e2, e3, e4⟩ => by subst e1 e2 e3 e4; exact (u.self h0 h2).elim⟩
theorem CmpIs.bd {o a b c d p q r s k : Int} (h : CmpIs o a b c d p q r s k) (hb : Both a b c d p q r s) (h0 : 0 ≤ o) (h2 : o ≤ 2) : -1 ≤ k ∧ k ≤ 1 := by
  rcases h.spec hb h0 h2 with ⟨e, u⟩ | ⟨e, u⟩ | ⟨e, u⟩ <;> omega
theorem CmpIs.thru {o a b c d p q r s i j l m k n t : Int} (h : CmpIs o a b c d p q r s k) (g : CmpIs o p q r s i j l m n) (f : CmpIs o a b c d i j l m t) (ha : May4 a b c d) (hp : May4 p q r s) (hi : May4 i j l m) (h0 : 0 ≤ o) (h2 : o ≤ 2) (hk : 0 ≤ k) (hn : 0 ≤ n) : 0 ≤ t := by
  rcases f.spec ⟨ha, hi⟩ h0 h2 with ⟨e, u⟩ | ⟨e, u⟩ | ⟨e, u⟩
  · omega
  · omega
  · rcases h.spec ⟨ha, hp⟩ h0 h2 with ⟨e1, u1⟩ | ⟨e1, u1⟩ | ⟨e1, u1⟩
    · rcases g.spec ⟨hp, hi⟩ h0 h2 with ⟨e2, u2⟩ | ⟨e2, u2⟩ | ⟨e2, u2⟩
      · exact ((u1.trans u2 h0 h2).irr u h0 h2).elim
      · obtain ⟨rfl, rfl, rfl, rfl⟩ := u2; exact (u1.irr u h0 h2).elim
      · omega
    · obtain ⟨rfl, rfl, rfl, rfl⟩ := u1
      rcases g.spec ⟨hp, hi⟩ h0 h2 with ⟨e2, u2⟩ | ⟨e2, u2⟩ | ⟨e2, u2⟩
      · exact (u2.irr u h0 h2).elim
      · obtain ⟨rfl, rfl, rfl, rfl⟩ := u2; exact (u.self h0 h2).elim
      · omega
    · omega
/-- Times any monomial an order is kept. -/
theorem CmpIs.kept {o a b c d p q r s i j l m k n : Int} (h : CmpIs o a b c d p q r s k) (g : CmpIs o (a + i) (b + j) (c + l) (d + m) (p + i) (q + j) (r + l) (s + m) n) (hb : Both a b c d p q r s) (hg : Both (a + i) (b + j) (c + l) (d + m) (p + i) (q + j) (r + l) (s + m)) (h0 : 0 ≤ o) (h2 : o ≤ 2) : n = k := by
  rcases g.spec hg h0 h2 with ⟨f, v⟩ | ⟨f, v⟩ | ⟨f, v⟩ <;> rcases h.spec hb h0 h2 with ⟨e, u⟩ | ⟨e, u⟩ | ⟨e, u⟩
  · omega
  · obtain ⟨rfl, rfl, rfl, rfl⟩ := u; exact (v.self h0 h2).elim
  · exact (v.irr (u.add h0 h2) h0 h2).elim
  · have := u.add (i := i) (j := j) (l := l) (m := m) h0 h2
    rw [v.1, v.2.1, v.2.2.1, v.2.2.2] at this
    exact (this.self h0 h2).elim
  · omega
  · have := u.add (i := i) (j := j) (l := l) (m := m) h0 h2
    rw [v.1, v.2.1, v.2.2.1, v.2.2.2] at this
    exact (this.self h0 h2).elim
  · exact (v.irr (u.add h0 h2) h0 h2).elim
  · obtain ⟨rfl, rfl, rfl, rfl⟩ := u; exact (v.self h0 h2).elim
  · omega
/-- A product is not below a part of it. -/
theorem CmpIs.part {o a b c d i j l m k : Int} (h : CmpIs o (a + i) (b + j) (c + l) (d + m) a b c d k) (hb : Both (a + i) (b + j) (c + l) (d + m) a b c d) (hi : 0 ≤ i) (hj : 0 ≤ j) (hl : 0 ≤ l) (hm : 0 ≤ m) (h0 : 0 ≤ o) (h2 : o ≤ 2) : 0 ≤ k := by
  rcases h.spec hb h0 h2 with ⟨e, u⟩ | ⟨e, u⟩ | ⟨e, u⟩
  · omega
  · omega
  · exact (u.least hi hj hl hm h0 h2).elim

end Go.Proofs.YtnedghhcidohnaaGreat.Mn

/-! A region that draws its order, whose calls tell one value and make memory of their own: one walk, in the text's order. -/
namespace Go.Proofs.YtnedghhcidohnaaGreat.Mn
open Go.RowKit

/-- A world in which all that lay in W lies as it did. -/
structure Wd (W : World) where
  w : World
  h : Below W.heap.size W w

theorem Wd.at {W : World} (n : Wd W) {B : Nat} {o : Obj} (h : W.heap[B]? = some o) : n.w.heap[B]? = some o := keepAt h n.h

theorem region_wd {P : Program} {id : Nat} {Q : Exit → Act → World → Prop} {a : Act} {w : World} {l : List Oper} (hm : P.follows .mixedOrders = true) (hB : Region.lexB .any l.toArray = true)
    (h : wpQuiet P l.toArray (fun w' => ∃ n : Wd w, w' = n.w) (fun a' => ∀ w', (∃ n : Wd w, w' = n.w) → Q .normal a' w') l a) : (Code.region id l.toArray true).wp P Q a w :=
  wp_region_quiet (C := fun w' => ∃ n : Wd w, w' = n.w) hm hB ⟨⟨_, (Below.refl _ _).drew⟩, rfl⟩ (by simpa using h)

theorem wd_of {P : Program} {f : FuncId} {args : Array Value} {W : World} {n : Wd W} {v : Value} (h : Calls P f args n.w fun e w' => e = .returned v ∧ Below n.w.heap.size n.w w') : Calls P f args n.w fun e w' => e = .returned v ∧ ∃ m : Wd W, w' = m.w :=
  h.mono fun _ _ ⟨he, hb⟩ => ⟨he, ⟨_, chain n.h hb⟩, rfl⟩

end Go.Proofs.YtnedghhcidohnaaGreat.Mn
