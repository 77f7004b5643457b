/-
  The three orders are orders.
-/
import Derived.Test.YtjecibpeahjenaaMJ
namespace Go.Proofs.Ytjecibpeahjenaa
open Go.RowKit

theorem cmpI_spec (a b : Int) : (cmpI a b = 1 ∧ b < a) ∨ (cmpI a b = 0 ∧ a = b) ∨ (cmpI a b = -1 ∧ a < b) := by
  unfold cmpI
  rcases Int.lt_trichotomy a b with h | h | h
  · rw [if_pos h]; omega
  · rw [if_neg (by omega), if_neg (by omega)]; omega
  · rw [if_neg (by omega), if_pos h]; omega
theorem lexI_spec (a b c d p q r s : Int) : (lexI a b c d p q r s = 1 ∧ (p < a ∨ (a = p ∧ (q < b ∨ (b = q ∧ (r < c ∨ (c = r ∧ s < d))))))) ∨ (lexI a b c d p q r s = 0 ∧ (a = p ∧ b = q ∧ c = r ∧ d = s)) ∨ (lexI a b c d p q r s = -1 ∧ (a < p ∨ (p = a ∧ (b < q ∨ (q = b ∧ (c < r ∨ (r = c ∧ d < s))))))) := by
  have h1 := cmpI_spec a p
  have h2 := cmpI_spec b q
  have h3 := cmpI_spec c r
  have h4 := cmpI_spec d s
  unfold lexI
  by_cases e1 : a = p
  · rw [if_pos e1]
    by_cases e2 : b = q
    · rw [if_pos e2]
      by_cases e3 : c = r
      · rw [if_pos e3]; omega
      · rw [if_neg e3]; omega
    · rw [if_neg e2]; omega
  · rw [if_neg e1]; omega
theorem revI_spec (a b c d p q r s : Int) : (revI a b c d p q r s = 1 ∧ (d < s ∨ (d = s ∧ (c < r ∨ (c = r ∧ (b < q ∨ (b = q ∧ a < p))))))) ∨ (revI a b c d p q r s = 0 ∧ (a = p ∧ b = q ∧ c = r ∧ d = s)) ∨ (revI a b c d p q r s = -1 ∧ (s < d ∨ (s = d ∧ (r < c ∨ (r = c ∧ (q < b ∨ (q = b ∧ p < a))))))) := by
  have h1 := cmpI_spec p a
  have h2 := cmpI_spec q b
  have h3 := cmpI_spec r c
  have h4 := cmpI_spec s d
  unfold revI
  by_cases e1 : d = s
  · rw [if_pos e1]
    by_cases e2 : c = r
    · rw [if_pos e2]
      by_cases e3 : b = q
      · rw [if_pos e3]; omega
      · rw [if_neg e3]; omega
    · rw [if_neg e2]; omega
  · rw [if_neg e1]; omega

/-- Above, by an order. -/
structure Up (o a b c d p q r s : Int) : Prop where
  lex : o = 0 → (p < a ∨ (a = p ∧ (q < b ∨ (b = q ∧ (r < c ∨ (c = r ∧ s < d))))))
  grl : o = 1 → (p + q + r + s < a + b + c + d ∨ (a + b + c + d = p + q + r + s ∧ (p < a ∨ (a = p ∧ (q < b ∨ (b = q ∧ (r < c ∨ (c = r ∧ s < d))))))))
  rev : o = 2 → (p + q + r + s < a + b + c + d ∨ (a + b + c + d = p + q + r + s ∧ (d < s ∨ (d = s ∧ (c < r ∨ (c = r ∧ (b < q ∨ (b = q ∧ a < p))))))))

/-- What Cmp tells, of two that may be, by an order that is one. -/
theorem CmpIs.spec {o a b c d p q r s k : Int} (h : CmpIs o a b c d p q r s k) (hb : Both a b c d p q r s) (h0 : 0 ≤ o) (h2 : o ≤ 2) : (k = 1 ∧ Up o a b c d p q r s) ∨ (k = 0 ∧ (a = p ∧ b = q ∧ c = r ∧ d = s)) ∨ (k = -1 ∧ Up o p q r s a b c d) := by
  have h3 : o = 0 ∨ o = 1 ∨ o = 2 := by omega
  have hl := lexI_spec a b c d p q r s
  have hr := revI_spec a b c d p q r s
  have hd := cmpI_spec (a + b + c + d) (p + q + r + s)
  rcases h3 with rfl | rfl | rfl
  · rw [h.lex hb rfl]
    rcases hl with ⟨e, g⟩ | ⟨e, g⟩ | ⟨e, g⟩
    · exact Or.inl ⟨e, fun _ => g, fun h => by omega, fun h => by omega⟩
    · exact Or.inr (Or.inl ⟨e, g⟩)
    · exact Or.inr (Or.inr ⟨e, fun _ => g, fun h => by omega, fun h => by omega⟩)
  · rw [h.grl hb rfl]
    unfold degI
    by_cases e1 : a + b + c + d = p + q + r + s
    · rw [if_pos e1]
      rcases hl with ⟨e, g⟩ | ⟨e, g⟩ | ⟨e, g⟩
      · exact Or.inl ⟨e, fun h => by omega, fun _ => Or.inr ⟨e1, g⟩, fun h => by omega⟩
      · exact Or.inr (Or.inl ⟨e, g⟩)
      · exact Or.inr (Or.inr ⟨e, fun h => by omega, fun _ => Or.inr ⟨e1.symm, g⟩, fun h => by omega⟩)
    · rw [if_neg e1]
      rcases hd with ⟨e, g⟩ | ⟨e, g⟩ | ⟨e, g⟩
      · exact Or.inl ⟨e, fun h => by omega, fun _ => Or.inl g, fun h => by omega⟩
      · exact absurd g e1
      · exact Or.inr (Or.inr ⟨e, fun h => by omega, fun _ => Or.inl g, fun h => by omega⟩)
  · rw [h.rev hb rfl]
    unfold degI
    by_cases e1 : a + b + c + d = p + q + r + s
    · rw [if_pos e1]
      rcases hr with ⟨e, g⟩ | ⟨e, g⟩ | ⟨e, g⟩
      · exact Or.inl ⟨e, fun h => by omega, fun h => by omega, fun _ => Or.inr ⟨e1, g⟩⟩
      · exact Or.inr (Or.inl ⟨e, g⟩)
      · exact Or.inr (Or.inr ⟨e, fun h => by omega, fun h => by omega, fun _ => Or.inr ⟨e1.symm, g⟩⟩)
    · rw [if_neg e1]
      rcases hd with ⟨e, g⟩ | ⟨e, g⟩ | ⟨e, g⟩
      · exact Or.inl ⟨e, fun h => by omega, fun h => by omega, fun _ => Or.inl g⟩
      · exact absurd g e1
      · exact Or.inr (Or.inr ⟨e, fun h => by omega, fun h => by omega, fun _ => Or.inl g⟩)

theorem Up.irr {o a b c d p q r s : Int} (h : Up o a b c d p q r s) (g : Up o p q r s a b c d) (h0 : 0 ≤ o) (h2 : o ≤ 2) : False := by
  have h3 : o = 0 ∨ o = 1 ∨ o = 2 := by omega
  rcases h3 with rfl | rfl | rfl
  · have := h.lex rfl; have := g.lex rfl; omega
  · have := h.grl rfl; have := g.grl rfl; omega
  · have := h.rev rfl; have := g.rev rfl; omega
theorem Up.self {o a b c d : Int} (h : Up o a b c d a b c d) (h0 : 0 ≤ o) (h2 : o ≤ 2) : False := h.irr h h0 h2
theorem Up.trans {o a b c d p q r s i j l m : Int} (h : Up o a b c d p q r s) (g : Up o p q r s i j l m) (h0 : 0 ≤ o) (h2 : o ≤ 2) : Up o a b c d i j l m := by
  have h3 : o = 0 ∨ o = 1 ∨ o = 2 := by omega
  rcases h3 with rfl | rfl | rfl
  · refine ⟨fun _ => ?_, fun h => by omega, fun h => by omega⟩
    have := h.lex rfl; have := g.lex rfl; omega
  · refine ⟨fun h => by omega, fun _ => ?_, fun h => by omega⟩
    have := h.grl rfl; have := g.grl rfl; omega
  · refine ⟨fun h => by omega, fun h => by omega, fun _ => ?_⟩
    have := h.rev rfl; have := g.rev rfl; omega
theorem Up.add {o a b c d p q r s i j l m : Int} (h : Up o a b c d p q r s) (h0 : 0 ≤ o) (h2 : o ≤ 2) : Up o (a + i) (b + j) (c + l) (d + m) (p + i) (q + j) (r + l) (s + m) := by
  have h3 : o = 0 ∨ o = 1 ∨ o = 2 := by omega
  rcases h3 with rfl | rfl | rfl
  · refine ⟨fun _ => ?_, fun h => by omega, fun h => by omega⟩
    have := h.lex rfl; omega
  · refine ⟨fun h => by omega, fun _ => ?_, fun h => by omega⟩
    have := h.grl rfl; omega
  · refine ⟨fun h => by omega, fun h => by omega, fun _ => ?_⟩
    have := h.rev rfl; omega
theorem Up.least {o a b c d i j l m : Int} (h : Up o a b c d (a + i) (b + j) (c + l) (d + m)) (hi : 0 ≤ i) (hj : 0 ≤ j) (hl : 0 ≤ l) (hm : 0 ≤ m) (h0 : 0 ≤ o) (h2 : o ≤ 2) : False := by
  have h3 : o = 0 ∨ o = 1 ∨ o = 2 := by omega
  rcases h3 with rfl | rfl | rfl
  · have := h.lex rfl; omega
  · have := h.grl rfl; omega
  · have := h.rev rfl; omega

/-- The other way round it is the other one. -/
theorem CmpIs.turn {o a b c d p q r s k n : Int} (h : CmpIs o a b c d p q r s k) (g : CmpIs o p q r s a b c d n) (hb : Both a b c d p q r s) (h0 : 0 ≤ o) (h2 : o ≤ 2) : k = -n := by
  rcases h.spec hb h0 h2 with ⟨e, u⟩ | ⟨e, u⟩ | ⟨e, u⟩ <;> rcases g.spec ⟨hb.b, hb.a⟩ h0 h2 with ⟨f, v⟩ | ⟨f, v⟩ | ⟨f, v⟩
  · exact (u.irr v h0 h2).elim
  · obtain ⟨rfl, rfl, rfl, rfl⟩ := v; exact (u.self h0 h2).elim
  · omega
  · obtain ⟨rfl, rfl, rfl, rfl⟩ := u; exact (v.self h0 h2).elim
  · omega
  · obtain ⟨rfl, rfl, rfl, rfl⟩ := u; exact (v.self h0 h2).elim
  · omega
  · obtain ⟨rfl, rfl, rfl, rfl⟩ := v; exact (u.self h0 h2).elim
  · exact (u.irr v h0 h2).elim
theorem CmpIs.zero {o a b c d p q r s k : Int} (h : CmpIs o a b c d p q r s k) (hb : Both a b c d p q r s) (h0 : 0 ≤ o) (h2 : o ≤ 2) : (k == 0) = eqB a b c d p q r s := by
  rw [Bool.eq_iff_iff, eqB_iff, beq_iff_eq]
  rcases h.spec hb h0 h2 with ⟨e, u⟩ | ⟨e, u⟩ | ⟨e, u⟩
  · exact ⟨fun z => by omega, fun ⟨e1, e2, e3, e4⟩ => by subst e1 e2 e3 e4; exact (u.self h0 h2).elim⟩
  · exact ⟨fun _ => u, fun _ => e⟩
  · exact ⟨fun z => by omega, fun ⟨e1, e2, e3, e4⟩ => by subst e1 e2 e3 e4; exact (u.self h0 h2).elim⟩
theorem CmpIs.bd {o a b c d p q r s k : Int} (h : CmpIs o a b c d p q r s k) (hb : Both a b c d p q r s) (h0 : 0 ≤ o) (h2 : o ≤ 2) : -1 ≤ k ∧ k ≤ 1 := by
  rcases h.spec hb h0 h2 with ⟨e, u⟩ | ⟨e, u⟩ | ⟨e, u⟩ <;> omega
theorem CmpIs.thru {o a b c d p q r s i j l m k n t : Int} (h : CmpIs o a b c d p q r s k) (g : CmpIs o p q r s i j l m n) (f : CmpIs o a b c d i j l m t) (ha : May4 a b c d) (hp : May4 p q r s) (hi : May4 i j l m) (h0 : 0 ≤ o) (h2 : o ≤ 2) (hk : 0 ≤ k) (hn : 0 ≤ n) : 0 ≤ t := by
  rcases f.spec ⟨ha, hi⟩ h0 h2 with ⟨e, u⟩ | ⟨e, u⟩ | ⟨e, u⟩
  · omega
  · omega
  · rcases h.spec ⟨ha, hp⟩ h0 h2 with ⟨e1, u1⟩ | ⟨e1, u1⟩ | ⟨e1, u1⟩
    · rcases g.spec ⟨hp, hi⟩ h0 h2 with ⟨e2, u2⟩ | ⟨e2, u2⟩ | ⟨e2, u2⟩
      · exact ((u1.trans u2 h0 h2).irr u h0 h2).elim
      · obtain ⟨rfl, rfl, rfl, rfl⟩ := u2; exact (u1.irr u h0 h2).elim
      · omega
    · obtain ⟨rfl, rfl, rfl, rfl⟩ := u1
      rcases g.spec ⟨hp, hi⟩ h0 h2 with ⟨e2, u2⟩ | ⟨e2, u2⟩ | ⟨e2, u2⟩
      · exact (u2.irr u h0 h2).elim
      · obtain ⟨rfl, rfl, rfl, rfl⟩ := u2; exact (u.self h0 h2).elim
      · omega
    · omega
/-- Times any monomial an order is kept. -/
theorem CmpIs.kept {o a b c d p q r s i j l m k n : Int} (h : CmpIs o a b c d p q r s k) (g : CmpIs o (a + i) (b + j) (c + l) (d + m) (p + i) (q + j) (r + l) (s + m) n) (hb : Both a b c d p q r s) (hg : Both (a + i) (b + j) (c + l) (d + m) (p + i) (q + j) (r + l) (s + m)) (h0 : 0 ≤ o) (h2 : o ≤ 2) : n = k := by
  rcases g.spec hg h0 h2 with ⟨f, v⟩ | ⟨f, v⟩ | ⟨f, v⟩ <;> rcases h.spec hb h0 h2 with ⟨e, u⟩ | ⟨e, u⟩ | ⟨e, u⟩
  · omega
  · obtain ⟨rfl, rfl, rfl, rfl⟩ := u; exact (v.self h0 h2).elim
  · exact (v.irr (u.add h0 h2) h0 h2).elim
  · have := u.add (i := i) (j := j) (l := l) (m := m) h0 h2
    rw [v.1, v.2.1, v.2.2.1, v.2.2.2] at this
    exact (this.self h0 h2).elim
  · omega
  · have := u.add (i := i) (j := j) (l := l) (m := m) h0 h2
    rw [v.1, v.2.1, v.2.2.1, v.2.2.2] at this
    exact (this.self h0 h2).elim
  · exact (v.irr (u.add h0 h2) h0 h2).elim
  · obtain ⟨rfl, rfl, rfl, rfl⟩ := u; exact (v.self h0 h2).elim
  · omega
/-- A product is not below a part of it. -/
theorem CmpIs.part {o a b c d i j l m k : Int} (h : CmpIs o (a + i) (b + j) (c + l) (d + m) a b c d k) (hb : Both (a + i) (b + j) (c + l) (d + m) a b c d) (hi : 0 ≤ i) (hj : 0 ≤ j) (hl : 0 ≤ l) (hm : 0 ≤ m) (h0 : 0 ≤ o) (h2 : o ≤ 2) : 0 ≤ k := by
  rcases h.spec hb h0 h2 with ⟨e, u⟩ | ⟨e, u⟩ | ⟨e, u⟩
  · omega
  · omega
  · exact (u.least hi hj hl hm h0 h2).elim

end Go.Proofs.Ytjecibpeahjenaa
