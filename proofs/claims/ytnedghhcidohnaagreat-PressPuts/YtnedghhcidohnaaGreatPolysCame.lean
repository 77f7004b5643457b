/-
  What a statement's argument is when it comes in: a slice of polynomials, taken apart.
-/
import Derived.Test.YtnedghhcidohnaaGreatPolyCame
import Derived.Test.YtnedghhcidohnaaGreatJQ1
namespace Go.Proofs.YtnedghhcidohnaaGreat
open Go.ChangeShapes Go.WideShapes Go.ChangeAt Go.RowKit

theorem cellsP : Tryz.prog.cellsOf 23 = 1 := by kernel_rfl
variable {H : Type} {enc : TypeId × Value → H} {w : World}

set_option maxRecDepth 100000 in
theorem open_terms_cell {n : Nat} {v : Value} {y : DataW H × List MemPlace} (hf : DataW.trod enc Tryz.prog w 0 (fun _ => true) true n 23 [v] = some y) :
    ∃ lo len cap ps ls, v = .slice lo len cap ∧ PolyAt w lo len cap ps ls := by
  rcases Go.Deep.open_slice Tryz.underlying23 hf with ⟨hcs, _⟩ | ⟨a, len, cap, m, n, D, Pl, hcs, _, hl, hm, hmm, _, hx⟩
  · simp at hcs
    exact ⟨none, 0, 0, [], [], hcs, PolyAt.nil w⟩
  · simp at hcs
    subst hcs
    rw [cellsT] at hx
    have hmc : m = cap := by simpa using hmm
    subst hmc
    obtain ⟨b, off, spot⟩ := a
    have hspot : 0 < len → spot = none := by
      intro hp
      obtain ⟨cs', h1, h2⟩ := hx 0 (by omega)
      obtain ⟨_, hlen, hc⟩ := World.cells?_some h1
      obtain ⟨p, xs, ys, rfl, _⟩ := open_term_cells h2
      have h3 := hc 0 (by omega)
      rw [Go.Deep.add_add] at h3
      simpa [Addr.add] using World.cell?_spot h3
    haveI := pairInh
    obtain ⟨f, hfx⟩ := Go.Deep.choose_lt (α := TP × TL) (n := len) (p := fun i x => (spot = none → w.rangeAt b (off + i * 7) x.1.cs) ∧ TermAt w x.1 x.2) (fun i hi => by
      obtain ⟨cs', h1, h2⟩ := hx i (by omega)
      obtain ⟨_, hlen, hc⟩ := World.cells?_some h1
      obtain ⟨p, xs, ys, rfl, r1, r2⟩ := open_term_cells h2
      refine ⟨⟨p, ⟨⟨p.neg, xs.take p.nn, ys.take p.en⟩, ⟨p.a, p.b, p.c, p.d⟩⟩⟩, ?_, ⟨⟨r1.row, r2.row⟩, rfl, rfl⟩⟩
      rintro rfl j v hv
      have hj : j < 7 := by have := (List.getElem?_eq_some_iff.1 hv).1; simpa [TP.cs] using this
      have h3 := hc j hj
      rw [Go.Deep.add_add, Addr.add_mid] at h3
      rw [show off + i * 7 + j = off + (i * 7 + j) by omega, h3]
      exact hv)
    refine ⟨some ⟨b, off, spot⟩, len, m, (List.range len).map fun i => (f i).1, (List.range len).map fun i => (f i).2, rfl, by simp, by omega, by omega, (fun e => by cases e), b, off, ?_, by simp, ?_, ?_, ?_⟩
    · intro hp
      rw [hspot hp]
    · intro hp
      have hp : 0 < len := by simpa using hp
      have h3 := (hfx 0 hp).1 (hspot hp) 0 _ rfl
      exact World.block_lt_of_cell? w ⟨b, off + 0 * 7 + 0, none⟩ h3
    · intro i p hp
      have hi : i < len := by have := (List.getElem?_eq_some_iff.1 hp).1; simpa using this
      simp [hi] at hp
      subst hp
      exact (hfx i hi).1 (hspot (by omega))
    · intro i p t hp ht
      have hi : i < len := by have := (List.getElem?_eq_some_iff.1 hp).1; simpa using this
      simp [hi] at hp ht
      subst hp ht
      exact (hfx i hi).2

abbrev fiveInh : Inhabited (Option Addr × Nat × Nat × List TP × List TL) := ⟨⟨none, 0, 0, [], []⟩⟩

set_option maxRecDepth 100000 in
theorem open_polys {r : Reach} {t : TypeId} (ht : Tryz.prog.underlying t = some (.slice 23)) {b0 : Nat} {v : Value} {d : DataW H} {p : List MemPlace} (hv : Value.okWide Tryz.prog w r b0 t v) (h : DataW.Trod enc Tryz.prog w 0 (fun _ => true) true t v d p) :
    ∃ lo len cap lss, v = .slice lo len cap ∧ ListAt w lo len lss := by
  obtain ⟨lo, len, cap, rfl⟩ := okWide_slice ht hv
  obtain ⟨fuel, hf⟩ := h
  rcases Go.Deep.open_slice ht hf with ⟨hcs, _⟩ | ⟨a, l, c, m, n, D, Pl, hcs, _, hl, hm, hmm, _, hx⟩
  · simp [Value.cells] at hcs
    obtain ⟨rfl, rfl, rfl⟩ := hcs
    exact ⟨none, 0, 0, [], rfl, rfl, by omega, fun i hi => absurd hi (by omega)⟩
  · simp [Value.cells] at hcs
    obtain ⟨rfl, rfl, rfl⟩ := hcs
    rw [cellsP] at hx
    have hmc : m = cap := by simpa using hmm
    subst hmc
    obtain ⟨b, off, spot⟩ := a
    have hspot : 0 < len → spot = none := by
      intro hp
      obtain ⟨cs', h1, h2⟩ := hx 0 (by omega)
      obtain ⟨_, hlen, hc⟩ := World.cells?_some h1
      match cs', hlen with
      | [c], _ =>
        have h3 := hc 0 (by omega)
        rw [Go.Deep.add_add] at h3
        simpa [Addr.add] using World.cell?_spot h3
    haveI := fiveInh
    obtain ⟨f, hfx⟩ := Go.Deep.choose_lt (α := Option Addr × Nat × Nat × List TP × List TL) (n := len) (p := fun i x => spot = none ∧ w.cell? ⟨b, off + i, none⟩ = some (.slice x.1 x.2.1 x.2.2.1) ∧ PolyAt w x.1 x.2.1 x.2.2.1 x.2.2.2.1 x.2.2.2.2) (fun i hi => by
      obtain ⟨cs', h1, h2⟩ := hx i (by omega)
      obtain ⟨_, hlen, hc⟩ := World.cells?_some h1
      match cs', hlen with
      | [c], _ =>
        obtain ⟨po, pn, pc, ps, ls, rfl, g⟩ := open_terms_cell h2
        have h3 := hc 0 (by omega)
        rw [Go.Deep.add_add] at h3
        have h4 : spot = none := hspot (by omega)
        subst h4
        rw [Addr.add_mid] at h3
        refine ⟨⟨po, pn, pc, ps, ls⟩, rfl, ?_, g⟩
        simpa using h3)
    refine ⟨some ⟨b, off, spot⟩, len, m, (List.range len).map fun i => (f i).2.2.2.2, rfl, by simp, by unfold maxLen at hm; omega, fun i hi => ?_⟩
    obtain ⟨h1, h2, h3⟩ := hfx i hi
    subst h1
    exact ⟨b, off, _, _, _, _, _, rfl, h2, by simp [hi], h3, World.block_lt_of_cell? w ⟨b, off + i, none⟩ h2⟩
end Go.Proofs.YtnedghhcidohnaaGreat
