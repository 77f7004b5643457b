/-
  Many numbers that come in: taken apart.
-/
import Derived.Test.YtnkjfandknndkaaM1
import Derived.Test.YtnkjfandknndkaaCame
import Derived.Deep.Strs
namespace Go.Proofs.Ytnkjfandknndkaa
open Go.ChangeShapes Go.WideShapes Go.ChangeAt Go.RowKit

theorem cellsR : Try.prog.cellsOf 28 = 3 := by kernel_rfl
theorem cellsN : Try.prog.cellsOf 23 = 1 := by kernel_rfl
theorem cellsB : Try.prog.cellsOf 4 = 1 := by kernel_rfl

variable {H : Type} {enc : TypeId × Value → H} {w : World}

theorem open_nat {n : Nat} {c : Value} {y : DataW H × List MemPlace} (h : DataW.trod enc Try.prog w 0 (fun _ => true) true n 23 [c] = some y) :
    ∃ ao len cap xs, c = .slice ao len cap ∧ IsRow .u64 w ao len cap xs := by
  rcases open_ints Try.underlying23 Try.underlying50 (by kernel_rfl) h with ⟨hcs, _⟩ | ⟨x, l, c', zs, hcs, _, hl, hm, hz, _, hcell, hwz⟩
  · simp at hcs
    exact ⟨none, 0, 0, [], hcs, .inl ⟨rfl, rfl, rfl, rfl⟩⟩
  · simp at hcs
    exact ⟨some x, l, c', zs, hcs, .inr ⟨x, rfl, hl, hm, by simpa using hz, hcell, hwz⟩⟩

set_option maxRecDepth 100000 in
theorem open_rat_cells {n : Nat} {cs : List Value} {y : DataW H × List MemPlace} (h : DataW.trod enc Try.prog w 0 (fun _ => true) true n 28 cs = some y) :
    ∃ g no nn nc xs eo en ec ys, cs = [.bool g, .slice no nn nc, .slice eo en ec] ∧ IsRow .u64 w no nn nc xs ∧ IsRow .u64 w eo en ec ys := by
  obtain ⟨y0, y1, y2, n', hx, hl, h0, h1, h2⟩ := Go.Deep.trod_struct3 Try.underlying28 h
  rw [cellsR] at hl
  match cs, hl with
  | [c0, c1, c2], _ =>
    obtain ⟨g, e0, _⟩ := DataW.trod_bool Try.underlying4 (show DataW.trod enc Try.prog w 0 (fun _ => true) true n' 4 [c0] = some y0 by simpa [cellsB] using h0)
    obtain ⟨no, nn, nc, xs, rfl, r1⟩ := open_nat (show DataW.trod enc Try.prog w 0 (fun _ => true) true n' 23 [c1] = some y1 by simpa [cellsN] using h1)
    obtain ⟨eo, en, ec, ys, rfl, r2⟩ := open_nat (show DataW.trod enc Try.prog w 0 (fun _ => true) true n' 23 [c2] = some y2 by simpa [cellsN] using h2)
    simp only [List.cons.injEq, and_true] at e0
    subst e0
    exact ⟨g, no, nn, nc, xs, eo, en, ec, ys, rfl, r1, r2⟩

abbrev ratInh : Inhabited (RP × RatL) := ⟨⟨⟨false, none, 0, 0, none, 0, 0⟩, rat0⟩⟩

set_option maxRecDepth 100000 in
theorem open_rats {r : Reach} {b0 : Nat} {v : Value} {d : DataW H} {p : List MemPlace} (hv : Value.okWide Try.prog w r b0 24 v) (h : DataW.Trod enc Try.prog w 0 (fun _ => true) true 24 v d p) :
    ∃ lo len cap b off ps rs, v = .slice lo len cap ∧ RatsAt w b off ps rs ∧ ps.length = len ∧ (0 < len → lo = some ⟨b, off, none⟩) ∧ len ≤ maxLen := by
  obtain ⟨lo, len, cap, rfl⟩ := okWide_slice Try.underlying24 hv
  obtain ⟨fuel, hf⟩ := h
  rcases Go.Deep.open_slice Try.underlying24 hf with ⟨hcs, _⟩ | ⟨a, l, c, m, n, D, Pl, hcs, _, hl, hm, hmm, _, hx⟩
  · simp [Value.cells] at hcs
    obtain ⟨rfl, rfl, rfl⟩ := hcs
    exact ⟨none, 0, 0, 0, 0, [], [], rfl, ⟨rfl, fun hp => by simp at hp, fun i p r hp => by simp at hp⟩, rfl, fun hp => absurd hp (by omega), by unfold maxLen; omega⟩
  · simp [Value.cells] at hcs
    obtain ⟨rfl, rfl, rfl⟩ := hcs
    rw [cellsR] at hx
    have hmc : m = cap := by simpa using hmm
    subst hmc
    obtain ⟨b, off, spot⟩ := a
    have hspot : 0 < len → spot = none := by
      intro hp
      obtain ⟨cs', h1, h2⟩ := hx 0 (by omega)
      obtain ⟨_, hlen, hc⟩ := World.cells?_some h1
      obtain ⟨g, no, nn, nc, xs, eo, en, ec, ys, rfl, _⟩ := open_rat_cells h2
      have h3 := hc 0 (by omega)
      rw [Go.Deep.add_add] at h3
      simpa [Addr.add] using World.cell?_spot h3
    haveI := ratInh
    obtain ⟨f, hfx⟩ := Go.Deep.choose_lt (α := RP × RatL) (n := len) (p := fun i x => (spot = none → w.rangeAt b (off + i * 3) x.1.cs) ∧ RatAt w x.1.no x.1.nn x.1.nc x.1.eo x.1.en x.1.ec x.2 ∧ x.2.neg = x.1.neg) (fun i hi => by
      obtain ⟨cs', h1, h2⟩ := hx i (by omega)
      obtain ⟨_, hlen, hc⟩ := World.cells?_some h1
      obtain ⟨g, no, nn, nc, xs, eo, en, ec, ys, rfl, r1, r2⟩ := open_rat_cells h2
      refine ⟨⟨⟨g, no, nn, nc, eo, en, ec⟩, ⟨g, xs.take nn, ys.take en⟩⟩, ?_, ⟨r1.row, r2.row⟩, rfl⟩
      rintro rfl j v hv
      have hj : j < 3 := by have := (List.getElem?_eq_some_iff.1 hv).1; simpa [RP.cs] using this
      have h3 := hc j hj
      rw [Go.Deep.add_add, Addr.add_mid] at h3
      rw [show off + i * 3 + j = off + (i * 3 + j) by omega, h3]
      exact hv)
    refine ⟨some ⟨b, off, spot⟩, len, m, b, off, (List.range len).map fun i => (f i).1, (List.range len).map fun i => (f i).2, rfl, ⟨by simp, ?_, ?_⟩, by simp, ?_, by omega⟩
    · intro hp
      have hp : 0 < len := by simpa using hp
      have h3 := (hfx 0 hp).1 (hspot hp) 0 _ rfl
      exact World.block_lt_of_cell? w ⟨b, off + 0 * 3 + 0, none⟩ h3
    · intro i p r hp hr
      have hi : i < len := by have := (List.getElem?_eq_some_iff.1 hp).1; simpa using this
      simp [hi] at hp hr
      subst hp hr
      obtain ⟨h1, h2, h3⟩ := hfx i hi
      exact ⟨h1 (hspot (by omega)), h2, h3⟩
    · intro hp
      rw [hspot hp]
end Go.Proofs.Ytnkjfandknndkaa
