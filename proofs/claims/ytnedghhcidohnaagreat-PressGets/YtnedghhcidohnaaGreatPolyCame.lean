/-
  What a statement's argument is when it comes in: a slice of terms, taken apart.
-/
import Derived.Below
import Derived.ChangeOld
import Derived.ChangeSame
import Derived.Deep.DrawnRows
import Derived.Deep.RegionHeld3
import Derived.Deep.Strs
import Derived.Laws.IdiomArrays
import Derived.OpenShut
import Derived.ProofKit
import Derived.ShutString
import Derived.Test.YtnedghhcidohnaaGreatJQ1
namespace Go.Proofs.YtnedghhcidohnaaGreat
open Go.ChangeShapes Go.WideShapes Go.ChangeAt Go.RowKit

theorem own : ownKnob Tryz.prog.godebug = none := by kernel_rfl
theorem laidOut : laidOutB Tryz.prog = true := by kernel_rfl

/-- A slice of integers that came in: nil, or a row of 'cap' cells. -/
def IsRow (k : IntKind) (w : World) (a : Option Addr) (len cap : Nat) (zs : List Int) : Prop :=
  (a = none ∧ len = 0 ∧ cap = 0 ∧ zs = []) ∨
  ∃ x, a = some x ∧ len ≤ cap ∧ cap ≤ maxLen ∧ zs.length = cap ∧ (∀ i, i < zs.length → w.cell? (x.add i) = some (.int k (zs.getD i 0))) ∧ ∀ n ∈ zs, (Lit.int k n).wf = true

theorem IsRow.row {w : World} {a : Option Addr} {len cap : Nat} {zs : List Int} (h : IsRow .u64 w a len cap zs) : RowAt w a len cap (zs.take len) := by
  rcases h with ⟨rfl, rfl, rfl, rfl⟩ | ⟨x, rfl, hlc, hcm, hz, hc, hw⟩
  · exact RowAt.nil w
  · refine ⟨by simp; omega, ?_, hlc, hcm, by simp, fun hne => ?_⟩
    · intro y hy
      have := bounds_u64 (hw y (List.mem_of_mem_take hy))
      unfold BB
      omega
    · have hpos : 0 < zs.length := by
        rcases Nat.eq_zero_or_pos zs.length with h0 | h0
        · exact absurd (by rw [List.length_eq_zero_iff.1 h0]; simp) hne
        · exact h0
      obtain ⟨b, off, rfl, hcc⟩ := ints_at hc hpos
      refine ⟨b, off, rfl, ?_, fun j hj => ?_⟩
      · have := World.block_lt_of_cell? w ⟨b, off + 0, none⟩ (hcc 0 hpos)
        exact this
      · simp only [List.length_take] at hj
        rw [hcc j (by omega)]
        simp [show j < len by omega]

theorem cellsT : Tryz.prog.cellsOf 49 = 7 := by kernel_rfl
theorem cellsR : Tryz.prog.cellsOf 45 = 3 := by kernel_rfl
theorem cellsM : Tryz.prog.cellsOf 47 = 4 := by kernel_rfl
theorem cellsN : Tryz.prog.cellsOf 43 = 1 := by kernel_rfl
theorem cellsB : Tryz.prog.cellsOf 4 = 1 := by kernel_rfl
theorem cellsI : Tryz.prog.cellsOf 3 = 1 := by kernel_rfl

variable {H : Type} {enc : TypeId × Value → H} {w : World}

theorem open_nat {n : Nat} {c : Value} {y : DataW H × List MemPlace} (h : DataW.trod enc Tryz.prog w 0 (fun _ => true) true n 43 [c] = some y) :
    ∃ ao len cap xs, c = .slice ao len cap ∧ IsRow .u64 w ao len cap xs := by
  rcases open_ints Tryz.underlying43 Tryz.underlying56 (by kernel_rfl) h with ⟨hcs, _⟩ | ⟨x, l, c', zs, hcs, _, hl, hm, hz, _, hcell, hwz⟩
  · simp at hcs
    exact ⟨none, 0, 0, [], hcs, .inl ⟨rfl, rfl, rfl, rfl⟩⟩
  · simp at hcs
    exact ⟨some x, l, c', zs, hcs, .inr ⟨x, rfl, hl, hm, by simpa using hz, hcell, hwz⟩⟩

set_option maxRecDepth 100000 in
theorem open_rat_cells {n : Nat} {cs : List Value} {y : DataW H × List MemPlace} (h : DataW.trod enc Tryz.prog w 0 (fun _ => true) true n 45 cs = some y) :
    ∃ g no nn nc xs eo en ec ys, cs = [.bool g, .slice no nn nc, .slice eo en ec] ∧ IsRow .u64 w no nn nc xs ∧ IsRow .u64 w eo en ec ys := by
  obtain ⟨y0, y1, y2, n', hx, hl, h0, h1, h2⟩ := Go.Deep.trod_struct3 Tryz.underlying45 h
  rw [cellsR] at hl
  match cs, hl with
  | [c0, c1, c2], _ =>
    obtain ⟨g, e0, _⟩ := DataW.trod_bool Tryz.underlying4 (show DataW.trod enc Tryz.prog w 0 (fun _ => true) true n' 4 [c0] = some y0 by simpa [cellsB] using h0)
    obtain ⟨no, nn, nc, xs, rfl, r1⟩ := open_nat (show DataW.trod enc Tryz.prog w 0 (fun _ => true) true n' 43 [c1] = some y1 by simpa [cellsN] using h1)
    obtain ⟨eo, en, ec, ys, rfl, r2⟩ := open_nat (show DataW.trod enc Tryz.prog w 0 (fun _ => true) true n' 43 [c2] = some y2 by simpa [cellsN] using h2)
    simp only [List.cons.injEq, and_true] at e0
    subst e0
    exact ⟨g, no, nn, nc, xs, eo, en, ec, ys, rfl, r1, r2⟩

theorem open_int1 {n : Nat} {c : Value} {y : DataW H × List MemPlace} (h : DataW.trod enc Tryz.prog w 0 (fun _ => true) true n 3 [c] = some y) : ∃ a : Int, c = .int .i64 a := by
  obtain ⟨a, e0, _⟩ := DataW.trod_int Tryz.underlying3 h
  simp only [List.cons.injEq, and_true] at e0
  exact ⟨a, e0⟩

set_option maxRecDepth 100000 in
theorem open_mono_cells {n : Nat} {cs : List Value} {y : DataW H × List MemPlace} (hl : cs.length = 4) (h : DataW.trod enc Tryz.prog w 0 (fun _ => true) true n 47 cs = some y) :
    ∃ a b c d : Int, cs = [.int .i64 a, .int .i64 b, .int .i64 c, .int .i64 d] := by
  match cs, hl with
  | [c0, c1, c2, c3], _ =>
    obtain ⟨y0, y1, y2, y3, n', _, h0, h1, h2, h3⟩ := trod_array4 Tryz.underlying47 cellsI h
    obtain ⟨a, rfl⟩ := open_int1 h0
    obtain ⟨b, rfl⟩ := open_int1 h1
    obtain ⟨c, rfl⟩ := open_int1 h2
    obtain ⟨d, rfl⟩ := open_int1 h3
    exact ⟨a, b, c, d, rfl⟩

set_option maxRecDepth 100000 in
theorem open_term_cells {n : Nat} {cs : List Value} {y : DataW H × List MemPlace} (h : DataW.trod enc Tryz.prog w 0 (fun _ => true) true n 49 cs = some y) :
    ∃ (p : TP) (xs ys : List Int), cs = p.cs ∧ IsRow .u64 w p.no p.nn p.nc xs ∧ IsRow .u64 w p.eo p.en p.ec ys := by
  obtain ⟨y0, y1, n', hx, hl, h0, h1⟩ := trod_struct2 Tryz.underlying49 h
  rw [cellsT] at hl
  match cs, hl with
  | [c0, c1, c2, c3, c4, c5, c6], _ =>
    obtain ⟨g, no, nn, nc, xs, eo, en, ec, ys, e0, r1, r2⟩ := open_rat_cells (show DataW.trod enc Tryz.prog w 0 (fun _ => true) true n' 45 [c0, c1, c2] = some y0 by simpa [cellsR] using h0)
    obtain ⟨a, b, c, d, e1⟩ := open_mono_cells rfl (show DataW.trod enc Tryz.prog w 0 (fun _ => true) true n' 47 [c3, c4, c5, c6] = some y1 by simpa [cellsM] using h1)
    simp only [List.cons.injEq, and_true] at e0 e1
    obtain ⟨rfl, rfl, rfl⟩ := e0
    obtain ⟨rfl, rfl, rfl, rfl⟩ := e1
    exact ⟨⟨g, no, nn, nc, eo, en, ec, a, b, c, d⟩, xs, ys, rfl, r1, r2⟩

abbrev pairInh : Inhabited (TP × TL) := ⟨⟨⟨false, none, 0, 0, none, 0, 0, 0, 0, 0, 0⟩, ⟨rat0, ⟨0, 0, 0, 0⟩⟩⟩⟩

set_option maxRecDepth 100000 in
theorem open_terms {r : Reach} {t : TypeId} (ht : Tryz.prog.underlying t = some (.slice 49)) {b0 : Nat} {v : Value} {d : DataW H} {p : List MemPlace} (hv : Value.okWide Tryz.prog w r b0 t v) (h : DataW.Trod enc Tryz.prog w 0 (fun _ => true) true t v d p) :
    ∃ lo len cap ps ls, v = .slice lo len cap ∧ PolyAt w lo len cap ps ls := by
  obtain ⟨lo, len, cap, rfl⟩ := okWide_slice ht hv
  obtain ⟨fuel, hf⟩ := h
  rcases Go.Deep.open_slice ht hf with ⟨hcs, _⟩ | ⟨a, l, c, m, n, D, Pl, hcs, _, hl, hm, hmm, _, hx⟩
  · simp [Value.cells] at hcs
    obtain ⟨rfl, rfl, rfl⟩ := hcs
    exact ⟨none, 0, 0, [], [], rfl, PolyAt.nil w⟩
  · simp [Value.cells] at hcs
    obtain ⟨rfl, rfl, rfl⟩ := hcs
    rw [cellsT] at hx
    have hmc : m = cap := by simpa using hmm
    subst hmc
    obtain ⟨b, off, spot⟩ := a
    have hspot : 0 < len → spot = none := by
      intro hp
      obtain ⟨cs', h1, h2⟩ := hx 0 (by omega)
      obtain ⟨_, hlen, hc⟩ := World.cells?_some h1
      obtain ⟨p, xs, ys, rfl, _⟩ := open_term_cells h2
      have h3 := hc 0 (by omega)
      rw [Go.Deep.add_add] at h3
      simpa [Addr.add] using World.cell?_spot h3
    haveI := pairInh
    obtain ⟨f, hfx⟩ := Go.Deep.choose_lt (α := TP × TL) (n := len) (p := fun i x => (spot = none → w.rangeAt b (off + i * 7) x.1.cs) ∧ TermAt w x.1 x.2) (fun i hi => by
      obtain ⟨cs', h1, h2⟩ := hx i (by omega)
      obtain ⟨_, hlen, hc⟩ := World.cells?_some h1
      obtain ⟨p, xs, ys, rfl, r1, r2⟩ := open_term_cells h2
      refine ⟨⟨p, ⟨⟨p.neg, xs.take p.nn, ys.take p.en⟩, ⟨p.a, p.b, p.c, p.d⟩⟩⟩, ?_, ⟨⟨r1.row, r2.row⟩, rfl, rfl⟩⟩
      rintro rfl j v hv
      have hj : j < 7 := by have := (List.getElem?_eq_some_iff.1 hv).1; simpa [TP.cs] using this
      have h3 := hc j hj
      rw [Go.Deep.add_add, Addr.add_mid] at h3
      rw [show off + i * 7 + j = off + (i * 7 + j) by omega, h3]
      exact hv)
    refine ⟨some ⟨b, off, spot⟩, len, m, (List.range len).map fun i => (f i).1, (List.range len).map fun i => (f i).2, rfl, by simp, by omega, by omega, (fun e => by cases e), b, off, ?_, by simp, ?_, ?_, ?_⟩
    · intro hp
      rw [hspot hp]
    · intro hp
      have hp : 0 < len := by simpa using hp
      have h3 := (hfx 0 hp).1 (hspot hp) 0 _ rfl
      exact World.block_lt_of_cell? w ⟨b, off + 0 * 7 + 0, none⟩ h3
    · intro i p hp
      have hi : i < len := by have := (List.getElem?_eq_some_iff.1 hp).1; simpa using this
      simp [hi] at hp
      subst hp
      exact (hfx i hi).1 (hspot (by omega))
    · intro i p t hp ht
      have hi : i < len := by have := (List.getElem?_eq_some_iff.1 hp).1; simpa using this
      simp [hi] at hp ht
      subst hp ht
      exact (hfx i hi).2
end Go.Proofs.YtnedghhcidohnaaGreat
