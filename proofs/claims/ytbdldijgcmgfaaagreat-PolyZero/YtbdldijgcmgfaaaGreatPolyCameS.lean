/-
  Small numbers that come in, taken apart.
-/
import Derived.Test.YtbdldijgcmgfaaaGreatPolyCame
import Derived.Test.YtbdldijgcmgfaaaGreatJU1
namespace Go.Proofs.YtbdldijgcmgfaaaGreat
open Go.ChangeShapes Go.WideShapes Go.ChangeAt Go.RowKit

theorem cells50 : Tryz.prog.cellsOf 50 = 2 := by kernel_rfl
theorem cells47 : Tryz.prog.cellsOf 47 = 1 := by kernel_rfl
theorem cells48 : Tryz.prog.cellsOf 48 = 1 := by kernel_rfl
theorem cells80 : Tryz.prog.cellsOf 80 = 3 := by kernel_rfl
theorem cells5 : Tryz.prog.cellsOf 5 = 1 := by kernel_rfl
theorem cells51 : Tryz.prog.cellsOf 51 = 6 := by kernel_rfl
theorem cells62 : Tryz.prog.cellsOf 62 = 4 := by kernel_rfl

variable {H : Type} {enc : TypeId × Value → H} {w : World}

theorem isRow_cell {k : IntKind} {w : World} {ao : Option Addr} {al ac : Nat} {zs : List Int} (h : IsRow k w ao al ac zs) {j : Nat} (hj : j < al) : ∃ b off z, ao = some ⟨b, off, none⟩ ∧ w.cell? ⟨b, off + j, none⟩ = some (.int k z) ∧ (Lit.int k z).wf = true ∧ b < w.heap.size := by
  rcases h with ⟨rfl, rfl, rfl, rfl⟩ | ⟨x, rfl, hlc, hcm, hz, hc, hw⟩
  · omega
  · obtain ⟨b, off, rfl, hcc⟩ := ints_at hc (by omega)
    refine ⟨b, off, _, rfl, hcc j (by omega), hw _ ?_, World.block_lt_of_cell? w ⟨b, off + j, none⟩ (hcc j (by omega))⟩
    rw [List.getD_eq_getElem?_getD, List.getElem?_eq_getElem (by omega)]
    simp

theorem open_row_i8 {n : Nat} {c : Value} {y : DataW H × List MemPlace} (h : DataW.trod enc Tryz.prog w 0 (fun _ => true) true n 47 [c] = some y) :
    ∃ ao len cap, c = .slice ao len cap ∧ len ≤ maxLen ∧ ∀ i, i < len → ∃ b off z, ao = some ⟨b, off, none⟩ ∧ b < w.heap.size ∧ w.cell? ⟨b, off + i, none⟩ = some (.int .i8 z) ∧ -128 ≤ z ∧ z ≤ 127 := by
  rcases open_ints Tryz.underlying47 Tryz.underlying79 (by kernel_rfl) h with ⟨hcs, _⟩ | ⟨x, l, c', zs, hcs, _, hl, hm, hz, _, hcell, hwz⟩
  · simp at hcs
    exact ⟨none, 0, 0, hcs, by unfold maxLen; omega, fun i hi => absurd hi (by omega)⟩
  · simp at hcs
    refine ⟨some x, l, c', hcs, by omega, fun i hi => ?_⟩
    have hr : IsRow .i8 w (some x) l c' zs := .inr ⟨x, rfl, hl, hm, by simpa using hz, hcell, hwz⟩
    obtain ⟨b, off, z, h1, h2, h3, h4⟩ := isRow_cell hr hi
    exact ⟨b, off, z, h1, h4, h2, bounds_i8 h3⟩

theorem open_u8_1 {n : Nat} {c : Value} {y : DataW H × List MemPlace} (h : DataW.trod enc Tryz.prog w 0 (fun _ => true) true n 5 [c] = some y) : ∃ a : Int, c = .int .u8 a ∧ 0 ≤ a ∧ a ≤ 255 := by
  obtain ⟨a, e0, _, hw⟩ := DataW.trod_int Tryz.underlying5 h
  simp only [List.cons.injEq, and_true] at e0
  exact ⟨a, e0, bounds_u8 hw⟩

set_option maxRecDepth 100000 in
theorem open_three {n : Nat} {cs : List Value} {y : DataW H × List MemPlace} (hl : cs.length = 3) (h : DataW.trod enc Tryz.prog w 0 (fun _ => true) true n 80 cs = some y) :
    ∃ a b c : Int, cs = [.int .u8 a, .int .u8 b, .int .u8 c] ∧ (0 ≤ a ∧ a ≤ 255) ∧ (0 ≤ b ∧ b ≤ 255) ∧ (0 ≤ c ∧ c ≤ 255) := by
  match cs, hl with
  | [c0, c1, c2], _ =>
    obtain ⟨y0, y1, y2, n', _, h0, h1, h2⟩ := trod_array3 Tryz.underlying80 cells5 h
    obtain ⟨a, rfl, a0⟩ := open_u8_1 h0
    obtain ⟨b, rfl, b0⟩ := open_u8_1 h1
    obtain ⟨c, rfl, c0⟩ := open_u8_1 h2
    exact ⟨a, b, c, rfl, a0, b0, c0⟩

set_option maxRecDepth 100000 in
theorem open_rows {n : Nat} {c : Value} {y : DataW H × List MemPlace} (h : DataW.trod enc Tryz.prog w 0 (fun _ => true) true n 48 [c] = some y) :
    ∃ mo mn mc, c = .slice mo mn mc ∧ mn ≤ maxLen ∧ ∀ i, i < mn → ∃ b off x y z, mo = some ⟨b, off, none⟩ ∧ b < w.heap.size ∧ w.cell? ⟨b, off + i * 3, none⟩ = some (.int .u8 x) ∧ w.cell? ⟨b, off + i * 3 + 1, none⟩ = some (.int .u8 y) ∧ w.cell? ⟨b, off + i * 3 + 2, none⟩ = some (.int .u8 z) ∧ (0 ≤ x ∧ x ≤ 255) ∧ (0 ≤ y ∧ y ≤ 255) ∧ (0 ≤ z ∧ z ≤ 255) := by
  rcases Go.Deep.open_slice Tryz.underlying48 h with ⟨hcs, _⟩ | ⟨a, l, cap, m, n, D, Pl, hcs, _, hl, hm, hmm, _, hx⟩
  · simp at hcs
    exact ⟨none, 0, 0, hcs, by unfold maxLen; omega, fun i hi => absurd hi (by omega)⟩
  · simp at hcs
    rw [cells80] at hx
    have hmc : m = cap := by simpa using hmm
    subst hmc
    obtain ⟨b, off, spot⟩ := a
    have hspot : 0 < l → spot = none := by
      intro hp
      obtain ⟨cs', h1, h2⟩ := hx 0 (by omega)
      obtain ⟨_, hlen, hc⟩ := World.cells?_some h1
      obtain ⟨x, y, z, rfl, _⟩ := open_three hlen h2
      have h3 := hc 0 (by omega)
      rw [Go.Deep.add_add] at h3
      simpa [Addr.add] using World.cell?_spot h3
    refine ⟨some ⟨b, off, spot⟩, l, m, hcs, by omega, fun i hi => ?_⟩
    obtain ⟨cs', h1, h2⟩ := hx i (by omega)
    obtain ⟨_, hlen, hc⟩ := World.cells?_some h1
    obtain ⟨x, y, z, rfl, bx, by', bz⟩ := open_three hlen h2
    have k0 := hc 0 (by omega)
    have k1 := hc 1 (by omega)
    have k2 := hc 2 (by omega)
    rw [Go.Deep.add_add] at k0 k1 k2
    have hs := hspot (by omega)
    subst hs
    rw [Addr.add_mid] at k0 k1 k2
    have e0 : w.cell? ⟨b, off + i * 3, none⟩ = some (.int .u8 x) := by simpa using k0
    have e1 : w.cell? ⟨b, off + i * 3 + 1, none⟩ = some (.int .u8 y) := by simpa [Nat.add_assoc] using k1
    have e2 : w.cell? ⟨b, off + i * 3 + 2, none⟩ = some (.int .u8 z) := by simpa [Nat.add_assoc] using k2
    exact ⟨b, off, x, y, z, rfl, World.block_lt_of_cell? w ⟨b, off + i * 3, none⟩ e0, e0, e1, e2, bx, by', bz⟩

set_option maxRecDepth 100000 in
theorem open_small_cells {n : Nat} {cs : List Value} {y : DataW H × List MemPlace} (h : DataW.trod enc Tryz.prog w 0 (fun _ => true) true n 50 cs = some y) :
    ∃ no nn nc mo mn mc, cs = [.slice no nn nc, .slice mo mn mc] ∧ SmallAt w no nn mo mn := by
  obtain ⟨y0, y1, n', hx, hl, h0, h1⟩ := trod_struct2 Tryz.underlying50 h
  rw [cells50] at hl
  match cs, hl with
  | [c0, c1], _ =>
    obtain ⟨no, nn, nc, rfl, a1, a2⟩ := open_row_i8 (show DataW.trod enc Tryz.prog w 0 (fun _ => true) true n' 47 [c0] = some y0 by simpa [cells47] using h0)
    obtain ⟨mo, mn, mc, rfl, b1, b2⟩ := open_rows (show DataW.trod enc Tryz.prog w 0 (fun _ => true) true n' 48 [c1] = some y1 by simpa [cells48] using h1)
    exact ⟨no, nn, nc, mo, mn, mc, rfl, a1, b1, a2, b2⟩

set_option maxRecDepth 100000 in
theorem agg_of {cs : Array Value} {l : List Value} (h : (Value.agg cs).cells.toList = l) : cs = l.toArray := by
  obtain ⟨k⟩ := cs
  simp only [Value.cells] at h
  have hk : k = l := h
  rw [hk]

set_option maxRecDepth 100000 in
theorem okWide_arrn {t e : TypeId} {n : Nat} {w : World} {r : Reach} {base : Nat} {v : Value} (ht : Tryz.prog.underlying t = some (.array n e)) (h : Value.okWide Tryz.prog w r base t v) : ∃ cs, v = .agg cs ∧ cs.size = Tryz.prog.cellsOf t := by
  simp only [Value.okWide, ht] at h
  obtain ⟨cs, h1, h2, _⟩ := h
  exact ⟨cs, h1, h2⟩

set_option maxRecDepth 100000 in
theorem open_small {r : Reach} {b0 : Nat} {v : Value} {d : DataW H} {p : List MemPlace} (hv : Value.okWide Tryz.prog w r b0 50 v) (h : DataW.Trod enc Tryz.prog w 0 (fun _ => true) true 50 v d p) :
    ∃ no nn nc mo mn mc, v = .agg #[.slice no nn nc, .slice mo mn mc] ∧ SmallAt w no nn mo mn := by
  obtain ⟨cs, rfl, hsz⟩ := okWide_struct Tryz.underlying50 hv
  obtain ⟨fuel, hf⟩ := h
  obtain ⟨no, nn, nc, mo, mn, mc, hcs, hs⟩ := open_small_cells hf
  exact ⟨no, nn, nc, mo, mn, mc, by rw [agg_of hcs], hs⟩

set_option maxRecDepth 100000 in
theorem open_smalls2 {r : Reach} {b0 : Nat} {v : Value} {d : DataW H} {p : List MemPlace} (hv : Value.okWide Tryz.prog w r b0 62 v) (h : DataW.Trod enc Tryz.prog w 0 (fun _ => true) true 62 v d p) :
    ∃ no nn nc mo mn mc no' nn' nc' mo' mn' mc', v = .agg #[.slice no nn nc, .slice mo mn mc, .slice no' nn' nc', .slice mo' mn' mc'] ∧ SmallAt w no nn mo mn ∧ SmallAt w no' nn' mo' mn' := by
  obtain ⟨cs, rfl, hsz⟩ := okWide_arrn Tryz.underlying62 hv
  obtain ⟨fuel, hf⟩ := h
  obtain ⟨xs, m, _, _, hl, hx, he⟩ := DataW.trod_array Tryz.underlying62 hf
  rw [cells50] at he
  have e0 := he 0 (by omega)
  have e1 := he 1 (by omega)
  rw [List.getElem?_eq_getElem (by omega)] at e0 e1
  obtain ⟨no, nn, nc, mo, mn, mc, h0, s0⟩ := open_small_cells e0
  obtain ⟨no', nn', nc', mo', mn', mc', h1, s1⟩ := open_small_cells e1
  rw [cells62] at hl
  have hcs : (Value.agg cs).cells.toList = [.slice no nn nc, .slice mo mn mc, .slice no' nn' nc', .slice mo' mn' mc'] := by
    match (Value.agg cs).cells.toList, hl, h0, h1 with
    | [a, b, c, d], _, h0, h1 =>
      simp at h0 h1
      simp [h0, h1]
  exact ⟨no, nn, nc, mo, mn, mc, no', nn', nc', mo', mn', mc', by rw [agg_of hcs], s0, s1⟩

set_option maxRecDepth 100000 in
theorem open_smalls3 {r : Reach} {b0 : Nat} {v : Value} {d : DataW H} {p : List MemPlace} (hv : Value.okWide Tryz.prog w r b0 51 v) (h : DataW.Trod enc Tryz.prog w 0 (fun _ => true) true 51 v d p) :
    ∃ no nn nc mo mn mc no' nn' nc' mo' mn' mc' no'' nn'' nc'' mo'' mn'' mc'', v = .agg #[.slice no nn nc, .slice mo mn mc, .slice no' nn' nc', .slice mo' mn' mc', .slice no'' nn'' nc'', .slice mo'' mn'' mc''] ∧ SmallAt w no nn mo mn ∧ SmallAt w no' nn' mo' mn' ∧ SmallAt w no'' nn'' mo'' mn'' := by
  obtain ⟨cs, rfl, hsz⟩ := okWide_arrn Tryz.underlying51 hv
  obtain ⟨fuel, hf⟩ := h
  obtain ⟨xs, m, _, _, hl, hx, he⟩ := DataW.trod_array Tryz.underlying51 hf
  rw [cells50] at he
  have e0 := he 0 (by omega)
  have e1 := he 1 (by omega)
  have e2 := he 2 (by omega)
  rw [List.getElem?_eq_getElem (by omega)] at e0 e1 e2
  obtain ⟨no, nn, nc, mo, mn, mc, h0, s0⟩ := open_small_cells e0
  obtain ⟨no', nn', nc', mo', mn', mc', h1, s1⟩ := open_small_cells e1
  obtain ⟨no'', nn'', nc'', mo'', mn'', mc'', h2, s2⟩ := open_small_cells e2
  rw [cells51] at hl
  have hcs : (Value.agg cs).cells.toList = [.slice no nn nc, .slice mo mn mc, .slice no' nn' nc', .slice mo' mn' mc', .slice no'' nn'' nc'', .slice mo'' mn'' mc''] := by
    match (Value.agg cs).cells.toList, hl, h0, h1, h2 with
    | [a, b, c, d, e, f], _, h0, h1, h2 =>
      simp at h0 h1 h2
      simp [h0, h1, h2]
  exact ⟨no, nn, nc, mo, mn, mc, no', nn', nc', mo', mn', mc', no'', nn'', nc'', mo'', mn'', mc'', by rw [agg_of hcs], s0, s1, s2⟩
end Go.Proofs.YtbdldijgcmgfaaaGreat
