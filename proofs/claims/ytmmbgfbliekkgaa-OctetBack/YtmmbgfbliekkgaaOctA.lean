/-
  Bytes: those of a number, the highest one first; rows of bytes of one's own, and one byte more behind them.
-/
import Derived.Test.YtmmbgfbliekkgaaLen64
import Derived.Test.YtmmbgfbliekkgaaBuild
import Derived.Lib.ConvBytes
import Derived.Lib.FrozenHead2
namespace Go.Proofs.Ytmmbgfbliekkgaa
open Go.RowKit

/-- A byte as a value. -/
def u8v (c : UInt8) : Value := .int .u8 (c.toNat : Int)

/-- The k lowest bytes of n, the highest one first. -/
def lowB (n : Nat) : Nat → List UInt8
  | 0 => []
  | k + 1 => UInt8.ofNat (n / 256 ^ k) :: lowB n k

/-- How many bytes n has. -/
def cntB (n : Nat) : Nat := (bitLen n + 7) / 8

/-- A number as bytes. -/
def putL (n : Nat) : List UInt8 := UInt8.ofNat (cntB n) :: lowB n (cntB n)

theorem lowB_length (n k : Nat) : (lowB n k).length = k := by
  induction k with
  | zero => rfl
  | succ k ih => simp [lowB, ih]

/-- The row of bytes that begins at block g, of n elements, is of one's own, and holds xs. -/
def OwnB (w : World) (base g n cap : Nat) (xs : List UInt8) : Prop :=
  xs.length = n ∧ base ≤ g ∧ n ≤ cap ∧ cap ≤ maxLen ∧ ∃ cur fz, w.heap[g]? = some (.cells cur 5 fz) ∧ cur.size = cap ∧ (fz.2 ≤ n ∨ cap ≤ fz.1) ∧ cur.toList.take n = xs.map u8v

theorem OwnB.lt {w : World} {base g n cap : Nat} {xs : List UInt8} (h : OwnB w base g n cap xs) : base ≤ g ∧ g < w.heap.size := by
  obtain ⟨_, hb, _, _, cur, fz, hg, _⟩ := h
  exact ⟨hb, (Array.getElem?_eq_some_iff.1 hg).1⟩

theorem OwnB.block {w w' : World} {base g n cap : Nat} {xs : List UInt8} (h : OwnB w base g n cap xs) (he : w'.heap[g]? = w.heap[g]?) : OwnB w' base g n cap xs := by
  obtain ⟨h1, h2, h3, h4, cur, fz, hg, h5⟩ := h
  exact ⟨h1, h2, h3, h4, cur, fz, he.trans hg, h5⟩

theorem OwnB.alloc {w : World} {base g n cap : Nat} {xs : List UInt8} (h : OwnB w base g n cap xs) (o : Obj) : OwnB (w.alloc o) base g n cap xs := h.block (heap_alloc_old w o h.lt.2)
theorem OwnB.drew {w : World} {base g n cap : Nat} {xs : List UInt8} (h : OwnB w base g n cap xs) : OwnB w.drew base g n cap xs := h.block rfl

theorem OwnB.cell {w : World} {base g n cap : Nat} {xs : List UInt8} (h : OwnB w base g n cap xs) (j : Nat) (hj : j < xs.length) : w.cell? ((⟨g, 0, none⟩ : Addr).add j) = some (.int .u8 (xs[j].toNat : Int)) := by
  obtain ⟨h1, h2, h3, h4, cur, fz, hg, h5, h6, h7⟩ := h
  have hadd : (⟨g, 0, none⟩ : Addr).add j = ⟨g, j, none⟩ := by unfold Addr.add; split <;> simp_all
  rw [hadd, cell_of_row w g j cur 5 fz hg]
  have h8 : (cur.toList.take n)[j]? = (xs.map u8v)[j]? := by rw [h7]
  rw [List.getElem?_take, if_pos (by omega)] at h8
  simp [hj, u8v] at h8
  simpa using h8

theorem run_store1 {P : Program} (g n : Nat) (t : TypeId) (fz : Nat × Nat) (c : Value) (cur : Array Value) (w : World) (hg : w.heap[g]? = some (.cells cur t fz)) (hf : fz.2 ≤ n ∨ cur.size ≤ fz.1) (hl : n < cur.size) (h1 : c.oneCell' = true) :
    (storeCells ⟨g, n, none⟩ [c] 0).run P w = .ok () (w.setRow g (cur.setIfInBounds n c)) := by
  have hadd : (⟨g, n, none⟩ : Addr).add 0 = ⟨g, n, none⟩ := by unfold Addr.add; split <;> simp_all
  have hcell : w.cell? ⟨g, n, none⟩ = some cur[n] := by simp [World.cell?, hg, hl]
  have hfro : w.frozen? ⟨g, n, none⟩ = false := by
    obtain ⟨lo, hi'⟩ := fz
    simp only [World.frozen?, hg, Bool.and_eq_false_iff, decide_eq_false_iff_not]
    simp only at hf
    omega
  have hst : (store ((⟨g, n, none⟩ : Addr).add 0) c).run P w = .ok () (w.setRow g (cur.setIfInBounds n c)) := by
    rw [hadd, run_store P w _ c _ h1, hcell]
    simp [hfro, setCell_eq_setRow w g n cur t fz c hg]
  simp only [storeCells, Sem.run_bind, hst, Result.andThen_ok]
  rfl

theorem run_append_byte {P : Program} (w : World) (base : Nat) (t ty : TypeId) (i : TypeInfo) (ht : P.underlying t = some (.slice 5)) (hi : P.info? 5 = some i) (hz : i.zero = some (.int .u8 0)) (hsize : i.size = 1) (hby : i.bytes = 1)
    (g n cap : Nat) (xs : List UInt8) (hown : OwnB w base g n cap xs) (ad : Addr) (cc : Nat) (c : UInt8) (hc : w.cell? ad = some (u8v c)) (h63 : n + 1 ≤ 100000000) (hbase : base ≤ w.heap.size) :
    ∃ g' cap' w', (Builtin.append_ #[t, t] ty #[.slice (some ⟨g, 0, none⟩) n cap, .slice (some ad) 1 cc]).run P w = .ok (.slice (some ⟨g', 0, none⟩) (n + 1) cap') w' ∧ OwnB w' base g' (n + 1) cap' (xs ++ [c]) ∧ w.grownBy w' (some g) ∧ (g' = g ∨ g' = w.heap.size) := by
  have hkeep := hown
  obtain ⟨h1, h2, h3, h4, cur, fz, hg, h5, h6, h7⟩ := hown
  have hadd : ad.add 0 = ad := by unfold Addr.add; split <;> simp_all
  have hnews : ∀ j v, [u8v c][j]? = some v → w.cell? (ad.add j) = some v := by
    intro j v hj
    cases j with
    | zero => rw [hadd, hc]; simpa using hj
    | succ j => simp at hj
  by_cases hroom : n + 1 ≤ cap
  · have hf := run_firstCells_some (P := P) w 1 1 ad 1 cc [u8v c] rfl hnews
    have hst := run_store1 (P := P) g n 5 fz (u8v c) cur w hg (by omega) (by omega) rfl
    refine ⟨g, cap, w.setRow g (cur.setIfInBounds n (u8v c)), ?_, ⟨by simp [h1], h2, hroom, h4, _, fz, setRow_heap w g cur _ 5 _ hg, by simpa using h5, by omega, ?_⟩, ⟨rfl, rfl, rfl, by simp, fun k _ hk => setRow_other w g k _ (fun e => hk (by rw [e]))⟩, .inl rfl⟩
    · simp [Builtin.append_, run_underlying ht, sizeOf, typeInfo, hi, hsize, Builtin.lenOf, hroom, hf, Addr.add_lit, hst]
    · rw [Array.toList_setIfInBounds, List.map_append, ← h7, List.take_add_one, List.take_set_of_le (Nat.le_refl _)]
      rw [List.getElem?_set_self (by simp; omega)]
      rfl
  · have holds : ∀ j u, (xs.map u8v)[j]? = some u → w.cell? ((⟨g, 0, none⟩ : Addr).add j) = some u := by
      intro j u hj
      have hjl : j < xs.length := by have := (List.getElem?_eq_some_iff.1 hj).1; simpa using this
      rw [hkeep.cell j hjl]
      simp [hjl, u8v] at hj
      rw [← hj]
    have hr := run_append_grow (P := P) w t ty 5 i (.int .u8 0) ht hi hz ⟨g, 0, none⟩ n cap (xs.map u8v) (by rw [hsize]; simpa using h1) holds ad 1 cc [u8v c] (by rw [hsize]; rfl) hnews (by omega) (by omega) (by rw [hby]; exact growslice_fits (by omega) (by omega))
    have hge := grownCap_ge w (n + 1) cap 5
    have hcm2 : grownCap w (n + 1) cap 5 ≤ maxLen := grownCap_le_maxLen w (n + 1) cap 5 (by unfold maxLen; omega)
    refine ⟨w.heap.size, _, _, hr, ⟨by simp [h1], hbase, hge, hcm2, _, (0, 0), heap_alloc_new w.drew _, ?_, .inl (Nat.zero_le _), ?_⟩, ⟨rfl, rfl, rfl, by simp, fun k hk _ => heap_alloc_old w.drew _ hk⟩, .inr rfl⟩
    · have hz1 : (Value.int IntKind.u8 0).cells.size = 1 := rfl
      simp only [Array.size_append, List.size_toArray, size_zeroCells, hz1, List.length_map, List.length_cons, List.length_nil, h1]
      omega
    · have hl : (xs.map u8v ++ [u8v c]).length = n + 1 := by simp [h1]
      simp only [Array.toList_append, List.append_assoc, List.map_append, List.map_cons, List.map_nil]
      rw [← List.append_assoc, ← hl]
      exact List.take_left

theorem wpList_append_byte {P : Program} (w : World) {ops : Array Oper} {rest : List Oper} {o : Oper} {a : Act} {Q : Exit → Act → World → Prop} (hgd : o.guard = none) (s x : Operand) (t : TypeId)
    (ho : o.op = .call { callee := .builtin .append, args := #[s, x], argTypes := #[t, t] })
    (base : Nat) (i : TypeInfo) (ht : P.underlying t = some (.slice 5)) (hi : P.info? 5 = some i) (hz : i.zero = some (.int .u8 0)) (hsize : i.size = 1) (hby : i.bytes = 1)
    (g n cap : Nat) (xs : List UInt8) (hs : a.eval s = .slice (some ⟨g, 0, none⟩) n cap) (hown : OwnB w base g n cap xs) (ad : Addr) (cc : Nat) (c : UInt8) (hx : a.eval x = .slice (some ad) 1 cc) (hc : w.cell? ad = some (u8v c)) (h63 : n + 1 ≤ 100000000) (hbase : base ≤ w.heap.size)
    (h : ∀ g' cap' w', OwnB w' base g' (n + 1) cap' (xs ++ [c]) → w.grownBy w' (some g) → (g' = g ∨ g' = w.heap.size) → wpList P ops Q rest (a.put o.dst (.slice (some ⟨g', 0, none⟩) (n + 1) cap')) w') : wpList P ops Q (o :: rest) a w := by
  refine wpList_plain hgd fun K hK => ?_
  obtain ⟨g', cap', w', hr, h2, h3, h4⟩ := run_append_byte (P := P) w base t o.type i ht hi hz hsize hby g n cap xs hown ad cc c hc h63 hbase
  unfold Oper.wp execOp
  simp only [ho, resolve, invoke, builtin, Sem.run_bind, Sem.run_pure, Result.andThen_ok, List.map_toArray, List.map_cons, List.map_nil, hs, hx, hr]
  exact hK _ _ (h g' cap' w' h2 h3 h4)

end Go.Proofs.Ytmmbgfbliekkgaa
