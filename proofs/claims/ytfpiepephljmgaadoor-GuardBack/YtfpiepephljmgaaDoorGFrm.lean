/-
  Frames in memory; guard.unsummed and guard.Put.
-/
import Derived.Test.YtfpiepephljmgaaDoorGByt
import Derived.Laws.Rows
import Derived.Deep.DrawnRows
import Derived.Deep.RegionHeld3
namespace Go.Proofs.YtfpiepephljmgaaDoor
open Go.RowKit

/-- A frame, as a value. -/
structure Frm where
  seq : Nat
  epoch : Nat
  text : List UInt8

def Frm.v (f : Frm) : Value := .agg #[.int .u64 (f.seq : Int), .int .u64 (f.epoch : Int), .string (str f.text)]

/-- A frame's variable in memory. -/
def FBox (W : World) (B : Nat) (x y : Int) (T : ByteArray) : Prop := W.heap[B]? = some (.cells #[.int .u64 x, .int .u64 y, .string T] 24 (0, 0))

theorem FBox.lt {W : World} {B : Nat} {x y : Int} {T : ByteArray} (h : FBox W B x y T) : B < W.heap.size := (Array.getElem?_eq_some_iff.1 h).1
theorem FBox.c0 {W : World} {B : Nat} {x y : Int} {T : ByteArray} (h : FBox W B x y T) : W.cell? ⟨B, 0, none⟩ = some (.int .u64 x) := by simp [World.cell?, show W.heap[B]? = _ from h]
theorem FBox.c1 {W : World} {B : Nat} {x y : Int} {T : ByteArray} (h : FBox W B x y T) : W.cell? ⟨B, 1, none⟩ = some (.int .u64 y) := by simp [World.cell?, show W.heap[B]? = _ from h]
theorem FBox.c2 {W : World} {B : Nat} {x y : Int} {T : ByteArray} (h : FBox W B x y T) : W.cell? ⟨B, 2, none⟩ = some (.string T) := by simp [World.cell?, show W.heap[B]? = _ from h]
theorem FBox.f {W : World} {B : Nat} {x y : Int} {T : ByteArray} (h : FBox W B x y T) (k : Nat) : W.frozen? ⟨B, k, none⟩ = false := by simp [World.frozen?, show W.heap[B]? = _ from h]
theorem FBox.new (W : World) (x y : Int) (T : ByteArray) : FBox (W.alloc (.cells #[.int .u64 x, .int .u64 y, .string T] 24)) W.heap.size x y T := heap_alloc_new W _
theorem FBox.below {W W' : World} {B : Nat} {x y : Int} {T : ByteArray} (h : FBox W B x y T) (hb : Below W.heap.size W W') : FBox W' B x y T := (hb.block B h.lt).trans h
theorem FBox.alloc {W : World} {B : Nat} {x y : Int} {T : ByteArray} (h : FBox W B x y T) (o : Obj) : FBox (W.alloc o) B x y T := h.below ((Below.refl _ _).alloc (Nat.le_refl _) o)
theorem FBox.drew {W : World} {B : Nat} {x y : Int} {T : ByteArray} (h : FBox W B x y T) : FBox W.drew B x y T := h

theorem set_cells {W : World} {B : Nat} {cs : Array Value} {t : TypeId} (h : W.heap[B]? = some (.cells cs t (0, 0))) (k : Nat) (v : Value) : (W.setCell ⟨B, k, none⟩ v).heap[B]? = some (.cells (cs.setIfInBounds k v) t (0, 0)) := by
  obtain ⟨hlt, hk⟩ := Array.getElem?_eq_some_iff.1 h
  show (W.heap.modify B _)[B]? = _
  rw [Array.getElem?_eq_getElem (by rw [Array.size_modify]; exact hlt), Array.getElem_modify_self, hk]
  rfl
theorem FBox.set {W : World} {B : Nat} {x y : Int} {T : ByteArray} (h : FBox W B x y T) (x' y' : Int) (T' : ByteArray) :
    FBox (((W.setCell ⟨B, 0, none⟩ (.int .u64 x')).setCell ⟨B, 1, none⟩ (.int .u64 y')).setCell ⟨B, 2, none⟩ (.string T')) B x' y' T' :=
  set_cells (set_cells (set_cells h 0 (.int .u64 x')) 1 (.int .u64 y')) 2 (.string T')
theorem below_set {n₀ : Nat} {a W : World} (h : Below n₀ a W) {B : Nat} (hB : n₀ ≤ B) (u v x : Value) : Below n₀ a (((W.setCell ⟨B, 0, none⟩ u).setCell ⟨B, 1, none⟩ v).setCell ⟨B, 2, none⟩ x) := ((h.setCell hB u).setCell hB v).setCell hB x

theorem load_f {w : World} {B : Nat} {x y : Int} {T : ByteArray} (h : FBox w B x y T) : (loadVar 24 ⟨B, 0, none⟩).run Tryd.prog w = .ok (.agg #[.int .u64 x, .int .u64 y, .string T]) w :=
  run_loadVar_row w B 24 24 _ (0, 0) _ h Tryd.underlying24 rfl (by kernel_rfl)
theorem results_f1 {fn : Func} {t : Tmp} (hf : fn.results = #[.cell t 24]) (tmps : Array Value) {w : World} {B : Nat} {x y : Int} {T : ByteArray} (h : FBox w B x y T) (ht : tmps[t]?.getD undef = .pointer (some ⟨B, 0, none⟩)) :
    (results fn tmps).run Tryd.prog w = .ok (.agg #[.int .u64 x, .int .u64 y, .string T]) w := by
  simp only [results, hf]
  simp [asAddr, ht, load_f h]
theorem results_f3 {fn : Func} {t u v : Tmp} (hf : fn.results = #[.cell t 24, .tmp u, .tmp v]) (tmps : Array Value) {w : World} {B : Nat} {x y : Int} {T : ByteArray} (h : FBox w B x y T) (ht : tmps[t]?.getD undef = .pointer (some ⟨B, 0, none⟩)) (a b : Value) (ha : tmps[u]?.getD undef = a) (hb : tmps[v]?.getD undef = b) :
    (results fn tmps).run Tryd.prog w = .ok (.tuple #[.agg #[.int .u64 x, .int .u64 y, .string T], a, b]) w := by
  simp only [results, hf]
  simp [Result.andThen, asAddr, ht, ha, hb, load_f h]

theorem Tab.below {w w' : World} {n : Nat} (h : Tab w) (hb : Below n w w') (hn : 0 < n) : Tab w' := fun i hi => (hb.cell (p := ⟨0, i, none⟩) hn).trans (h i hi)
theorem Tab.pos {w : World} (h : Tab w) : 0 < w.heap.size := by
  rcases Nat.eq_zero_or_pos w.heap.size with e | e
  · have h0 := h 0 (by decide)
    unfold World.cell? at h0
    rw [Array.getElem?_eq_none (by show w.heap.size ≤ 0; omega)] at h0
    cases h0
  · exact e
theorem chain {w w1 w2 : World} (h : Below w.heap.size w w1) (k : Below w1.heap.size w1 w2) : Below w.heap.size w w2 :=
  ⟨k.os.trans h.os, k.tape.trans h.tape, k.output.trans h.output, Nat.le_trans h.size k.size, fun j hj => (k.block j (Nat.lt_of_lt_of_le hj h.size)).trans (h.block j hj)⟩

theorem ext_str (s : List UInt8) (a e : Nat) : (str s).extract a e = str ((s.take e).drop a) := by
  unfold str
  apply ByteArray.ext
  apply Array.ext'
  rw [Lib.extract_data]
  simp [List.drop_take]
theorem ext0 (s : List UInt8) (k : Nat) : (str s).extract 0 k = str (s.take k) := by rw [ext_str, List.drop_zero]
theorem extE (s : List UInt8) (k : Nat) : (str s).extract k s.length = str (s.drop k) := by rw [ext_str, List.take_of_length_le (Nat.le_refl _)]

theorem big8 (t : List UInt8) (h : t.length ≤ 8) : joinL t < 18446744073709551616 := by
  have h1 := joinL_lt t
  have h7 : 256 ^ t.length ≤ 256 ^ 8 := Nat.pow_le_pow_right (by decide) h
  have e7 : (256 : Nat) ^ 8 = 18446744073709551616 := by decide
  omega

/-- The frame of a head and a text. -/
def unL (s : List UInt8) : Frm := ⟨joinL ((s.take 12).drop 4), joinL ((s.take 20).drop 12), s.drop 20⟩

set_option maxRecDepth 100000 in
set_option maxHeartbeats 2000000 in
theorem unsummed_any (s : List UInt8) (w : World) (h0 : 20 ≤ s.length) (hl : s.length ≤ 100000) :
    Calls Tryd.prog 24 #[.string (str s)] w fun e w' => e = .returned (unL s).v ∧ Below w.heap.size w w' := by
  obtain ⟨A, hA⟩ : ∃ A, A = (s.take 12).drop 4 := ⟨_, rfl⟩
  obtain ⟨B, hB⟩ : ∃ B, B = (s.take 20).drop 12 := ⟨_, rfl⟩
  obtain ⟨C, hC⟩ : ∃ C, C = s.drop 20 := ⟨_, rfl⟩
  have e1 := ext_str s 4 12
  have e2 := ext_str s 12 20
  have e3 := extE s 20
  rw [← hA] at e1
  rw [← hB] at e2
  rw [← hC] at e3
  have hAl : A.length ≤ 8 := by rw [hA]; simp; omega
  have hBl : B.length ≤ 8 := by rw [hB]; simp; omega
  have hsz : (str s).size = s.length := str_size s
  have HU : Hid (unL s = ⟨joinL A, joinL B, C⟩) := by
    have h9 : unL s = ⟨joinL A, joinL B, C⟩ := by unfold unL; rw [hA, hB, hC]
    exact h9
  have bx := FBox.new w 0 0 (ByteArray.mk #[])
  have g0 : (20 : Int) ≤ (s.length : Int) := by omega
  have g1 : (s.length : Int) ≤ 100000 := by omega
  have g2 : (12 : Int) ≤ (s.length : Int) := by omega
  have HR : Hid (FBox _ w.heap.size 0 0 (ByteArray.mk #[])) := bx
  have c0 := bx.c0
  have c1 := bx.c1
  have c2 := bx.c2
  have f0 := bx.f 0
  have f1 := bx.f 1
  have f2 := bx.f 2
  clear hA hB hC bx
  go_enter Tryd.func24, Tryd.ntmps24
  go_wp2_with fail
  go_region_with (first
    | (go_at_call_of 23 (Value.string (str A)); refine (numberOf_any A _ hAl).mono ?_; rintro e w2 ⟨rfl, rfl⟩)
    | (go_at_call_of 23 (Value.string (str B)); refine (numberOf_any B _ hBl).mono ?_; rintro e w3 ⟨rfl, rfl⟩))
  all_goals
    go_wp2_with fail
    exact bodyPost_ret (results_f1 rfl _ (FBox.new w _ _ _).drew rfl) rfl ⟨by rw [HU.out]; rfl, ((Below.refl _ _).alloc (Nat.le_refl _) _).drew⟩
end Go.Proofs.YtfpiepephljmgaaDoor
