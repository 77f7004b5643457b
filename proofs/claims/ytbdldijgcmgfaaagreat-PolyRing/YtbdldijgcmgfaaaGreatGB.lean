/-
  Monomials in memory; closures over two of them; each.
-/
import Derived.Test.YtbdldijgcmgfaaaGreatGA
import Derived.Laws.Rows
namespace Go.Proofs.YtbdldijgcmgfaaaGreat.Mg
open Go.RowKit

/-- A monomial's variable in memory. -/
def MBox (W : World) (B : Nat) (a b c d : Int) : Prop := W.heap[B]? = some (.cells #[.int .i64 a, .int .i64 b, .int .i64 c, .int .i64 d] 37 (0, 0))

theorem MBox.lt {W : World} {B : Nat} {a b c d : Int} (h : MBox W B a b c d) : B < W.heap.size := (Array.getElem?_eq_some_iff.1 h).1
theorem MBox.c0 {W : World} {B : Nat} {a b c d : Int} (h : MBox W B a b c d) : W.cell? ⟨B, 0, none⟩ = some (.int .i64 a) := by simp [World.cell?, show W.heap[B]? = _ from h]
theorem MBox.c1 {W : World} {B : Nat} {a b c d : Int} (h : MBox W B a b c d) : W.cell? ⟨B, 1, none⟩ = some (.int .i64 b) := by simp [World.cell?, show W.heap[B]? = _ from h]
theorem MBox.c2 {W : World} {B : Nat} {a b c d : Int} (h : MBox W B a b c d) : W.cell? ⟨B, 2, none⟩ = some (.int .i64 c) := by simp [World.cell?, show W.heap[B]? = _ from h]
theorem MBox.c3 {W : World} {B : Nat} {a b c d : Int} (h : MBox W B a b c d) : W.cell? ⟨B, 3, none⟩ = some (.int .i64 d) := by simp [World.cell?, show W.heap[B]? = _ from h]
theorem MBox.f {W : World} {B : Nat} {a b c d : Int} (h : MBox W B a b c d) (k : Nat) : W.frozen? ⟨B, k, none⟩ = false := by simp [World.frozen?, show W.heap[B]? = _ from h]
theorem MBox.new (W : World) (a b c d : Int) : MBox (W.alloc (.cells #[.int .i64 a, .int .i64 b, .int .i64 c, .int .i64 d] 37)) W.heap.size a b c d := heap_alloc_new W _
theorem MBox.below {W W' : World} {B : Nat} {a b c d : Int} (h : MBox W B a b c d) (hb : Below W.heap.size W W') : MBox W' B a b c d := (hb.block B h.lt).trans h
theorem MBox.alloc {W : World} {B : Nat} {a b c d : Int} (h : MBox W B a b c d) (o : Obj) : MBox (W.alloc o) B a b c d := h.below ((Below.refl _ _).alloc (Nat.le_refl _) o)

theorem set_cells {W : World} {B : Nat} {cs : Array Value} {t : TypeId} (h : W.heap[B]? = some (.cells cs t (0, 0))) (k : Nat) (v : Value) : (W.setCell ⟨B, k, none⟩ v).heap[B]? = some (.cells (cs.setIfInBounds k v) t (0, 0)) := by
  obtain ⟨hlt, hk⟩ := Array.getElem?_eq_some_iff.1 h
  show (W.heap.modify B _)[B]? = _
  rw [Array.getElem?_eq_getElem (by rw [Array.size_modify]; exact hlt), Array.getElem_modify_self, hk]
  rfl
theorem MBox.s0 {W : World} {B : Nat} {a b c d : Int} (h : MBox W B a b c d) (x : Int) : MBox (W.setCell ⟨B, 0, none⟩ (.int .i64 x)) B x b c d := set_cells h 0 (.int .i64 x)
theorem MBox.s1 {W : World} {B : Nat} {a b c d : Int} (h : MBox W B a b c d) (x : Int) : MBox (W.setCell ⟨B, 1, none⟩ (.int .i64 x)) B a x c d := set_cells h 1 (.int .i64 x)
theorem MBox.s2 {W : World} {B : Nat} {a b c d : Int} (h : MBox W B a b c d) (x : Int) : MBox (W.setCell ⟨B, 2, none⟩ (.int .i64 x)) B a b x d := set_cells h 2 (.int .i64 x)
theorem MBox.s3 {W : World} {B : Nat} {a b c d : Int} (h : MBox W B a b c d) (x : Int) : MBox (W.setCell ⟨B, 3, none⟩ (.int .i64 x)) B a b c x := set_cells h 3 (.int .i64 x)
theorem MBox.other {W : World} {B B' k : Nat} {a b c d : Int} {v : Value} (h : MBox W B a b c d) (hne : B ≠ B') : MBox (W.setCell ⟨B', k, none⟩ v) B a b c d := (Below.heap_setCell W ⟨B', k, none⟩ v B hne).trans h
theorem MBox.set {W : World} {B : Nat} {a b c d : Int} (h : MBox W B a b c d) (x y z u : Int) : MBox ((((W.setCell ⟨B, 0, none⟩ (.int .i64 x)).setCell ⟨B, 1, none⟩ (.int .i64 y)).setCell ⟨B, 2, none⟩ (.int .i64 z)).setCell ⟨B, 3, none⟩ (.int .i64 u)) B x y z u := (((h.s0 x).s1 y).s2 z).s3 u
theorem MBox.others {W : World} {B B' : Nat} {a b c d : Int} {v v1 v2 v3 : Value} (h : MBox W B a b c d) (hne : B ≠ B') : MBox ((((W.setCell ⟨B', 0, none⟩ v).setCell ⟨B', 1, none⟩ v1).setCell ⟨B', 2, none⟩ v2).setCell ⟨B', 3, none⟩ v3) B a b c d := (((h.other hne).other hne).other hne).other hne
theorem below_set {n₀ : Nat} {a W : World} (h : Below n₀ a W) {B : Nat} (hB : n₀ ≤ B) (u v x y : Value) : Below n₀ a ((((W.setCell ⟨B, 0, none⟩ u).setCell ⟨B, 1, none⟩ v).setCell ⟨B, 2, none⟩ x).setCell ⟨B, 3, none⟩ y) := (((h.setCell hB u).setCell hB v).setCell hB x).setCell hB y

theorem ret_int {k : IntKind} {a b : Int} (h : a = b) : Ending.returned (.int k a) = .returned (.int k b) := by rw [h]

theorem load_m {w : World} {B : Nat} {a b c d : Int} (h : MBox w B a b c d) : (loadVar 37 ⟨B, 0, none⟩).run Tryz.prog w = .ok (.agg #[.int .i64 a, .int .i64 b, .int .i64 c, .int .i64 d]) w :=
  run_loadVar_row w B 37 37 _ (0, 0) _ h Tryz.underlying37 rfl (by kernel_rfl)

theorem results_m1 {fn : Func} {t : Tmp} (hf : fn.results = #[.cell t 37]) (tmps : Array Value) {w : World} {B : Nat} {a b c d : Int} (h : MBox w B a b c d) (ht : tmps[t]?.getD undef = .pointer (some ⟨B, 0, none⟩)) :
    (results fn tmps).run Tryz.prog w = .ok (.agg #[.int .i64 a, .int .i64 b, .int .i64 c, .int .i64 d]) w := by
  simp only [results, hf]
  simp [asAddr, ht, load_m h]
theorem results_m2 {fn : Func} {t u : Tmp} (hf : fn.results = #[.cell t 37, .tmp u]) (tmps : Array Value) {w : World} {B : Nat} {a b c d : Int} (h : MBox w B a b c d) (ht : tmps[t]?.getD undef = .pointer (some ⟨B, 0, none⟩)) (v : Value) (hv : tmps[u]?.getD undef = v) :
    (results fn tmps).run Tryz.prog w = .ok (.tuple #[.agg #[.int .i64 a, .int .i64 b, .int .i64 c, .int .i64 d], v]) w := by
  simp only [results, hf]
  simp [Result.andThen, asAddr, ht, hv, load_m h]

end Go.Proofs.YtbdldijgcmgfaaaGreat.Mg
