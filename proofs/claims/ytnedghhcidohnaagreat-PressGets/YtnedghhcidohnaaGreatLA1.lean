/-
  Joined: MA · MB.
-/
import Derived.BigQuiet
import Derived.Deep.QuietTactic
import Derived.Deep.RegionWith
import Derived.Handy
import Derived.Test.YtnedghhcidohnaaGreatRows
import Derived.WalkKit
import Derived.WalkLawsBesides
import Derived.WalkSpells
import Derived.Laws.Rows

/-! Monomials that may be; May, as the program and as the reference has it. -/
namespace Go.Proofs.YtnedghhcidohnaaGreat.Mn
open Go.RowKit

/-- An exponent that may be. -/
structure Ex (a : Int) : Prop where
  lo : 0 ≤ a
  hi : a ≤ 40
/-- A monomial that may be. -/
structure May4 (a b c d : Int) : Prop where
  x : Ex a
  y : Ex b
  z : Ex c
  u : Ex d

theorem chain {w w1 w2 : World} (h : Below w.heap.size w w1) (h2 : Below w1.heap.size w1 w2) : Below w.heap.size w w2 := h.trans (h2.mono h.size)

theorem ix0 (a b c d : Int) (w : World) : (Instr.index 47 (.agg #[.int .i64 a, .int .i64 b, .int .i64 c, .int .i64 d]) (.int .i64 0)).run Tryz.prog w = .ok (.int .i64 a) w := by kernel_rfl
theorem ix1 (a b c d : Int) (w : World) : (Instr.index 47 (.agg #[.int .i64 a, .int .i64 b, .int .i64 c, .int .i64 d]) (.int .i64 1)).run Tryz.prog w = .ok (.int .i64 b) w := by kernel_rfl
theorem ix2 (a b c d : Int) (w : World) : (Instr.index 47 (.agg #[.int .i64 a, .int .i64 b, .int .i64 c, .int .i64 d]) (.int .i64 2)).run Tryz.prog w = .ok (.int .i64 c) w := by kernel_rfl
theorem ix3 (a b c d : Int) (w : World) : (Instr.index 47 (.agg #[.int .i64 a, .int .i64 b, .int .i64 c, .int .i64 d]) (.int .i64 3)).run Tryz.prog w = .ok (.int .i64 d) w := by kernel_rfl

/-- Which exponent is the first that may not be. -/
theorem not_may {a b c d : Int} (h : ¬ May4 a b c d) : (a < 0 ∨ 40 < a) ∨ ((0 ≤ a ∧ a ≤ 40) ∧ (b < 0 ∨ 40 < b)) ∨ ((0 ≤ a ∧ a ≤ 40) ∧ (0 ≤ b ∧ b ≤ 40) ∧ (c < 0 ∨ 40 < c)) ∨ ((0 ≤ a ∧ a ≤ 40) ∧ (0 ≤ b ∧ b ≤ 40) ∧ (0 ≤ c ∧ c ≤ 40) ∧ (d < 0 ∨ 40 < d)) := by
  by_cases ha : 0 ≤ a ∧ a ≤ 40
  · by_cases hb : 0 ≤ b ∧ b ≤ 40
    · by_cases hc : 0 ≤ c ∧ c ≤ 40
      · by_cases hd : 0 ≤ d ∧ d ≤ 40
        · exact absurd ⟨⟨ha.1, ha.2⟩, ⟨hb.1, hb.2⟩, ⟨hc.1, hc.2⟩, ⟨hd.1, hd.2⟩⟩ h
        · omega
      · omega
    · omega
  · omega

set_option maxHeartbeats 400000 in
theorem may_yes (a b c d : Int) (w : World) (h : May4 a b c d) :
    Calls Tryz.prog 75 #[.agg #[.int .i64 a, .int .i64 b, .int .i64 c, .int .i64 d]] w fun e w' => e = .returned (.bool true) ∧ Below w.heap.size w w' := by
  obtain ⟨⟨a0, a1⟩, ⟨b0, b1⟩, ⟨c0, c1⟩, ⟨d0, d1⟩⟩ := h
  have i0 := ix0 a b c d
  have i1 := ix1 a b c d
  have i2 := ix2 a b c d
  have i3 := ix3 a b c d
  go_enter Tryz.func75, Tryz.ntmps75
  go_wp2
  go_rounds 5
  go_ret
  exact ⟨rfl, (Below.refl _ _).alloc (Nat.le_refl _) _⟩

set_option maxHeartbeats 1000000 in
theorem may_no (a b c d : Int) (w : World) (h : ¬ May4 a b c d) :
    Calls Tryz.prog 75 #[.agg #[.int .i64 a, .int .i64 b, .int .i64 c, .int .i64 d]] w fun e w' => e = .returned (.bool false) ∧ Below w.heap.size w w' := by
  have i0 := ix0 a b c d
  have i1 := ix1 a b c d
  have i2 := ix2 a b c d
  have i3 := ix3 a b c d
  rcases not_may h with (h1 | h1) | ⟨⟨a0, a1⟩, h1 | h1⟩ | ⟨⟨a0, a1⟩, ⟨b0, b1⟩, h1 | h1⟩ | ⟨⟨a0, a1⟩, ⟨b0, b1⟩, ⟨c0, c1⟩, h1 | h1⟩
  all_goals
    clear h
    go_enter Tryz.func75, Tryz.ntmps75
    go_wp2
    go_rounds 5
    go_ret
    exact ⟨rfl, (Below.refl _ _).alloc (Nat.le_refl _) _⟩

set_option maxHeartbeats 400000 in
theorem rmay_yes (a b c d : Int) (w : World) (h : May4 a b c d) :
    Calls Tryz.prog 39 #[.agg #[.int .i64 a, .int .i64 b, .int .i64 c, .int .i64 d]] w fun e w' => e = .returned (.bool true) ∧ Below w.heap.size w w' := by
  obtain ⟨⟨a0, a1⟩, ⟨b0, b1⟩, ⟨c0, c1⟩, ⟨d0, d1⟩⟩ := h
  go_enter Tryz.func39, Tryz.ntmps39
  go_wp2
  go_rounds 5
  go_ret
  exact ⟨rfl, (Below.refl _ _).alloc (Nat.le_refl _) _⟩

set_option maxHeartbeats 1000000 in
theorem rmay_no (a b c d : Int) (w : World) (h : ¬ May4 a b c d) :
    Calls Tryz.prog 39 #[.agg #[.int .i64 a, .int .i64 b, .int .i64 c, .int .i64 d]] w fun e w' => e = .returned (.bool false) ∧ Below w.heap.size w w' := by
  rcases not_may h with (h1 | h1) | ⟨⟨a0, a1⟩, h1 | h1⟩ | ⟨⟨a0, a1⟩, ⟨b0, b1⟩, h1 | h1⟩ | ⟨⟨a0, a1⟩, ⟨b0, b1⟩, ⟨c0, c1⟩, h1 | h1⟩
  all_goals
    clear h
    go_enter Tryz.func39, Tryz.ntmps39
    go_wp2
    go_rounds 5
    go_ret
    exact ⟨rfl, (Below.refl _ _).alloc (Nat.le_refl _) _⟩

end Go.Proofs.YtnedghhcidohnaaGreat.Mn

/-! Monomials in memory; closures over two of them; each. -/
namespace Go.Proofs.YtnedghhcidohnaaGreat.Mn
open Go.RowKit

/-- A monomial's variable in memory. -/
def MBox (W : World) (B : Nat) (a b c d : Int) : Prop := W.heap[B]? = some (.cells #[.int .i64 a, .int .i64 b, .int .i64 c, .int .i64 d] 47 (0, 0))

theorem MBox.lt {W : World} {B : Nat} {a b c d : Int} (h : MBox W B a b c d) : B < W.heap.size := (Array.getElem?_eq_some_iff.1 h).1
theorem MBox.c0 {W : World} {B : Nat} {a b c d : Int} (h : MBox W B a b c d) : W.cell? ⟨B, 0, none⟩ = some (.int .i64 a) := by simp [World.cell?, show W.heap[B]? = _ from h]
theorem MBox.c1 {W : World} {B : Nat} {a b c d : Int} (h : MBox W B a b c d) : W.cell? ⟨B, 1, none⟩ = some (.int .i64 b) := by simp [World.cell?, show W.heap[B]? = _ from h]
theorem MBox.c2 {W : World} {B : Nat} {a b c d : Int} (h : MBox W B a b c d) : W.cell? ⟨B, 2, none⟩ = some (.int .i64 c) := by simp [World.cell?, show W.heap[B]? = _ from h]
theorem MBox.c3 {W : World} {B : Nat} {a b c d : Int} (h : MBox W B a b c d) : W.cell? ⟨B, 3, none⟩ = some (.int .i64 d) := by simp [World.cell?, show W.heap[B]? = _ from h]
theorem MBox.f {W : World} {B : Nat} {a b c d : Int} (h : MBox W B a b c d) (k : Nat) : W.frozen? ⟨B, k, none⟩ = false := by simp [World.frozen?, show W.heap[B]? = _ from h]
theorem MBox.new (W : World) (a b c d : Int) : MBox (W.alloc (.cells #[.int .i64 a, .int .i64 b, .int .i64 c, .int .i64 d] 47)) W.heap.size a b c d := heap_alloc_new W _
theorem MBox.below {W W' : World} {B : Nat} {a b c d : Int} (h : MBox W B a b c d) (hb : Below W.heap.size W W') : MBox W' B a b c d := (hb.block B h.lt).trans h
theorem MBox.alloc {W : World} {B : Nat} {a b c d : Int} (h : MBox W B a b c d) (o : Obj) : MBox (W.alloc o) B a b c d := h.below ((Below.refl _ _).alloc (Nat.le_refl _) o)

theorem set_cells {W : World} {B : Nat} {cs : Array Value} {t : TypeId} (h : W.heap[B]? = some (.cells cs t (0, 0))) (k : Nat) (v : Value) : (W.setCell ⟨B, k, none⟩ v).heap[B]? = some (.cells (cs.setIfInBounds k v) t (0, 0)) := by
  obtain ⟨hlt, hk⟩ := Array.getElem?_eq_some_iff.1 h
  show (W.heap.modify B _)[B]? = _
  rw [Array.getElem?_eq_getElem (by rw [Array.size_modify]; exact hlt), Array.getElem_modify_self, hk]
  rfl
theorem MBox.s0 {W : World} {B : Nat} {a b c d : Int} (h : MBox W B a b c d) (x : Int) : MBox (W.setCell ⟨B, 0, none⟩ (.int .i64 x)) B x b c d := set_cells h 0 (.int .i64 x)
theorem MBox.s1 {W : World} {B : Nat} {a b c d : Int} (h : MBox W B a b c d) (x : Int) : MBox (W.setCell ⟨B, 1, none⟩ (.int .i64 x)) B a x c d := set_cells h 1 (.int .i64 x)
theorem MBox.s2 {W : World} {B : Nat} {a b c d : Int} (h : MBox W B a b c d) (x : Int) : MBox (W.setCell ⟨B, 2, none⟩ (.int .i64 x)) B a b x d := set_cells h 2 (.int .i64 x)
theorem MBox.s3 {W : World} {B : Nat} {a b c d : Int} (h : MBox W B a b c d) (x : Int) : MBox (W.setCell ⟨B, 3, none⟩ (.int .i64 x)) B a b c x := set_cells h 3 (.int .i64 x)
theorem MBox.other {W : World} {B B' k : Nat} {a b c d : Int} {v : Value} (h : MBox W B a b c d) (hne : B ≠ B') : MBox (W.setCell ⟨B', k, none⟩ v) B a b c d := (Below.heap_setCell W ⟨B', k, none⟩ v B hne).trans h
theorem MBox.set {W : World} {B : Nat} {a b c d : Int} (h : MBox W B a b c d) (x y z u : Int) : MBox ((((W.setCell ⟨B, 0, none⟩ (.int .i64 x)).setCell ⟨B, 1, none⟩ (.int .i64 y)).setCell ⟨B, 2, none⟩ (.int .i64 z)).setCell ⟨B, 3, none⟩ (.int .i64 u)) B x y z u := (((h.s0 x).s1 y).s2 z).s3 u
theorem MBox.others {W : World} {B B' : Nat} {a b c d : Int} {v v1 v2 v3 : Value} (h : MBox W B a b c d) (hne : B ≠ B') : MBox ((((W.setCell ⟨B', 0, none⟩ v).setCell ⟨B', 1, none⟩ v1).setCell ⟨B', 2, none⟩ v2).setCell ⟨B', 3, none⟩ v3) B a b c d := (((h.other hne).other hne).other hne).other hne
theorem below_set {n₀ : Nat} {a W : World} (h : Below n₀ a W) {B : Nat} (hB : n₀ ≤ B) (u v x y : Value) : Below n₀ a ((((W.setCell ⟨B, 0, none⟩ u).setCell ⟨B, 1, none⟩ v).setCell ⟨B, 2, none⟩ x).setCell ⟨B, 3, none⟩ y) := (((h.setCell hB u).setCell hB v).setCell hB x).setCell hB y

theorem ret_int {k : IntKind} {a b : Int} (h : a = b) : Ending.returned (.int k a) = .returned (.int k b) := by rw [h]

theorem load_m {w : World} {B : Nat} {a b c d : Int} (h : MBox w B a b c d) : (loadVar 47 ⟨B, 0, none⟩).run Tryz.prog w = .ok (.agg #[.int .i64 a, .int .i64 b, .int .i64 c, .int .i64 d]) w :=
  run_loadVar_row w B 47 47 _ (0, 0) _ h Tryz.underlying47 rfl (by kernel_rfl)

theorem results_m1 {fn : Func} {t : Tmp} (hf : fn.results = #[.cell t 47]) (tmps : Array Value) {w : World} {B : Nat} {a b c d : Int} (h : MBox w B a b c d) (ht : tmps[t]?.getD undef = .pointer (some ⟨B, 0, none⟩)) :
    (results fn tmps).run Tryz.prog w = .ok (.agg #[.int .i64 a, .int .i64 b, .int .i64 c, .int .i64 d]) w := by
  simp only [results, hf]
  simp [asAddr, ht, load_m h]
theorem results_m2 {fn : Func} {t u : Tmp} (hf : fn.results = #[.cell t 47, .tmp u]) (tmps : Array Value) {w : World} {B : Nat} {a b c d : Int} (h : MBox w B a b c d) (ht : tmps[t]?.getD undef = .pointer (some ⟨B, 0, none⟩)) (v : Value) (hv : tmps[u]?.getD undef = v) :
    (results fn tmps).run Tryz.prog w = .ok (.tuple #[.agg #[.int .i64 a, .int .i64 b, .int .i64 c, .int .i64 d], v]) w := by
  simp only [results, hf]
  simp [Result.andThen, asAddr, ht, hv, load_m h]

end Go.Proofs.YtnedghhcidohnaaGreat.Mn
