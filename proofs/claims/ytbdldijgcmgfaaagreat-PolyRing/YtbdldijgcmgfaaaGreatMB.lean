/-
  Monomials in memory; closures over two of them; each.
-/
import Derived.Test.YtbdldijgcmgfaaaGreatMA
import Derived.Laws.Rows
namespace Go.Proofs.YtbdldijgcmgfaaaGreat.Mn
open Go.RowKit

/-- A monomial's variable in memory. -/
def MBox (W : World) (B : Nat) (a b c d : Int) : Prop := W.heap[B]? = some (.cells #[.int .i64 a, .int .i64 b, .int .i64 c, .int .i64 d] 37 (0, 0))

theorem MBox.lt {W : World} {B : Nat} {a b c d : Int} (h : MBox W B a b c d) : B < W.heap.size := (Array.getElem?_eq_some_iff.1 h).1
theorem MBox.c0 {W : World} {B : Nat} {a b c d : Int} (h : MBox W B a b c d) : W.cell? ⟨B, 0, none⟩ = some (.int .i64 a) := by simp [World.cell?, show W.heap[B]? = _ from h]
theorem MBox.c1 {W : World} {B : Nat} {a b c d : Int} (h : MBox W B a b c d) : W.cell? ⟨B, 1, none⟩ = some (.int .i64 b) := by simp [World.cell?, show W.heap[B]? = _ from h]
theorem MBox.c2 {W : World} {B : Nat} {a b c d : Int} (h : MBox W B a b c d) : W.cell? ⟨B, 2, none⟩ = some (.int .i64 c) := by simp [World.cell?, show W.heap[B]? = _ from h]
theorem MBox.c3 {W : World} {B : Nat} {a b c d : Int} (h : MBox W B a b c d) : W.cell? ⟨B, 3, none⟩ = some (.int .i64 d) := by simp [World.cell?, show W.heap[B]? = _ from h]
theorem MBox.f {W : World} {B : Nat} {a b c d : Int} (h : MBox W B a b c d) (k : Nat) : W.frozen? ⟨B, k, none⟩ = false := by simp [World.frozen?, show W.heap[B]? = _ from h]
theorem MBox.new (W : World) (a b c d : Int) : MBox (W.alloc (.cells #[.int .i64 a, .int .i64 b, .int .i64 c, .int .i64 d] 37)) W.heap.size a b c d := heap_alloc_new W _
theorem MBox.below {W W' : World} {B : Nat} {a b c d : Int} (h : MBox W B a b c d) (hb : Below W.heap.size W W') : MBox W' B a b c d := (hb.block B h.lt).trans h
theorem MBox.alloc {W : World} {B : Nat} {a b c d : Int} (h : MBox W B a b c d) (o : Obj) : MBox (W.alloc o) B a b c d := h.below ((Below.refl _ _).alloc (Nat.le_refl _) o)

theorem set_cells {W : World} {B : Nat} {cs : Array Value} {t : TypeId} (h : W.heap[B]? = some (.cells cs t (0, 0))) (k : Nat) (v : Value) : (W.setCell ⟨B, k, none⟩ v).heap[B]? = some (.cells (cs.setIfInBounds k v) t (0, 0)) := by
  obtain ⟨hlt, hk⟩ := Array.getElem?_eq_some_iff.1 h
  show (W.heap.modify B _)[B]? = _
  rw [Array.getElem?_eq_getElem (by rw [Array.size_modify]; exact hlt), Array.getElem_modify_self, hk]
  rfl
theorem MBox.s0 {W : World} {B : Nat} {a b c d : Int} (h : MBox W B a b c d) (x : Int) : MBox (W.setCell ⟨B, 0, none⟩ (.int .i64 x)) B x b c d := set_cells h 0 (.int .i64 x)
theorem MBox.s1 {W : World} {B : Nat} {a b c d : Int} (h : MBox W B a b c d) (x : Int) : MBox (W.setCell ⟨B, 1, none⟩ (.int .i64 x)) B a x c d := set_cells h 1 (.int .i64 x)
theorem MBox.s2 {W : World} {B : Nat} {a b c d : Int} (h : MBox W B a b c d) (x : Int) : MBox (W.setCell ⟨B, 2, none⟩ (.int .i64 x)) B a b x d := set_cells h 2 (.int .i64 x)
theorem MBox.s3 {W : World} {B : Nat} {a b c d : Int} (h : MBox W B a b c d) (x : Int) : MBox (W.setCell ⟨B, 3, none⟩ (.int .i64 x)) B a b c x := set_cells h 3 (.int .i64 x)
theorem MBox.other {W : World} {B B' k : Nat} {a b c d : Int} {v : Value} (h : MBox W B a b c d) (hne : B ≠ B') : MBox (W.setCell ⟨B', k, none⟩ v) B a b c d := (Below.heap_setCell W ⟨B', k, none⟩ v B hne).trans h
theorem MBox.set {W : World} {B : Nat} {a b c d : Int} (h : MBox W B a b c d) (x y z u : Int) : MBox ((((W.setCell ⟨B, 0, none⟩ (.int .i64 x)).setCell ⟨B, 1, none⟩ (.int .i64 y)).setCell ⟨B, 2, none⟩ (.int .i64 z)).setCell ⟨B, 3, none⟩ (.int .i64 u)) B x y z u := (((h.s0 x).s1 y).s2 z).s3 u
theorem MBox.others {W : World} {B B' : Nat} {a b c d : Int} {v v1 v2 v3 : Value} (h : MBox W B a b c d) (hne : B ≠ B') : MBox ((((W.setCell ⟨B', 0, none⟩ v).setCell ⟨B', 1, none⟩ v1).setCell ⟨B', 2, none⟩ v2).setCell ⟨B', 3, none⟩ v3) B a b c d := (((h.other hne).other hne).other hne).other hne
theorem below_set {n₀ : Nat} {a W : World} (h : Below n₀ a W) {B : Nat} (hB : n₀ ≤ B) (u v x y : Value) : Below n₀ a ((((W.setCell ⟨B, 0, none⟩ u).setCell ⟨B, 1, none⟩ v).setCell ⟨B, 2, none⟩ x).setCell ⟨B, 3, none⟩ y) := (((h.setCell hB u).setCell hB v).setCell hB x).setCell hB y

theorem ret_int {k : IntKind} {a b : Int} (h : a = b) : Ending.returned (.int k a) = .returned (.int k b) := by rw [h]

theorem load_m {w : World} {B : Nat} {a b c d : Int} (h : MBox w B a b c d) : (loadVar 37 ⟨B, 0, none⟩).run Tryz.prog w = .ok (.agg #[.int .i64 a, .int .i64 b, .int .i64 c, .int .i64 d]) w :=
  run_loadVar_row w B 37 37 _ (0, 0) _ h Tryz.underlying37 rfl (by kernel_rfl)

theorem results_m1 {fn : Func} {t : Tmp} (hf : fn.results = #[.cell t 37]) (tmps : Array Value) {w : World} {B : Nat} {a b c d : Int} (h : MBox w B a b c d) (ht : tmps[t]?.getD undef = .pointer (some ⟨B, 0, none⟩)) :
    (results fn tmps).run Tryz.prog w = .ok (.agg #[.int .i64 a, .int .i64 b, .int .i64 c, .int .i64 d]) w := by
  simp only [results, hf]
  simp [asAddr, ht, load_m h]
theorem results_m2 {fn : Func} {t u : Tmp} (hf : fn.results = #[.cell t 37, .tmp u]) (tmps : Array Value) {w : World} {B : Nat} {a b c d : Int} (h : MBox w B a b c d) (ht : tmps[t]?.getD undef = .pointer (some ⟨B, 0, none⟩)) (v : Value) (hv : tmps[u]?.getD undef = v) :
    (results fn tmps).run Tryz.prog w = .ok (.tuple #[.agg #[.int .i64 a, .int .i64 b, .int .i64 c, .int .i64 d], v]) w := by
  simp only [results, hf]
  simp [Result.andThen, asAddr, ht, hv, load_m h]

set_option maxHeartbeats 400000 in
theorem add_clo (i : Nat) (hi : i < 4) (A B : Nat) (x y : Int) (w : World) (hx : w.cell? ⟨A, i, none⟩ = some (.int .i64 x)) (hy : w.cell? ⟨B, i, none⟩ = some (.int .i64 y)) (ex : Ex x) (ey : Ex y) :
    Calls Tryz.prog 95 (#[.int .i64 (i : Nat)] ++ #[.pointer (some ⟨A, 0, none⟩), .pointer (some ⟨B, 0, none⟩)]) w fun e w' => e = .returned (.int .i64 (x + y)) ∧ ∃ n, w' = w.drewN n := by
  obtain ⟨x0, x1⟩ := ex
  obtain ⟨y0, y1⟩ := ey
  have hi' : (i : Int) < 4 := by omega
  go_enter Tryz.func95, Tryz.ntmps95
  go_wp2
  go_quiet (fail)
  go_wp2
  go_ret
  exact ⟨rfl, _, rfl⟩

set_option maxHeartbeats 1000000 in
/-- A monomial is put together by what a closure tells of each place. -/
theorem each_any (K : Nat) (caps : Array Value) (p q r s : Int) (w : World)
    (heg : ∀ args w, (callFunc K args).run Tryz.prog w = .ok (.enter K args) w)
    (h0 : ∀ w1, Below w.heap.size w w1 → Calls Tryz.prog K (#[.int .i64 (0 : Nat)] ++ caps) w1 fun e w' => e = .returned (.int .i64 p) ∧ ∃ n, w' = w1.drewN n)
    (h1 : ∀ w1, Below w.heap.size w w1 → Calls Tryz.prog K (#[.int .i64 (1 : Nat)] ++ caps) w1 fun e w' => e = .returned (.int .i64 q) ∧ ∃ n, w' = w1.drewN n)
    (h2 : ∀ w1, Below w.heap.size w w1 → Calls Tryz.prog K (#[.int .i64 (2 : Nat)] ++ caps) w1 fun e w' => e = .returned (.int .i64 r) ∧ ∃ n, w' = w1.drewN n)
    (h3 : ∀ w1, Below w.heap.size w w1 → Calls Tryz.prog K (#[.int .i64 (3 : Nat)] ++ caps) w1 fun e w' => e = .returned (.int .i64 s) ∧ ∃ n, w' = w1.drewN n) :
    Calls Tryz.prog 94 #[.func (.func K) #[] caps] w fun e w' => e = .returned (.agg #[.int .i64 p, .int .i64 q, .int .i64 r, .int .i64 s]) ∧ Below w.heap.size w w' := by
  have H0 : Hid _ := h0
  have H1 : Hid _ := h1
  have H2 : Hid _ := h2
  have H3 : Hid _ := h3
  clear h0 h1 h2 h3
  go_enter Tryz.func94, Tryz.ntmps94
  go_wp2
  refine wp_loop_rounds 5 ?_
  rw [rounds_succ]
  go_wp2_with fail
  have B0 : Below w.heap.size w ((w.alloc (.cells #[.int .i64 0, .int .i64 0, .int .i64 0, .int .i64 0] 37)).alloc (.cells #[.int .i64 0, .int .i64 0, .int .i64 0, .int .i64 0] 37)) := ((Below.refl _ _).alloc (Nat.le_refl _) _).alloc (by simp) _
  refine (H0.out _ B0).mono ?_
  rintro e w1 ⟨rfl, n, hw⟩
  have R1 : Hid (MBox w1 w.heap.size 0 0 0 0 ∧ MBox w1 (w.heap.size + 1) 0 0 0 0 ∧ Below w.heap.size w w1) := by
    subst hw
    have e1 : (w.alloc (.cells #[.int .i64 0, .int .i64 0, .int .i64 0, .int .i64 0] 37)).heap.size = w.heap.size + 1 := by simp
    refine ⟨((MBox.new w 0 0 0 0).alloc _).below (below_drewN (Below.refl _ _) n), ?_, below_drewN B0 n⟩
    rw [← e1]
    exact (MBox.new (w.alloc (.cells #[.int .i64 0, .int .i64 0, .int .i64 0, .int .i64 0] 37)) 0 0 0 0).below (below_drewN (Below.refl _ _) n)
  clear hw B0
  have c0 := R1.out.2.1.c0
  have f0 := R1.out.2.1.f 0
  go_wp2
  have S1 : Hid (MBox (w1.setCell ⟨w.heap.size + 1, 0, none⟩ (.int .i64 p)) w.heap.size 0 0 0 0 ∧ MBox (w1.setCell ⟨w.heap.size + 1, 0, none⟩ (.int .i64 p)) (w.heap.size + 1) p 0 0 0 ∧ Below w.heap.size w (w1.setCell ⟨w.heap.size + 1, 0, none⟩ (.int .i64 p))) := ⟨R1.out.1.other (by omega), R1.out.2.1.s0 _, R1.out.2.2.setCell (by show w.heap.size ≤ w.heap.size + 1; omega) _⟩
  clear R1 c0 f0
  rw [rounds_succ]
  go_wp2_with fail
  refine (H1.out _ S1.out.2.2).mono ?_
  rintro e w2 ⟨rfl, n2, hw⟩
  have R2 : Hid (MBox w2 w.heap.size 0 0 0 0 ∧ MBox w2 (w.heap.size + 1) p 0 0 0 ∧ Below w.heap.size w w2) := by
    subst hw
    exact ⟨S1.out.1.below (below_drewN (Below.refl _ _) _), S1.out.2.1.below (below_drewN (Below.refl _ _) _), below_drewN S1.out.2.2 _⟩
  clear hw S1
  have c1 := R2.out.2.1.c1
  have f1 := R2.out.2.1.f 1
  go_wp2
  have S2 : Hid (MBox (w2.setCell ⟨w.heap.size + 1, 1, none⟩ (.int .i64 q)) w.heap.size 0 0 0 0 ∧ MBox (w2.setCell ⟨w.heap.size + 1, 1, none⟩ (.int .i64 q)) (w.heap.size + 1) p q 0 0 ∧ Below w.heap.size w (w2.setCell ⟨w.heap.size + 1, 1, none⟩ (.int .i64 q))) := ⟨R2.out.1.other (by omega), R2.out.2.1.s1 _, R2.out.2.2.setCell (by show w.heap.size ≤ w.heap.size + 1; omega) _⟩
  clear R2 c1 f1
  rw [rounds_succ]
  go_wp2_with fail
  refine (H2.out _ S2.out.2.2).mono ?_
  rintro e w3 ⟨rfl, n3, hw⟩
  have R3 : Hid (MBox w3 w.heap.size 0 0 0 0 ∧ MBox w3 (w.heap.size + 1) p q 0 0 ∧ Below w.heap.size w w3) := by
    subst hw
    exact ⟨S2.out.1.below (below_drewN (Below.refl _ _) _), S2.out.2.1.below (below_drewN (Below.refl _ _) _), below_drewN S2.out.2.2 _⟩
  clear hw S2
  have c2 := R3.out.2.1.c2
  have f2 := R3.out.2.1.f 2
  go_wp2
  have S3 : Hid (MBox (w3.setCell ⟨w.heap.size + 1, 2, none⟩ (.int .i64 r)) w.heap.size 0 0 0 0 ∧ MBox (w3.setCell ⟨w.heap.size + 1, 2, none⟩ (.int .i64 r)) (w.heap.size + 1) p q r 0 ∧ Below w.heap.size w (w3.setCell ⟨w.heap.size + 1, 2, none⟩ (.int .i64 r))) := ⟨R3.out.1.other (by omega), R3.out.2.1.s2 _, R3.out.2.2.setCell (by show w.heap.size ≤ w.heap.size + 1; omega) _⟩
  clear R3 c2 f2
  rw [rounds_succ]
  go_wp2_with fail
  refine (H3.out _ S3.out.2.2).mono ?_
  rintro e w4 ⟨rfl, n4, hw⟩
  have R4 : Hid (MBox w4 w.heap.size 0 0 0 0 ∧ MBox w4 (w.heap.size + 1) p q r 0 ∧ Below w.heap.size w w4) := by
    subst hw
    exact ⟨S3.out.1.below (below_drewN (Below.refl _ _) _), S3.out.2.1.below (below_drewN (Below.refl _ _) _), below_drewN S3.out.2.2 _⟩
  clear hw S3
  have c3 := R4.out.2.1.c3
  have f3 := R4.out.2.1.f 3
  go_wp2
  have S4 : Hid (MBox (w4.setCell ⟨w.heap.size + 1, 3, none⟩ (.int .i64 s)) w.heap.size 0 0 0 0 ∧ MBox (w4.setCell ⟨w.heap.size + 1, 3, none⟩ (.int .i64 s)) (w.heap.size + 1) p q r s ∧ Below w.heap.size w (w4.setCell ⟨w.heap.size + 1, 3, none⟩ (.int .i64 s))) := ⟨R4.out.1.other (by omega), R4.out.2.1.s3 _, R4.out.2.2.setCell (by show w.heap.size ≤ w.heap.size + 1; omega) _⟩
  clear R4 c3 f3
  obtain ⟨w5, hw5⟩ : ∃ w5, w5 = w4.setCell ⟨w.heap.size + 1, 3, none⟩ (.int .i64 s) := ⟨_, rfl⟩
  rw [← hw5] at S4
  rw [← hw5]
  clear hw5
  have c0 := S4.out.2.1.c0
  have c1 := S4.out.2.1.c1
  have c2 := S4.out.2.1.c2
  have c3 := S4.out.2.1.c3
  have d0 := S4.out.1.c0
  have d1 := S4.out.1.c1
  have d2 := S4.out.1.c2
  have d3 := S4.out.1.c3
  have f0 := S4.out.1.f 0
  have f1 := S4.out.1.f 1
  have f2 := S4.out.1.f 2
  have f3 := S4.out.1.f 3
  rw [rounds_succ]
  go_wp2
  exact bodyPost_ret (results_m1 (by rfl) _ (S4.out.1.set p q r s) rfl) rfl ⟨rfl, below_set S4.out.2.2 (Nat.le_refl _) _ _ _ _⟩

end Go.Proofs.YtbdldijgcmgfaaaGreat.Mn
