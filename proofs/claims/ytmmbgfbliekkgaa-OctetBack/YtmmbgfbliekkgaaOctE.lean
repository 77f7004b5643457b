/-
  octet.Get: the reader's number, its panics recovered.
-/
import Derived.Test.YtmmbgfbliekkgaaOctD
import Derived.RegionTactic
namespace Go.Proofs.Ytmmbgfbliekkgaa
open Go.RowKit

/-- The variable of an error at block A. -/
def ErrBox (W : World) (A : Nat) (n : Int) : Prop := W.heap[A]? = some (.cells #[.int .i64 n] 29 (0, 0))
theorem ErrBox.lt {W : World} {A : Nat} {n : Int} (h : ErrBox W A n) : A < W.heap.size := (Array.getElem?_eq_some_iff.1 h).1
theorem ErrBox.c {W : World} {A : Nat} {n : Int} (h : ErrBox W A n) : W.cell? ⟨A, 0, none⟩ = some (.int .i64 n) := by rw [cell_of_row _ _ _ _ _ _ h]; rfl
theorem ErrBox.f {W : World} {A : Nat} {n : Int} (h : ErrBox W A n) : W.frozen? ⟨A, 0, none⟩ = false := by
  unfold ErrBox at h
  simp [World.frozen?, h]
theorem ErrBox.set {W : World} {A : Nat} {n : Int} (h : ErrBox W A n) (m : Int) : ErrBox (W.setCell ⟨A, 0, none⟩ (.int .i64 m)) A m := by
  rw [setCell_eq_setRow W A 0 #[.int .i64 n] 29 (0, 0) _ h]
  exact setRow_heap W A #[.int .i64 n] _ 29 _ h

theorem left_new (w : World) (o : Obj) (S : ByteArray) : Left ((w.alloc o).alloc (.cells #[.string S] 82)) (w.heap.size + 1) S := by
  have h := heap_alloc_new (w.alloc o) (.cells #[.string S] 82)
  rw [show (w.alloc o).heap.size = w.heap.size + 1 by simp] at h
  exact h
theorem err_new (w : World) (n : Int) (o : Obj) : ErrBox ((w.alloc (.cells #[.int .i64 n] 29)).alloc o) w.heap.size n :=
  (heap_alloc_old (w.alloc (.cells #[.int .i64 n] 29)) o (by simp)).trans (heap_alloc_new w _)

theorem catch54 (p : Addr) (x n : Int) (w : World) (hc : w.cell? p = some (.int .i64 x)) (hz : w.frozen? p = false) :
    CallsD Try.prog 54 #[.pointer (some p)] (.panicking [{ v := .iface 29 (.int .i64 n), recovered := false }]) w fun e u' w' =>
      e = .returned (.tuple #[]) ∧ u' = .panicking [{ v := .iface 29 (.int .i64 n), recovered := true }] ∧ w' = w.setCell p (.int .i64 n) := by
  have hta : ∀ w : World, (binOp BinOp.neq 20 (.iface 29 (.int .i64 n)) .nilIface).run Try.prog w = .ok (.bool true) w := fun _ => by kernel_rfl
  have hass : ∀ w : World, (Instr.typeAssert (.iface 29 (.int .i64 n)) 20 29 false).run Try.prog w = .ok (.int .i64 n) w := fun _ => by kernel_rfl
  refine callsD_of_wpS Try.func54 rfl fun c₀ cs hu => ?_
  apply wpS_seq
  apply wpS_region
  simp [wpOpsS, go_sem, recoverD, hu, Try.ntmps54, Exit.thenS]
  apply wpS_seq
  apply wpS_region
  simp [wpOpsS, go_sem, hta, Exit.thenS]
  refine wpS_cond (t := true) (by simp [Act.eval, Array.replicate]) ?_
  simp only [if_true]
  apply wpS_region
  simp [wpOpsS, go_sem, hass, hc, hz, bodyPostS, results, Try.results54]

theorem idle54 (p : Addr) (w : World) :
    CallsD Try.prog 54 #[.pointer (some p)] .returning w fun e u' w' => e = .returned (.tuple #[]) ∧ u' = .returning ∧ w' = w := by
  have hta : ∀ w : World, (binOp BinOp.neq 20 .nilIface .nilIface).run Try.prog w = .ok (.bool false) w := fun _ => by kernel_rfl
  refine callsD_of_wpS Try.func54 rfl fun c₀ cs hu => ?_
  apply wpS_seq
  apply wpS_region
  simp [wpOpsS, go_sem, recoverD, hu, Try.ntmps54, Exit.thenS]
  apply wpS_seq
  apply wpS_region
  simp [wpOpsS, go_sem, hta, Exit.thenS]
  refine wpS_cond (t := false) (by simp [Act.eval, Array.replicate]) ?_
  simp only [Bool.false_eq_true, if_false]
  refine wpS_of_wp (wp_skip ?_)
  cases c₀
  simp_all [bodyPostS, results, Try.results54]

set_option maxRecDepth 100000 in
set_option maxHeartbeats 2000000 in
theorem begin_ok (s : List UInt8) (n : Nat) (rest : List UInt8) (w : World) (hn : numL s = .ok (n, rest)) (hs : s.length ≤ 80000) :
    Calls Try.prog 38 #[.string (str s), .func (.func 39) #[] #[]] w fun e w' => e = .returned (.tuple #[.int .u64 n, .string (str rest), .int .i64 0]) ∧ Below w.heap.size w w' := by
  have hmf : ∀ (fn : Fn) (first cap : Array Value) (w : World), (Instr.makeFunc fn first cap).run Try.prog w = .ok (.func fn first cap) w := fun _ _ _ _ => rfl
  have H0 : Hid (numL s = .ok (n, rest) ∧ s.length ≤ 80000) := ⟨hn, hs⟩
  clear hn hs
  go_enter_defers Try.func38, Try.ntmps38
  go_wp2_with fail
  refine (number_ok (w.heap.size + 1) s n rest _ ?_ H0.out.1 H0.out.2).mono ?_
  · exact left_new _ _ _
  rintro e w1 ⟨rfl, h1, h2⟩
  have hA : ErrBox w1 w.heap.size 0 := by
    have h3 := h2.block w.heap.size (by simp; omega) (by simp)
    exact h3.trans (err_new w 0 _)
  have hBl : Below w.heap.size w w1 := by
    refine below_grow (w1 := (w.alloc (.cells #[.int .i64 0] 29)).alloc (.cells #[.string (str s)] 82)) ?_ h2 (by omega)
    exact ((Below.refl _ _).alloc (Nat.le_refl _) _).alloc (by simp) _
  have c1 := hA.c
  have f1 := hA.f
  have c2 := h1.c
  have f2 := h1.f
  have HA : Hid (ErrBox w1 w.heap.size 0 ∧ Below w.heap.size w w1) := ⟨hA, hBl⟩
  clear hA hBl h1 h2
  go_wp2_with fail
  go_region
  go_wp2
  refine leaves_cons (f := 54) (args := #[.pointer (some ⟨w.heap.size, 0, none⟩)]) (by simp) (by simp [go_sem]) ?_
  refine (idle54 ⟨w.heap.size, 0, none⟩ _).mono ?_
  rintro e u' w'' ⟨rfl, rfl, rfl⟩
  have c3 : (w1.setCell ⟨w.heap.size, 0, none⟩ (.int .i64 0)).cell? ⟨w.heap.size, 0, none⟩ = some (.int .i64 0) := (HA.out.1.set 0).c
  simp [Leaves, settle, results, Try.results38, go_sem, c3]
  exact (below_grow HA.out.2 (grown_set _ _ _) (Nat.le_refl _)).drew

set_option maxRecDepth 100000 in
set_option maxHeartbeats 2000000 in
theorem begin_err (s : List UInt8) (n : Int) (w : World) (hn : numL s = .error n) (hs : s.length ≤ 80000) :
    Calls Try.prog 38 #[.string (str s), .func (.func 39) #[] #[]] w fun e w' => e = .returned (.tuple #[.int .u64 0, .string (str []), .int .i64 n]) ∧ Below w.heap.size w w' := by
  have hmf : ∀ (fn : Fn) (first cap : Array Value) (w : World), (Instr.makeFunc fn first cap).run Try.prog w = .ok (.func fn first cap) w := fun _ _ _ _ => rfl
  have H0 : Hid (numL s = .error n ∧ s.length ≤ 80000) := ⟨hn, hs⟩
  clear hn hs
  go_enter_defers Try.func38, Try.ntmps38
  go_wp2_with fail
  refine (number_err (w.heap.size + 1) s n _ (left_new _ _ _) H0.out.1 H0.out.2).mono ?_
  rintro e w1 ⟨rfl, h2⟩
  have hA : ErrBox w1 w.heap.size 0 := (h2.block w.heap.size (by simp; omega) (by simp)).trans (err_new w 0 _)
  have hBl : Below w.heap.size w w1 := by
    refine below_grow (w1 := (w.alloc (.cells #[.int .i64 0] 29)).alloc (.cells #[.string (str s)] 82)) ?_ h2 (by omega)
    exact ((Below.refl _ _).alloc (Nat.le_refl _) _).alloc (by simp) _
  show Leaves _ _ _ _ _ _ _
  refine leaves_cons (f := 54) (args := #[.pointer (some ⟨w.heap.size, 0, none⟩)]) (by simp) (by simp [go_sem]) ?_
  refine (catch54 ⟨w.heap.size, 0, none⟩ 0 n _ hA.c hA.f).mono ?_
  rintro e u' w'' ⟨rfl, rfl, rfl⟩
  have c3 : (w1.setCell ⟨w.heap.size, 0, none⟩ (.int .i64 n)).cell? ⟨w.heap.size, 0, none⟩ = some (.int .i64 n) := (hA.set n).c
  simp [Leaves, settle, results, Try.results38, go_sem, c3]
  exact ⟨rfl, below_grow hBl (grown_set _ _ _) (Nat.le_refl _)⟩

set_option maxHeartbeats 1000000 in
theorem get_ok (s : List UInt8) (n : Nat) (rest : List UInt8) (w : World) (hn : numL s = .ok (n, rest)) (hs : s.length ≤ 80000) :
    Calls Try.prog 19 #[.string (str s)] w fun e w' => e = .returned (.tuple #[.int .u64 n, .string (str rest), .int .i64 0]) ∧ Below w.heap.size w w' := by
  go_enter Try.func19, Try.ntmps19
  go_wp2_with (go_at_call 38; refine (begin_ok s n rest _ hn hs).mono ?_; rintro e w1 ⟨rfl, h1⟩)
  go_ret3
  exact ⟨rfl, h1⟩

set_option maxHeartbeats 1000000 in
theorem get_err (s : List UInt8) (n : Int) (w : World) (hn : numL s = .error n) (hs : s.length ≤ 80000) :
    Calls Try.prog 19 #[.string (str s)] w fun e w' => e = .returned (.tuple #[.int .u64 0, .string (str []), .int .i64 n]) ∧ Below w.heap.size w w' := by
  go_enter Try.func19, Try.ntmps19
  go_wp2_with (go_at_call 38; refine (begin_err s n _ hn hs).mono ?_; rintro e w1 ⟨rfl, h1⟩)
  go_ret3
  exact ⟨rfl, h1⟩
end Go.Proofs.Ytmmbgfbliekkgaa
