/-
  octet.GetNat: the reader's natural, its panics recovered.
-/
import Derived.Test.YtmmbgfbliekkgaaOctH
import Derived.Deep.RegionHeld
namespace Go.Proofs.Ytmmbgfbliekkgaa
open Go.RowKit

theorem row_set {W : World} {ao : Option Addr} {n cap : Nat} {xs : List Int} {B : Nat} (h : RowAt W ao n cap xs) (hf : Fresh (B + 1) ao) (v : Value) : RowAt (W.setCell ⟨B, 0, none⟩ v) ao n cap xs := by
  refine ⟨h.len, h.limbs, h.fits, h.most, h.bare, fun hne => ?_⟩
  obtain ⟨b, off, e, hlt, hc⟩ := h.cells hne
  have hb := hf _ e
  refine ⟨b, off, e, by simpa using hlt, fun j hj => ?_⟩
  rw [World.cell?_setCell_far _ _ _ _ (show (⟨B, 0, none⟩ : Addr).block ≠ (⟨b, off + j, none⟩ : Addr).block by simp at hb ⊢; omega)]
  exact hc j hj

theorem catch59 (p : Addr) (x n : Int) (w : World) (hc : w.cell? p = some (.int .i64 x)) (hz : w.frozen? p = false) :
    CallsD Try.prog 59 #[.pointer (some p)] (.panicking [{ v := .iface 29 (.int .i64 n), recovered := false }]) w fun e u' w' =>
      e = .returned (.tuple #[]) ∧ u' = .panicking [{ v := .iface 29 (.int .i64 n), recovered := true }] ∧ w' = w.setCell p (.int .i64 n) := by
  have hta : ∀ w : World, (binOp BinOp.neq 20 (.iface 29 (.int .i64 n)) .nilIface).run Try.prog w = .ok (.bool true) w := fun _ => by kernel_rfl
  have hass : ∀ w : World, (Instr.typeAssert (.iface 29 (.int .i64 n)) 20 29 false).run Try.prog w = .ok (.int .i64 n) w := fun _ => by kernel_rfl
  refine callsD_of_wpS Try.func59 rfl fun c₀ cs hu => ?_
  apply wpS_seq
  apply wpS_region
  simp [wpOpsS, go_sem, recoverD, hu, Try.ntmps59, Exit.thenS]
  apply wpS_seq
  apply wpS_region
  simp [wpOpsS, go_sem, hta, Exit.thenS]
  refine wpS_cond (t := true) (by simp [Act.eval, Array.replicate]) ?_
  simp only [if_true]
  apply wpS_region
  simp [wpOpsS, go_sem, hass, hc, hz, bodyPostS, results, Try.results59]

theorem idle59 (p : Addr) (w : World) :
    CallsD Try.prog 59 #[.pointer (some p)] .returning w fun e u' w' => e = .returned (.tuple #[]) ∧ u' = .returning ∧ w' = w := by
  have hta : ∀ w : World, (binOp BinOp.neq 20 .nilIface .nilIface).run Try.prog w = .ok (.bool false) w := fun _ => by kernel_rfl
  refine callsD_of_wpS Try.func59 rfl fun c₀ cs hu => ?_
  apply wpS_seq
  apply wpS_region
  simp [wpOpsS, go_sem, recoverD, hu, Try.ntmps59, Exit.thenS]
  apply wpS_seq
  apply wpS_region
  simp [wpOpsS, go_sem, hta, Exit.thenS]
  refine wpS_cond (t := false) (by simp [Act.eval, Array.replicate]) ?_
  simp only [Bool.false_eq_true, if_false]
  refine wpS_of_wp (wp_skip ?_)
  cases c₀
  simp_all [bodyPostS, results, Try.results59]

set_option maxRecDepth 100000 in
set_option maxHeartbeats 2000000 in
theorem beginN_ok (s : List UInt8) (n : List Int) (rest : List UInt8) (w : World) (hn : natL s = .ok (n, rest)) (hs : s.length ≤ 80000) :
    Calls Try.prog 41 #[.string (str s), .func (.func 42) #[] #[]] w fun e w' => ∃ ao m, e = .returned (.tuple #[.slice ao m m, .string (str rest), .int .i64 0]) ∧ RowAt w' ao m m n ∧ Fresh w.heap.size ao ∧ Below w.heap.size w w' := by
  have hmf : ∀ (fn : Fn) (first cap : Array Value) (w : World), (Instr.makeFunc fn first cap).run Try.prog w = .ok (.func fn first cap) w := fun _ _ _ _ => rfl
  have H0 : Hid (natL s = .ok (n, rest) ∧ s.length ≤ 80000) := ⟨hn, hs⟩
  clear hn hs
  go_enter_defers Try.func41, Try.ntmps41
  go_wp2_with fail
  refine (natural_ok (w.heap.size + 1) s n rest _ ?_ H0.out.1 H0.out.2).mono ?_
  · exact left_new _ _ _
  rintro e w1 ⟨ao, m, rfl, hr, hf, h1, h2⟩
  have hA : ErrBox w1 w.heap.size 0 := by
    have h3 := h2.block w.heap.size (by simp; omega) (by simp)
    exact h3.trans (err_new w 0 _)
  have hBl : Below w.heap.size w w1 := by
    refine below_grow (w1 := (w.alloc (.cells #[.int .i64 0] 29)).alloc (.cells #[.string (str s)] 82)) ?_ h2 (by omega)
    exact ((Below.refl _ _).alloc (Nat.le_refl _) _).alloc (by simp) _
  have c1 := hA.c
  have f1 := hA.f
  have c2 := h1.c
  have f2 := h1.f
  have HA : Hid (ErrBox w1 w.heap.size 0 ∧ Below w.heap.size w w1 ∧ RowAt w1 ao m m n ∧ Fresh (w.heap.size + 1) ao) := ⟨hA, hBl, hr, hf.mono (by simp)⟩
  clear hA hBl h1 h2 hr hf
  go_wp2_with fail
  go_region
  go_wp2
  refine leaves_cons (f := 59) (args := #[.pointer (some ⟨w.heap.size, 0, none⟩)]) (by simp) (by simp [go_sem]) ?_
  refine (idle59 ⟨w.heap.size, 0, none⟩ _).mono ?_
  rintro e u' w'' ⟨rfl, rfl, rfl⟩
  have c3 : (w1.setCell ⟨w.heap.size, 0, none⟩ (.int .i64 0)).cell? ⟨w.heap.size, 0, none⟩ = some (.int .i64 0) := (HA.out.1.set 0).c
  simp [Leaves, settle, results, Try.results41, go_sem, c3]
  refine ⟨ao, m, ⟨rfl, rfl⟩, (row_set HA.out.2.2.1 HA.out.2.2.2 _).drew, HA.out.2.2.2.mono (by omega), (below_grow HA.out.2.1 (grown_set _ _ _) (Nat.le_refl _)).drew⟩

set_option maxRecDepth 100000 in
set_option maxHeartbeats 2000000 in
theorem beginN_err (s : List UInt8) (n : Int) (w : World) (hn : natL s = .error n) (hs : s.length ≤ 80000) :
    Calls Try.prog 41 #[.string (str s), .func (.func 42) #[] #[]] w fun e w' => e = .returned (.tuple #[.slice none 0 0, .string (str []), .int .i64 n]) ∧ Below w.heap.size w w' := by
  have hmf : ∀ (fn : Fn) (first cap : Array Value) (w : World), (Instr.makeFunc fn first cap).run Try.prog w = .ok (.func fn first cap) w := fun _ _ _ _ => rfl
  have H0 : Hid (natL s = .error n ∧ s.length ≤ 80000) := ⟨hn, hs⟩
  clear hn hs
  go_enter_defers Try.func41, Try.ntmps41
  go_wp2_with fail
  refine (natural_err (w.heap.size + 1) s n _ (left_new _ _ _) H0.out.1 H0.out.2).mono ?_
  rintro e w1 ⟨rfl, h2⟩
  have hA : ErrBox w1 w.heap.size 0 := (h2.block w.heap.size (by simp; omega) (by simp)).trans (err_new w 0 _)
  have hBl : Below w.heap.size w w1 := by
    refine below_grow (w1 := (w.alloc (.cells #[.int .i64 0] 29)).alloc (.cells #[.string (str s)] 82)) ?_ h2 (by omega)
    exact ((Below.refl _ _).alloc (Nat.le_refl _) _).alloc (by simp) _
  show Leaves _ _ _ _ _ _ _
  refine leaves_cons (f := 59) (args := #[.pointer (some ⟨w.heap.size, 0, none⟩)]) (by simp) (by simp [go_sem]) ?_
  refine (catch59 ⟨w.heap.size, 0, none⟩ 0 n _ hA.c hA.f).mono ?_
  rintro e u' w'' ⟨rfl, rfl, rfl⟩
  have c3 : (w1.setCell ⟨w.heap.size, 0, none⟩ (.int .i64 n)).cell? ⟨w.heap.size, 0, none⟩ = some (.int .i64 n) := (hA.set n).c
  simp [Leaves, settle, results, Try.results41, go_sem, c3]
  exact ⟨rfl, below_grow hBl (grown_set _ _ _) (Nat.le_refl _)⟩

set_option maxHeartbeats 1000000 in
theorem getNat_ok (s : List UInt8) (n : List Int) (rest : List UInt8) (w : World) (hn : natL s = .ok (n, rest)) (hs : s.length ≤ 80000) :
    Calls Try.prog 21 #[.string (str s)] w fun e w' => ∃ ao m, e = .returned (.tuple #[.slice ao m m, .string (str rest), .int .i64 0]) ∧ RowAt w' ao m m n ∧ Fresh w.heap.size ao ∧ Below w.heap.size w w' := by
  go_enter Try.func21, Try.ntmps21
  go_wp2_with (go_at_call 41; refine (beginN_ok s n rest _ hn hs).mono ?_; rintro e w1 ⟨ao, m, rfl, h1⟩; have H1 : Hid (RowAt w1 ao m m n ∧ Fresh w.heap.size ao ∧ Below w.heap.size w w1) := h1; clear h1)
  go_ret3
  exact ⟨ao, m, rfl, H1.out⟩

set_option maxHeartbeats 1000000 in
theorem getNat_err (s : List UInt8) (n : Int) (w : World) (hn : natL s = .error n) (hs : s.length ≤ 80000) :
    Calls Try.prog 21 #[.string (str s)] w fun e w' => e = .returned (.tuple #[.slice none 0 0, .string (str []), .int .i64 n]) ∧ Below w.heap.size w w' := by
  go_enter Try.func21, Try.ntmps21
  go_wp2_with (go_at_call 41; refine (beginN_err s n _ hn hs).mono ?_; rintro e w1 ⟨rfl, h1⟩)
  go_ret3
  exact ⟨rfl, h1⟩
end Go.Proofs.Ytmmbgfbliekkgaa
