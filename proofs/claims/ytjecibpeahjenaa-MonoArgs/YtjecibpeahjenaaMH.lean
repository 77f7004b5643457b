/-
  mono's orders, Cmp.
-/
import Derived.Test.YtjecibpeahjenaaMF
import Derived.Laws.EntriesVeiled
namespace Go.Proofs.Ytjecibpeahjenaa
open Go.RowKit

theorem load_3 {w : World} {B : Nat} {x y z : Value} (h : w.heap[B]? = some (.cells #[x, y, z] 43 (0, 0))) : (loadVar 43 ⟨B, 0, none⟩).run Try.prog w = .ok (.agg #[x, y, z]) w :=
  run_loadVar_row w B 43 43 _ (0, 0) _ h Try.underlying43 rfl (by kernel_rfl)
theorem results_3 {fn : Func} {t : Tmp} (hf : fn.results = #[.cell t 43]) (tmps : Array Value) {w : World} {B : Nat} {x y z : Value} (h : w.heap[B]? = some (.cells #[x, y, z] 43 (0, 0))) (ht : tmps[t]?.getD undef = .pointer (some ⟨B, 0, none⟩)) :
    (results fn tmps).run Try.prog w = .ok (.agg #[x, y, z]) w := by
  simp only [results, hf]
  simp [asAddr, ht, load_3 h]

set_option maxHeartbeats 400000 in
theorem orders_any (w : World) : Calls Try.prog 31 #[] w fun e w' => e = .returned (.agg #[.func (.func 34) #[] #[], .func (.func 38) #[] #[.pointer (some ⟨w.heap.size + 1, 0, none⟩)], .func (.func 38) #[] #[.pointer (some ⟨w.heap.size + 2, 0, none⟩)]]) ∧ w'.heap[w.heap.size + 1]? = some (.cells #[.func (.func 34) #[] #[]] 42 (0, 0)) ∧ w'.heap[w.heap.size + 2]? = some (.cells #[.func (.func 36) #[] #[]] 42 (0, 0)) ∧ Below w.heap.size w w' := by
  go_enter Try.func31, Try.ntmps31
  go_wp2_with fail
  refine (graded_any _ _).mono ?_
  rintro e w1 ⟨rfl, h1⟩
  have e1 : w1.heap.size = w.heap.size + 2 := by rw [h1]; simp
  have R1 : Hid (w1.heap[w.heap.size]? = some (.cells #[.nilFunc, .nilFunc, .nilFunc] 43 (0, 0)) ∧ w1.heap[w.heap.size + 1]? = some (.cells #[.func (.func 34) #[] #[]] 42 (0, 0)) ∧ Below w.heap.size w w1) := by
    subst h1
    have b1 : Below w.heap.size w (w.alloc (.cells #[.nilFunc, .nilFunc, .nilFunc] 43)) := (Below.refl _ _).alloc (Nat.le_refl _) _
    refine ⟨(((Below.refl _ _).alloc (Nat.le_refl _) _).block w.heap.size (by simp)).trans (heap_alloc_new w _), ?_, b1.alloc (by simp) _⟩
    have h := heap_alloc_new (w.alloc (.cells #[.nilFunc, .nilFunc, .nilFunc] 43)) (.cells #[.func (.func 34) #[] #[]] 42 (0, 0))
    rw [size1] at h
    exact h
  clear h1
  go_wp2_with fail
  refine (graded_any _ _).mono ?_
  rintro e w2 ⟨rfl, h2⟩
  rw [e1]
  have R2 : Hid (w2.heap[w.heap.size]? = some (.cells #[.nilFunc, .nilFunc, .nilFunc] 43 (0, 0)) ∧ w2.heap[w.heap.size + 1]? = some (.cells #[.func (.func 34) #[] #[]] 42 (0, 0)) ∧ w2.heap[w.heap.size + 2]? = some (.cells #[.func (.func 36) #[] #[]] 42 (0, 0)) ∧ Below w.heap.size w w2) := by
    subst h2
    have b2 : Below w1.heap.size w1 (w1.alloc (.cells #[.func (.func 36) #[] #[]] 42 (0, 0))) := (Below.refl _ _).alloc (Nat.le_refl _) _
    refine ⟨(b2.block _ (by omega)).trans R1.out.1, (b2.block _ (by omega)).trans R1.out.2.1, ?_, chain R1.out.2.2 b2⟩
    have h := heap_alloc_new w1 (.cells #[.func (.func 36) #[] #[]] 42 (0, 0))
    rw [e1] at h
    exact h
  clear h2 R1 e1
  have c0 : w2.cell? ⟨w.heap.size, 0, none⟩ = some .nilFunc := by simp [World.cell?, R2.out.1]
  have c1 : w2.cell? ⟨w.heap.size, 1, none⟩ = some .nilFunc := by simp [World.cell?, R2.out.1]
  have c2 : w2.cell? ⟨w.heap.size, 2, none⟩ = some .nilFunc := by simp [World.cell?, R2.out.1]
  have f0 : w2.frozen? ⟨w.heap.size, 0, none⟩ = false := by simp [World.frozen?, R2.out.1]
  have f1 : w2.frozen? ⟨w.heap.size, 1, none⟩ = false := by simp [World.frozen?, R2.out.1]
  have f2 : w2.frozen? ⟨w.heap.size, 2, none⟩ = false := by simp [World.frozen?, R2.out.1]
  go_wp2
  have st := set_cells (set_cells (set_cells R2.out.1 0 (.func (.func 34) #[] #[])) 1 (.func (.func 38) #[] #[.pointer (some ⟨w.heap.size + 1, 0, none⟩)])) 2 (.func (.func 38) #[] #[.pointer (some ⟨w.heap.size + 2, 0, none⟩)])
  refine bodyPost_ret (results_3 (by rfl) _ st rfl) rfl ⟨rfl, ?_, ?_, ((R2.out.2.2.2.setCell (Nat.le_refl _) _).setCell (Nat.le_refl _) _).setCell (Nat.le_refl _) _⟩
  · rw [Below.heap_setCell _ _ _ _ (by simp), Below.heap_setCell _ _ _ _ (by simp), Below.heap_setCell _ _ _ _ (by simp)]
    exact R2.out.2.1
  · rw [Below.heap_setCell _ _ _ _ (by simp), Below.heap_setCell _ _ _ _ (by simp), Below.heap_setCell _ _ _ _ (by simp)]
    exact R2.out.2.2.1

theorem orders_ex (w : World) : Calls Try.prog 31 #[] w fun e w' => ∃ m n : Nat, e = .returned (.agg #[.func (.func 34) #[] #[], .func (.func 38) #[] #[.pointer (some ⟨m, 0, none⟩)], .func (.func 38) #[] #[.pointer (some ⟨n, 0, none⟩)]]) ∧ w'.heap[m]? = some (.cells #[.func (.func 34) #[] #[]] 42 (0, 0)) ∧ w'.heap[n]? = some (.cells #[.func (.func 36) #[] #[]] 42 (0, 0)) ∧ Below w.heap.size w w' :=
  (orders_any w).mono fun _ _ ⟨h1, h2, h3, h4⟩ => ⟨_, _, h1, h2, h3, h4⟩

theorem cells_43 {w : World} {B : Nat} {x y z : Value} (h : w.heap[B]? = some (.cells #[x, y, z] 43 (0, 0))) : w.cell? ⟨B, 0, none⟩ = some x ∧ w.cell? ⟨B, 1, none⟩ = some y ∧ w.cell? ⟨B, 2, none⟩ = some z := by
  simp [World.cell?, h]

set_option maxHeartbeats 1000000 in
theorem cmp_out (o a b c d p q r s : Int) (w : World) (h : o < 0 ∨ 2 < o) :
    Calls Try.prog 21 #[.int .i64 o, .agg #[.int .i64 a, .int .i64 b, .int .i64 c, .int .i64 d], .agg #[.int .i64 p, .int .i64 q, .int .i64 r, .int .i64 s]] w fun e w' => e = .returned (.int .i64 0) ∧ Below w.heap.size w w' := by
  have T : Hid (Two w ((w.alloc (.cells #[.int .i64 a, .int .i64 b, .int .i64 c, .int .i64 d] 23)).alloc (.cells #[.int .i64 p, .int .i64 q, .int .i64 r, .int .i64 s] 23)) a b c d p q r s) := Two.new w a b c d p q r s
  by_cases hb : Both a b c d p q r s
  · have H : Hid (Both a b c d p q r s) := hb
    clear hb
    rcases h with h | h
    all_goals
      (try have h2 : ¬ o < 0 := by omega)
      go_enter Try.func21, Try.ntmps21
      go_wp2_with fail
      refine (orders_ex _).mono ?_
      rintro e w1 ⟨m, n, rfl, _, _, q1⟩
      have T1 : Hid (Two w (w1.alloc (.cells #[.func (.func 34) #[] #[], .func (.func 38) #[] #[.pointer (some ⟨m, 0, none⟩)], .func (.func 38) #[] #[.pointer (some ⟨n, 0, none⟩)]] 43)) a b c d p q r s) := (T.out.below q1).below ((Below.refl _ _).alloc (Nat.le_refl _) _)
      clear q1 T
      have xc0 := T1.out.x.c0
      have xc1 := T1.out.x.c1
      have xc2 := T1.out.x.c2
      have xc3 := T1.out.x.c3
      have yc0 := T1.out.y.c0
      have yc1 := T1.out.y.c1
      have yc2 := T1.out.y.c2
      have yc3 := T1.out.y.c3
      go_wp2_with fail
      refine (both_yes _ _ _ _ _ _ _ _ _ H.out).mono ?_
      rintro e w2 ⟨rfl, q2⟩
      have HB : Hid (Below w.heap.size w w2) := chain T1.out.bel q2
      clear q2 T1 xc0 xc1 xc2 xc3 yc0 yc1 yc2 yc3
      go_wp2
      go_ret
      exact ⟨rfl, HB.out⟩
  · have H : Hid (¬ Both a b c d p q r s) := hb
    clear hb
    rcases h with h | h
    all_goals
      go_enter Try.func21, Try.ntmps21
      go_wp2_with fail
      refine (orders_ex _).mono ?_
      rintro e w1 ⟨m, n, rfl, _, _, q1⟩
      have T1 : Hid (Two w (w1.alloc (.cells #[.func (.func 34) #[] #[], .func (.func 38) #[] #[.pointer (some ⟨m, 0, none⟩)], .func (.func 38) #[] #[.pointer (some ⟨n, 0, none⟩)]] 43)) a b c d p q r s) := (T.out.below q1).below ((Below.refl _ _).alloc (Nat.le_refl _) _)
      clear q1 T
      have xc0 := T1.out.x.c0
      have xc1 := T1.out.x.c1
      have xc2 := T1.out.x.c2
      have xc3 := T1.out.x.c3
      have yc0 := T1.out.y.c0
      have yc1 := T1.out.y.c1
      have yc2 := T1.out.y.c2
      have yc3 := T1.out.y.c3
      go_wp2_with fail
      refine (both_no _ _ _ _ _ _ _ _ _ H.out).mono ?_
      rintro e w2 ⟨rfl, q2⟩
      have HB : Hid (Below w.heap.size w w2) := chain T1.out.bel q2
      clear q2 T1 xc0 xc1 xc2 xc3 yc0 yc1 yc2 yc3
      go_wp2
      go_ret
      exact ⟨rfl, HB.out⟩

set_option maxHeartbeats 1000000 in
theorem cmp_arg (o a b c d p q r s : Int) (w : World) (h : ¬ Both a b c d p q r s) :
    Calls Try.prog 21 #[.int .i64 o, .agg #[.int .i64 a, .int .i64 b, .int .i64 c, .int .i64 d], .agg #[.int .i64 p, .int .i64 q, .int .i64 r, .int .i64 s]] w fun e w' => e = .returned (.int .i64 0) ∧ Below w.heap.size w w' := by
  have T : Hid (Two w ((w.alloc (.cells #[.int .i64 a, .int .i64 b, .int .i64 c, .int .i64 d] 23)).alloc (.cells #[.int .i64 p, .int .i64 q, .int .i64 r, .int .i64 s] 23)) a b c d p q r s) := Two.new w a b c d p q r s
  have H : Hid (¬ Both a b c d p q r s) := h
  clear h
  go_enter Try.func21, Try.ntmps21
  go_wp2_with fail
  refine (orders_ex _).mono ?_
  rintro e w1 ⟨m, n, rfl, _, _, q1⟩
  have T1 : Hid (Two w (w1.alloc (.cells #[.func (.func 34) #[] #[], .func (.func 38) #[] #[.pointer (some ⟨m, 0, none⟩)], .func (.func 38) #[] #[.pointer (some ⟨n, 0, none⟩)]] 43)) a b c d p q r s) := (T.out.below q1).below ((Below.refl _ _).alloc (Nat.le_refl _) _)
  clear q1 T
  have xc0 := T1.out.x.c0
  have xc1 := T1.out.x.c1
  have xc2 := T1.out.x.c2
  have xc3 := T1.out.x.c3
  have yc0 := T1.out.y.c0
  have yc1 := T1.out.y.c1
  have yc2 := T1.out.y.c2
  have yc3 := T1.out.y.c3
  go_wp2_with fail
  refine (both_no _ _ _ _ _ _ _ _ _ H.out).mono ?_
  rintro e w2 ⟨rfl, q2⟩
  have HB : Hid (Below w.heap.size w w2) := chain T1.out.bel q2
  clear q2 T1 xc0 xc1 xc2 xc3 yc0 yc1 yc2 yc3
  go_wp2
  go_ret
  exact ⟨rfl, HB.out⟩

end Go.Proofs.Ytjecibpeahjenaa
