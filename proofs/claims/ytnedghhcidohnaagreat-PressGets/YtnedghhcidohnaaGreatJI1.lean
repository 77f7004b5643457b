/-
  Joined: MH · MI.
-/
import Derived.Laws.EntriesVeiled
import Derived.Test.YtnedghhcidohnaaGreatMF

/-! mono's orders, Cmp. -/
namespace Go.Proofs.YtnedghhcidohnaaGreat.Mn
open Go.RowKit

theorem load_3 {w : World} {B : Nat} {x y z : Value} (h : w.heap[B]? = some (.cells #[x, y, z] 121 (0, 0))) : (loadVar 121 ⟨B, 0, none⟩).run Tryz.prog w = .ok (.agg #[x, y, z]) w :=
  run_loadVar_row w B 121 121 _ (0, 0) _ h Tryz.underlying121 rfl (by kernel_rfl)
theorem results_3 {fn : Func} {t : Tmp} (hf : fn.results = #[.cell t 121]) (tmps : Array Value) {w : World} {B : Nat} {x y z : Value} (h : w.heap[B]? = some (.cells #[x, y, z] 121 (0, 0))) (ht : tmps[t]?.getD undef = .pointer (some ⟨B, 0, none⟩)) :
    (results fn tmps).run Tryz.prog w = .ok (.agg #[x, y, z]) w := by
  simp only [results, hf]
  simp [asAddr, ht, load_3 h]

set_option maxHeartbeats 400000 in
theorem orders_any (w : World) : Calls Tryz.prog 76 #[] w fun e w' => e = .returned (.agg #[.func (.func 97) #[] #[], .func (.func 124) #[] #[.pointer (some ⟨w.heap.size + 1, 0, none⟩)], .func (.func 124) #[] #[.pointer (some ⟨w.heap.size + 2, 0, none⟩)]]) ∧ w'.heap[w.heap.size + 1]? = some (.cells #[.func (.func 97) #[] #[]] 104 (0, 0)) ∧ w'.heap[w.heap.size + 2]? = some (.cells #[.func (.func 99) #[] #[]] 104 (0, 0)) ∧ Below w.heap.size w w' := by
  go_enter Tryz.func76, Tryz.ntmps76
  go_wp2_with fail
  refine (graded_any _ _).mono ?_
  rintro e w1 ⟨rfl, h1⟩
  have e1 : w1.heap.size = w.heap.size + 2 := by rw [h1]; simp
  have R1 : Hid (w1.heap[w.heap.size]? = some (.cells #[.nilFunc, .nilFunc, .nilFunc] 121 (0, 0)) ∧ w1.heap[w.heap.size + 1]? = some (.cells #[.func (.func 97) #[] #[]] 104 (0, 0)) ∧ Below w.heap.size w w1) := by
    subst h1
    have b1 : Below w.heap.size w (w.alloc (.cells #[.nilFunc, .nilFunc, .nilFunc] 121)) := (Below.refl _ _).alloc (Nat.le_refl _) _
    refine ⟨(((Below.refl _ _).alloc (Nat.le_refl _) _).block w.heap.size (by simp)).trans (heap_alloc_new w _), ?_, b1.alloc (by simp) _⟩
    have h := heap_alloc_new (w.alloc (.cells #[.nilFunc, .nilFunc, .nilFunc] 121)) (.cells #[.func (.func 97) #[] #[]] 104 (0, 0))
    rw [size1] at h
    exact h
  clear h1
  go_wp2_with fail
  refine (graded_any _ _).mono ?_
  rintro e w2 ⟨rfl, h2⟩
  rw [e1]
  have R2 : Hid (w2.heap[w.heap.size]? = some (.cells #[.nilFunc, .nilFunc, .nilFunc] 121 (0, 0)) ∧ w2.heap[w.heap.size + 1]? = some (.cells #[.func (.func 97) #[] #[]] 104 (0, 0)) ∧ w2.heap[w.heap.size + 2]? = some (.cells #[.func (.func 99) #[] #[]] 104 (0, 0)) ∧ Below w.heap.size w w2) := by
    subst h2
    have b2 : Below w1.heap.size w1 (w1.alloc (.cells #[.func (.func 99) #[] #[]] 104 (0, 0))) := (Below.refl _ _).alloc (Nat.le_refl _) _
    refine ⟨(b2.block _ (by omega)).trans R1.out.1, (b2.block _ (by omega)).trans R1.out.2.1, ?_, chain R1.out.2.2 b2⟩
    have h := heap_alloc_new w1 (.cells #[.func (.func 99) #[] #[]] 104 (0, 0))
    rw [e1] at h
    exact h
  clear h2 R1 e1
  have c0 : w2.cell? ⟨w.heap.size, 0, none⟩ = some .nilFunc := by simp [World.cell?, R2.out.1]
  have c1 : w2.cell? ⟨w.heap.size, 1, none⟩ = some .nilFunc := by simp [World.cell?, R2.out.1]
  have c2 : w2.cell? ⟨w.heap.size, 2, none⟩ = some .nilFunc := by simp [World.cell?, R2.out.1]
  have f0 : w2.frozen? ⟨w.heap.size, 0, none⟩ = false := by simp [World.frozen?, R2.out.1]
  have f1 : w2.frozen? ⟨w.heap.size, 1, none⟩ = false := by simp [World.frozen?, R2.out.1]
  have f2 : w2.frozen? ⟨w.heap.size, 2, none⟩ = false := by simp [World.frozen?, R2.out.1]
  go_wp2
  have st := set_cells (set_cells (set_cells R2.out.1 0 (.func (.func 97) #[] #[])) 1 (.func (.func 124) #[] #[.pointer (some ⟨w.heap.size + 1, 0, none⟩)])) 2 (.func (.func 124) #[] #[.pointer (some ⟨w.heap.size + 2, 0, none⟩)])
  refine bodyPost_ret (results_3 (by rfl) _ st rfl) rfl ⟨rfl, ?_, ?_, ((R2.out.2.2.2.setCell (Nat.le_refl _) _).setCell (Nat.le_refl _) _).setCell (Nat.le_refl _) _⟩
  · rw [Below.heap_setCell _ _ _ _ (by simp), Below.heap_setCell _ _ _ _ (by simp), Below.heap_setCell _ _ _ _ (by simp)]
    exact R2.out.2.1
  · rw [Below.heap_setCell _ _ _ _ (by simp), Below.heap_setCell _ _ _ _ (by simp), Below.heap_setCell _ _ _ _ (by simp)]
    exact R2.out.2.2.1

theorem orders_ex (w : World) : Calls Tryz.prog 76 #[] w fun e w' => ∃ m n : Nat, e = .returned (.agg #[.func (.func 97) #[] #[], .func (.func 124) #[] #[.pointer (some ⟨m, 0, none⟩)], .func (.func 124) #[] #[.pointer (some ⟨n, 0, none⟩)]]) ∧ w'.heap[m]? = some (.cells #[.func (.func 97) #[] #[]] 104 (0, 0)) ∧ w'.heap[n]? = some (.cells #[.func (.func 99) #[] #[]] 104 (0, 0)) ∧ Below w.heap.size w w' :=
  (orders_any w).mono fun _ _ ⟨h1, h2, h3, h4⟩ => ⟨_, _, h1, h2, h3, h4⟩

theorem cells_43 {w : World} {B : Nat} {x y z : Value} (h : w.heap[B]? = some (.cells #[x, y, z] 121 (0, 0))) : w.cell? ⟨B, 0, none⟩ = some x ∧ w.cell? ⟨B, 1, none⟩ = some y ∧ w.cell? ⟨B, 2, none⟩ = some z := by
  simp [World.cell?, h]

set_option maxHeartbeats 1000000 in
theorem cmp_out (o a b c d p q r s : Int) (w : World) (h : o < 0 ∨ 2 < o) :
    Calls Tryz.prog 47 #[.int .i64 o, .agg #[.int .i64 a, .int .i64 b, .int .i64 c, .int .i64 d], .agg #[.int .i64 p, .int .i64 q, .int .i64 r, .int .i64 s]] w fun e w' => e = .returned (.int .i64 0) ∧ Below w.heap.size w w' := by
  have T : Hid (Two w ((w.alloc (.cells #[.int .i64 a, .int .i64 b, .int .i64 c, .int .i64 d] 47)).alloc (.cells #[.int .i64 p, .int .i64 q, .int .i64 r, .int .i64 s] 47)) a b c d p q r s) := Two.new w a b c d p q r s
  by_cases hb : Both a b c d p q r s
  · have H : Hid (Both a b c d p q r s) := hb
    clear hb
    rcases h with h | h
    all_goals
      (try have h2 : ¬ o < 0 := by omega)
      go_enter Tryz.func47, Tryz.ntmps47
      go_wp2_with fail
      refine (orders_ex _).mono ?_
      rintro e w1 ⟨m, n, rfl, _, _, q1⟩
      have T1 : Hid (Two w (w1.alloc (.cells #[.func (.func 97) #[] #[], .func (.func 124) #[] #[.pointer (some ⟨m, 0, none⟩)], .func (.func 124) #[] #[.pointer (some ⟨n, 0, none⟩)]] 121)) a b c d p q r s) := (T.out.below q1).below ((Below.refl _ _).alloc (Nat.le_refl _) _)
      clear q1 T
      have xc0 := T1.out.x.c0
      have xc1 := T1.out.x.c1
      have xc2 := T1.out.x.c2
      have xc3 := T1.out.x.c3
      have yc0 := T1.out.y.c0
      have yc1 := T1.out.y.c1
      have yc2 := T1.out.y.c2
      have yc3 := T1.out.y.c3
      go_wp2_with fail
      refine (both_yes _ _ _ _ _ _ _ _ _ H.out).mono ?_
      rintro e w2 ⟨rfl, q2⟩
      have HB : Hid (Below w.heap.size w w2) := chain T1.out.bel q2
      clear q2 T1 xc0 xc1 xc2 xc3 yc0 yc1 yc2 yc3
      go_wp2
      go_ret
      exact ⟨rfl, HB.out⟩
  · have H : Hid (¬ Both a b c d p q r s) := hb
    clear hb
    rcases h with h | h
    all_goals
      go_enter Tryz.func47, Tryz.ntmps47
      go_wp2_with fail
      refine (orders_ex _).mono ?_
      rintro e w1 ⟨m, n, rfl, _, _, q1⟩
      have T1 : Hid (Two w (w1.alloc (.cells #[.func (.func 97) #[] #[], .func (.func 124) #[] #[.pointer (some ⟨m, 0, none⟩)], .func (.func 124) #[] #[.pointer (some ⟨n, 0, none⟩)]] 121)) a b c d p q r s) := (T.out.below q1).below ((Below.refl _ _).alloc (Nat.le_refl _) _)
      clear q1 T
      have xc0 := T1.out.x.c0
      have xc1 := T1.out.x.c1
      have xc2 := T1.out.x.c2
      have xc3 := T1.out.x.c3
      have yc0 := T1.out.y.c0
      have yc1 := T1.out.y.c1
      have yc2 := T1.out.y.c2
      have yc3 := T1.out.y.c3
      go_wp2_with fail
      refine (both_no _ _ _ _ _ _ _ _ _ H.out).mono ?_
      rintro e w2 ⟨rfl, q2⟩
      have HB : Hid (Below w.heap.size w w2) := chain T1.out.bel q2
      clear q2 T1 xc0 xc1 xc2 xc3 yc0 yc1 yc2 yc3
      go_wp2
      go_ret
      exact ⟨rfl, HB.out⟩

set_option maxHeartbeats 1000000 in
theorem cmp_arg (o a b c d p q r s : Int) (w : World) (h : ¬ Both a b c d p q r s) :
    Calls Tryz.prog 47 #[.int .i64 o, .agg #[.int .i64 a, .int .i64 b, .int .i64 c, .int .i64 d], .agg #[.int .i64 p, .int .i64 q, .int .i64 r, .int .i64 s]] w fun e w' => e = .returned (.int .i64 0) ∧ Below w.heap.size w w' := by
  have T : Hid (Two w ((w.alloc (.cells #[.int .i64 a, .int .i64 b, .int .i64 c, .int .i64 d] 47)).alloc (.cells #[.int .i64 p, .int .i64 q, .int .i64 r, .int .i64 s] 47)) a b c d p q r s) := Two.new w a b c d p q r s
  have H : Hid (¬ Both a b c d p q r s) := h
  clear h
  go_enter Tryz.func47, Tryz.ntmps47
  go_wp2_with fail
  refine (orders_ex _).mono ?_
  rintro e w1 ⟨m, n, rfl, _, _, q1⟩
  have T1 : Hid (Two w (w1.alloc (.cells #[.func (.func 97) #[] #[], .func (.func 124) #[] #[.pointer (some ⟨m, 0, none⟩)], .func (.func 124) #[] #[.pointer (some ⟨n, 0, none⟩)]] 121)) a b c d p q r s) := (T.out.below q1).below ((Below.refl _ _).alloc (Nat.le_refl _) _)
  clear q1 T
  have xc0 := T1.out.x.c0
  have xc1 := T1.out.x.c1
  have xc2 := T1.out.x.c2
  have xc3 := T1.out.x.c3
  have yc0 := T1.out.y.c0
  have yc1 := T1.out.y.c1
  have yc2 := T1.out.y.c2
  have yc3 := T1.out.y.c3
  go_wp2_with fail
  refine (both_no _ _ _ _ _ _ _ _ _ H.out).mono ?_
  rintro e w2 ⟨rfl, q2⟩
  have HB : Hid (Below w.heap.size w w2) := chain T1.out.bel q2
  clear q2 T1 xc0 xc1 xc2 xc3 yc0 yc1 yc2 yc3
  go_wp2
  go_ret
  exact ⟨rfl, HB.out⟩

end Go.Proofs.YtnedghhcidohnaaGreat.Mn

/-! mono's Cmp, by each order; held; shown. -/
namespace Go.Proofs.YtnedghhcidohnaaGreat.Mn
open Go.RowKit

theorem keepAt {W v : World} {m : Nat} {o : Obj} (h : W.heap[m]? = some o) (bz : Below W.heap.size W v) : v.heap[m]? = some o := (bz.block m (Array.getElem?_eq_some_iff.1 h).1).trans h

set_option maxHeartbeats 2000000 in
theorem cmp_0 (a b c d p q r s : Int) (w : World) (h : Both a b c d p q r s) :
    Calls Tryz.prog 47 #[.int .i64 0, .agg #[.int .i64 a, .int .i64 b, .int .i64 c, .int .i64 d], .agg #[.int .i64 p, .int .i64 q, .int .i64 r, .int .i64 s]] w fun e w' => e = .returned (.int .i64 (lexI a b c d p q r s)) ∧ Below w.heap.size w w' := by
  have T : Hid (Two w ((w.alloc (.cells #[.int .i64 a, .int .i64 b, .int .i64 c, .int .i64 d] 47)).alloc (.cells #[.int .i64 p, .int .i64 q, .int .i64 r, .int .i64 s] 47)) a b c d p q r s) := Two.new w a b c d p q r s
  have H : Hid (Both a b c d p q r s) := h
  clear h
  go_enter Tryz.func47, Tryz.ntmps47
  go_wp2_with fail
  refine (orders_ex _).mono ?_
  rintro e w1 ⟨m, n, rfl, hm, hn, q1⟩
  have b1 : Below w1.heap.size w1 (w1.alloc (.cells #[.func (.func 97) #[] #[], .func (.func 124) #[] #[.pointer (some ⟨m, 0, none⟩)], .func (.func 124) #[] #[.pointer (some ⟨n, 0, none⟩)]] 121)) := (Below.refl _ _).alloc (Nat.le_refl _) _
  have T1 : Hid (Two w (w1.alloc (.cells #[.func (.func 97) #[] #[], .func (.func 124) #[] #[.pointer (some ⟨m, 0, none⟩)], .func (.func 124) #[] #[.pointer (some ⟨n, 0, none⟩)]] 121)) a b c d p q r s ∧ (w1.alloc (.cells #[.func (.func 97) #[] #[], .func (.func 124) #[] #[.pointer (some ⟨m, 0, none⟩)], .func (.func 124) #[] #[.pointer (some ⟨n, 0, none⟩)]] 121)).heap[m]? = some (.cells #[.func (.func 97) #[] #[]] 104 (0, 0)) ∧ (w1.alloc (.cells #[.func (.func 97) #[] #[], .func (.func 124) #[] #[.pointer (some ⟨m, 0, none⟩)], .func (.func 124) #[] #[.pointer (some ⟨n, 0, none⟩)]] 121)).heap[n]? = some (.cells #[.func (.func 99) #[] #[]] 104 (0, 0)) ∧ (w1.alloc (.cells #[.func (.func 97) #[] #[], .func (.func 124) #[] #[.pointer (some ⟨m, 0, none⟩)], .func (.func 124) #[] #[.pointer (some ⟨n, 0, none⟩)]] 121)).heap[w1.heap.size]? = some (.cells #[.func (.func 97) #[] #[], .func (.func 124) #[] #[.pointer (some ⟨m, 0, none⟩)], .func (.func 124) #[] #[.pointer (some ⟨n, 0, none⟩)]] 121 (0, 0))) := ⟨(T.out.below q1).below b1, keepAt hm b1, keepAt hn b1, heap_alloc_new w1 _⟩
  clear q1 T b1 hm hn
  have xc0 := T1.out.1.x.c0
  have xc1 := T1.out.1.x.c1
  have xc2 := T1.out.1.x.c2
  have xc3 := T1.out.1.x.c3
  have yc0 := T1.out.1.y.c0
  have yc1 := T1.out.1.y.c1
  have yc2 := T1.out.1.y.c2
  have yc3 := T1.out.1.y.c3
  go_wp2_with fail
  refine (both_yes _ _ _ _ _ _ _ _ _ H.out).mono ?_
  rintro e w2 ⟨rfl, q2⟩
  have T2 : Hid (Two w w2 a b c d p q r s) := T1.out.1.below q2
  have HF : Hid (w2.heap[m]? = some (.cells #[.func (.func 97) #[] #[]] 104 (0, 0)) ∧ w2.heap[n]? = some (.cells #[.func (.func 99) #[] #[]] 104 (0, 0))) := ⟨keepAt T1.out.2.1 q2, keepAt T1.out.2.2.1 q2⟩
  have h3 := keepAt T1.out.2.2.2 q2
  have zc := (cells_43 h3).1
  have hC : w1.heap.size < w2.heap.size := (Array.getElem?_eq_some_iff.1 h3).1
  clear h3 q2 T1 xc0 xc1 xc2 xc3 yc0 yc1 yc2 yc3
  have xc0 := T2.out.x.c0
  have xc1 := T2.out.x.c1
  have xc2 := T2.out.x.c2
  have xc3 := T2.out.x.c3
  have yc0 := T2.out.y.c0
  have yc1 := T2.out.y.c1
  have yc2 := T2.out.y.c2
  have yc3 := T2.out.y.c3
  have hA := T2.out.x.lt
  have hB := T2.out.y.lt
  go_wp2
  have bz : Below w2.heap.size w2 w2.drew := (Below.refl _ _).drew
  go_region_held3 (fun w' => (w'.cell? ⟨w.heap.size, 0, none⟩ = some (.int .i64 a) ∧ w'.cell? ⟨w.heap.size, 1, none⟩ = some (.int .i64 b) ∧ w'.cell? ⟨w.heap.size, 2, none⟩ = some (.int .i64 c) ∧ w'.cell? ⟨w.heap.size, 3, none⟩ = some (.int .i64 d)) ∧ (w'.cell? ⟨w.heap.size + 1, 0, none⟩ = some (.int .i64 p) ∧ w'.cell? ⟨w.heap.size + 1, 1, none⟩ = some (.int .i64 q) ∧ w'.cell? ⟨w.heap.size + 1, 2, none⟩ = some (.int .i64 r) ∧ w'.cell? ⟨w.heap.size + 1, 3, none⟩ = some (.int .i64 s)) ∧ w'.cell? ⟨w1.heap.size, 0, none⟩ = some (.func (.func 97) #[] #[])) (first | (refine ⟨⟨?_, ?_, ?_, ?_⟩, ⟨?_, ?_, ?_, ?_⟩, ?_⟩; (rw [bz.cell (p := ⟨w.heap.size, 0, none⟩) hA]; assumption); (rw [bz.cell (p := ⟨w.heap.size, 1, none⟩) hA]; assumption); (rw [bz.cell (p := ⟨w.heap.size, 2, none⟩) hA]; assumption); (rw [bz.cell (p := ⟨w.heap.size, 3, none⟩) hA]; assumption); (rw [bz.cell (p := ⟨w.heap.size + 1, 0, none⟩) hB]; assumption); (rw [bz.cell (p := ⟨w.heap.size + 1, 1, none⟩) hB]; assumption); (rw [bz.cell (p := ⟨w.heap.size + 1, 2, none⟩) hB]; assumption); (rw [bz.cell (p := ⟨w.heap.size + 1, 3, none⟩) hB]; assumption); (rw [bz.cell (p := ⟨w1.heap.size, 0, none⟩) hC]; assumption)) | go_keep)
    (first
      | (go_at_call 97; refine (lex_any a b c d p q r s _).mono ?_; rintro e v1 ⟨rfl, q1⟩; have bz := chain bz q1; clear q1))
  have HZ : Hid (Below w.heap.size w v1) := chain T2.out.bel bz
  clear bz xc0 xc1 xc2 xc3 yc0 yc1 yc2 yc3 zc
  go_wp2
  go_ret
  exact ⟨rfl, HZ.out⟩

set_option maxHeartbeats 2000000 in
theorem cmp_1 (a b c d p q r s : Int) (w : World) (h : Both a b c d p q r s) :
    Calls Tryz.prog 47 #[.int .i64 1, .agg #[.int .i64 a, .int .i64 b, .int .i64 c, .int .i64 d], .agg #[.int .i64 p, .int .i64 q, .int .i64 r, .int .i64 s]] w fun e w' => e = .returned (.int .i64 (degI a b c d p q r s (lexI a b c d p q r s))) ∧ Below w.heap.size w w' := by
  have T : Hid (Two w ((w.alloc (.cells #[.int .i64 a, .int .i64 b, .int .i64 c, .int .i64 d] 47)).alloc (.cells #[.int .i64 p, .int .i64 q, .int .i64 r, .int .i64 s] 47)) a b c d p q r s) := Two.new w a b c d p q r s
  have H : Hid (Both a b c d p q r s) := h
  clear h
  go_enter Tryz.func47, Tryz.ntmps47
  go_wp2_with fail
  refine (orders_ex _).mono ?_
  rintro e w1 ⟨m, n, rfl, hm, hn, q1⟩
  have b1 : Below w1.heap.size w1 (w1.alloc (.cells #[.func (.func 97) #[] #[], .func (.func 124) #[] #[.pointer (some ⟨m, 0, none⟩)], .func (.func 124) #[] #[.pointer (some ⟨n, 0, none⟩)]] 121)) := (Below.refl _ _).alloc (Nat.le_refl _) _
  have T1 : Hid (Two w (w1.alloc (.cells #[.func (.func 97) #[] #[], .func (.func 124) #[] #[.pointer (some ⟨m, 0, none⟩)], .func (.func 124) #[] #[.pointer (some ⟨n, 0, none⟩)]] 121)) a b c d p q r s ∧ (w1.alloc (.cells #[.func (.func 97) #[] #[], .func (.func 124) #[] #[.pointer (some ⟨m, 0, none⟩)], .func (.func 124) #[] #[.pointer (some ⟨n, 0, none⟩)]] 121)).heap[m]? = some (.cells #[.func (.func 97) #[] #[]] 104 (0, 0)) ∧ (w1.alloc (.cells #[.func (.func 97) #[] #[], .func (.func 124) #[] #[.pointer (some ⟨m, 0, none⟩)], .func (.func 124) #[] #[.pointer (some ⟨n, 0, none⟩)]] 121)).heap[n]? = some (.cells #[.func (.func 99) #[] #[]] 104 (0, 0)) ∧ (w1.alloc (.cells #[.func (.func 97) #[] #[], .func (.func 124) #[] #[.pointer (some ⟨m, 0, none⟩)], .func (.func 124) #[] #[.pointer (some ⟨n, 0, none⟩)]] 121)).heap[w1.heap.size]? = some (.cells #[.func (.func 97) #[] #[], .func (.func 124) #[] #[.pointer (some ⟨m, 0, none⟩)], .func (.func 124) #[] #[.pointer (some ⟨n, 0, none⟩)]] 121 (0, 0))) := ⟨(T.out.below q1).below b1, keepAt hm b1, keepAt hn b1, heap_alloc_new w1 _⟩
  clear q1 T b1 hm hn
  have xc0 := T1.out.1.x.c0
  have xc1 := T1.out.1.x.c1
  have xc2 := T1.out.1.x.c2
  have xc3 := T1.out.1.x.c3
  have yc0 := T1.out.1.y.c0
  have yc1 := T1.out.1.y.c1
  have yc2 := T1.out.1.y.c2
  have yc3 := T1.out.1.y.c3
  go_wp2_with fail
  refine (both_yes _ _ _ _ _ _ _ _ _ H.out).mono ?_
  rintro e w2 ⟨rfl, q2⟩
  have T2 : Hid (Two w w2 a b c d p q r s) := T1.out.1.below q2
  have HF : Hid (w2.heap[m]? = some (.cells #[.func (.func 97) #[] #[]] 104 (0, 0)) ∧ w2.heap[n]? = some (.cells #[.func (.func 99) #[] #[]] 104 (0, 0))) := ⟨keepAt T1.out.2.1 q2, keepAt T1.out.2.2.1 q2⟩
  have h3 := keepAt T1.out.2.2.2 q2
  have zc := (cells_43 h3).2.1
  have hC : w1.heap.size < w2.heap.size := (Array.getElem?_eq_some_iff.1 h3).1
  clear h3 q2 T1 xc0 xc1 xc2 xc3 yc0 yc1 yc2 yc3
  have xc0 := T2.out.x.c0
  have xc1 := T2.out.x.c1
  have xc2 := T2.out.x.c2
  have xc3 := T2.out.x.c3
  have yc0 := T2.out.y.c0
  have yc1 := T2.out.y.c1
  have yc2 := T2.out.y.c2
  have yc3 := T2.out.y.c3
  have hA := T2.out.x.lt
  have hB := T2.out.y.lt
  go_wp2
  have bz : Below w2.heap.size w2 w2.drew := (Below.refl _ _).drew
  go_region_held3 (fun w' => (w'.cell? ⟨w.heap.size, 0, none⟩ = some (.int .i64 a) ∧ w'.cell? ⟨w.heap.size, 1, none⟩ = some (.int .i64 b) ∧ w'.cell? ⟨w.heap.size, 2, none⟩ = some (.int .i64 c) ∧ w'.cell? ⟨w.heap.size, 3, none⟩ = some (.int .i64 d)) ∧ (w'.cell? ⟨w.heap.size + 1, 0, none⟩ = some (.int .i64 p) ∧ w'.cell? ⟨w.heap.size + 1, 1, none⟩ = some (.int .i64 q) ∧ w'.cell? ⟨w.heap.size + 1, 2, none⟩ = some (.int .i64 r) ∧ w'.cell? ⟨w.heap.size + 1, 3, none⟩ = some (.int .i64 s)) ∧ w'.cell? ⟨w1.heap.size, 1, none⟩ = some (.func (.func 124) #[] #[.pointer (some ⟨m, 0, none⟩)])) (first | (refine ⟨⟨?_, ?_, ?_, ?_⟩, ⟨?_, ?_, ?_, ?_⟩, ?_⟩; (rw [bz.cell (p := ⟨w.heap.size, 0, none⟩) hA]; assumption); (rw [bz.cell (p := ⟨w.heap.size, 1, none⟩) hA]; assumption); (rw [bz.cell (p := ⟨w.heap.size, 2, none⟩) hA]; assumption); (rw [bz.cell (p := ⟨w.heap.size, 3, none⟩) hA]; assumption); (rw [bz.cell (p := ⟨w.heap.size + 1, 0, none⟩) hB]; assumption); (rw [bz.cell (p := ⟨w.heap.size + 1, 1, none⟩) hB]; assumption); (rw [bz.cell (p := ⟨w.heap.size + 1, 2, none⟩) hB]; assumption); (rw [bz.cell (p := ⟨w.heap.size + 1, 3, none⟩) hB]; assumption); (rw [bz.cell (p := ⟨w1.heap.size, 1, none⟩) hC]; assumption)) | go_keep)
    (first
      | (go_at_call 124; refine (graded1_any 97 m a b c d p q r s _ _ H.out (fun _ _ => by simp) (keepAt HF.out.1 bz) (fun _ => lex_any a b c d p q r s _)).mono ?_; rintro e v1 ⟨rfl, q1⟩; have bz := chain bz q1; clear q1))
  have HZ : Hid (Below w.heap.size w v1) := chain T2.out.bel bz
  clear bz xc0 xc1 xc2 xc3 yc0 yc1 yc2 yc3 zc
  go_wp2
  go_ret
  exact ⟨rfl, HZ.out⟩

set_option maxHeartbeats 2000000 in
theorem cmp_2 (a b c d p q r s : Int) (w : World) (h : Both a b c d p q r s) :
    Calls Tryz.prog 47 #[.int .i64 2, .agg #[.int .i64 a, .int .i64 b, .int .i64 c, .int .i64 d], .agg #[.int .i64 p, .int .i64 q, .int .i64 r, .int .i64 s]] w fun e w' => e = .returned (.int .i64 (degI a b c d p q r s (revI a b c d p q r s))) ∧ Below w.heap.size w w' := by
  have T : Hid (Two w ((w.alloc (.cells #[.int .i64 a, .int .i64 b, .int .i64 c, .int .i64 d] 47)).alloc (.cells #[.int .i64 p, .int .i64 q, .int .i64 r, .int .i64 s] 47)) a b c d p q r s) := Two.new w a b c d p q r s
  have H : Hid (Both a b c d p q r s) := h
  clear h
  go_enter Tryz.func47, Tryz.ntmps47
  go_wp2_with fail
  refine (orders_ex _).mono ?_
  rintro e w1 ⟨m, n, rfl, hm, hn, q1⟩
  have b1 : Below w1.heap.size w1 (w1.alloc (.cells #[.func (.func 97) #[] #[], .func (.func 124) #[] #[.pointer (some ⟨m, 0, none⟩)], .func (.func 124) #[] #[.pointer (some ⟨n, 0, none⟩)]] 121)) := (Below.refl _ _).alloc (Nat.le_refl _) _
  have T1 : Hid (Two w (w1.alloc (.cells #[.func (.func 97) #[] #[], .func (.func 124) #[] #[.pointer (some ⟨m, 0, none⟩)], .func (.func 124) #[] #[.pointer (some ⟨n, 0, none⟩)]] 121)) a b c d p q r s ∧ (w1.alloc (.cells #[.func (.func 97) #[] #[], .func (.func 124) #[] #[.pointer (some ⟨m, 0, none⟩)], .func (.func 124) #[] #[.pointer (some ⟨n, 0, none⟩)]] 121)).heap[m]? = some (.cells #[.func (.func 97) #[] #[]] 104 (0, 0)) ∧ (w1.alloc (.cells #[.func (.func 97) #[] #[], .func (.func 124) #[] #[.pointer (some ⟨m, 0, none⟩)], .func (.func 124) #[] #[.pointer (some ⟨n, 0, none⟩)]] 121)).heap[n]? = some (.cells #[.func (.func 99) #[] #[]] 104 (0, 0)) ∧ (w1.alloc (.cells #[.func (.func 97) #[] #[], .func (.func 124) #[] #[.pointer (some ⟨m, 0, none⟩)], .func (.func 124) #[] #[.pointer (some ⟨n, 0, none⟩)]] 121)).heap[w1.heap.size]? = some (.cells #[.func (.func 97) #[] #[], .func (.func 124) #[] #[.pointer (some ⟨m, 0, none⟩)], .func (.func 124) #[] #[.pointer (some ⟨n, 0, none⟩)]] 121 (0, 0))) := ⟨(T.out.below q1).below b1, keepAt hm b1, keepAt hn b1, heap_alloc_new w1 _⟩
  clear q1 T b1 hm hn
  have xc0 := T1.out.1.x.c0
  have xc1 := T1.out.1.x.c1
  have xc2 := T1.out.1.x.c2
  have xc3 := T1.out.1.x.c3
  have yc0 := T1.out.1.y.c0
  have yc1 := T1.out.1.y.c1
  have yc2 := T1.out.1.y.c2
  have yc3 := T1.out.1.y.c3
  go_wp2_with fail
  refine (both_yes _ _ _ _ _ _ _ _ _ H.out).mono ?_
  rintro e w2 ⟨rfl, q2⟩
  have T2 : Hid (Two w w2 a b c d p q r s) := T1.out.1.below q2
  have HF : Hid (w2.heap[m]? = some (.cells #[.func (.func 97) #[] #[]] 104 (0, 0)) ∧ w2.heap[n]? = some (.cells #[.func (.func 99) #[] #[]] 104 (0, 0))) := ⟨keepAt T1.out.2.1 q2, keepAt T1.out.2.2.1 q2⟩
  have h3 := keepAt T1.out.2.2.2 q2
  have zc := (cells_43 h3).2.2
  have hC : w1.heap.size < w2.heap.size := (Array.getElem?_eq_some_iff.1 h3).1
  clear h3 q2 T1 xc0 xc1 xc2 xc3 yc0 yc1 yc2 yc3
  have xc0 := T2.out.x.c0
  have xc1 := T2.out.x.c1
  have xc2 := T2.out.x.c2
  have xc3 := T2.out.x.c3
  have yc0 := T2.out.y.c0
  have yc1 := T2.out.y.c1
  have yc2 := T2.out.y.c2
  have yc3 := T2.out.y.c3
  have hA := T2.out.x.lt
  have hB := T2.out.y.lt
  go_wp2
  have bz : Below w2.heap.size w2 w2.drew := (Below.refl _ _).drew
  go_region_held3 (fun w' => (w'.cell? ⟨w.heap.size, 0, none⟩ = some (.int .i64 a) ∧ w'.cell? ⟨w.heap.size, 1, none⟩ = some (.int .i64 b) ∧ w'.cell? ⟨w.heap.size, 2, none⟩ = some (.int .i64 c) ∧ w'.cell? ⟨w.heap.size, 3, none⟩ = some (.int .i64 d)) ∧ (w'.cell? ⟨w.heap.size + 1, 0, none⟩ = some (.int .i64 p) ∧ w'.cell? ⟨w.heap.size + 1, 1, none⟩ = some (.int .i64 q) ∧ w'.cell? ⟨w.heap.size + 1, 2, none⟩ = some (.int .i64 r) ∧ w'.cell? ⟨w.heap.size + 1, 3, none⟩ = some (.int .i64 s)) ∧ w'.cell? ⟨w1.heap.size, 2, none⟩ = some (.func (.func 124) #[] #[.pointer (some ⟨n, 0, none⟩)])) (first | (refine ⟨⟨?_, ?_, ?_, ?_⟩, ⟨?_, ?_, ?_, ?_⟩, ?_⟩; (rw [bz.cell (p := ⟨w.heap.size, 0, none⟩) hA]; assumption); (rw [bz.cell (p := ⟨w.heap.size, 1, none⟩) hA]; assumption); (rw [bz.cell (p := ⟨w.heap.size, 2, none⟩) hA]; assumption); (rw [bz.cell (p := ⟨w.heap.size, 3, none⟩) hA]; assumption); (rw [bz.cell (p := ⟨w.heap.size + 1, 0, none⟩) hB]; assumption); (rw [bz.cell (p := ⟨w.heap.size + 1, 1, none⟩) hB]; assumption); (rw [bz.cell (p := ⟨w.heap.size + 1, 2, none⟩) hB]; assumption); (rw [bz.cell (p := ⟨w.heap.size + 1, 3, none⟩) hB]; assumption); (rw [bz.cell (p := ⟨w1.heap.size, 2, none⟩) hC]; assumption)) | go_keep)
    (first
      | (go_at_call 124; refine (graded1_any 99 n a b c d p q r s _ _ H.out (fun _ _ => by simp) (keepAt HF.out.2 bz) (fun _ => rev_any a b c d p q r s _)).mono ?_; rintro e v1 ⟨rfl, q1⟩; have bz := chain bz q1; clear q1))
  have HZ : Hid (Below w.heap.size w v1) := chain T2.out.bel bz
  clear bz xc0 xc1 xc2 xc3 yc0 yc1 yc2 yc3 zc
  go_wp2
  go_ret
  exact ⟨rfl, HZ.out⟩

/-- What Cmp tells. -/
structure CmpIs (o a b c d p q r s k : Int) : Prop where
  arg : ¬ Both a b c d p q r s → k = 0
  out : o < 0 ∨ 2 < o → k = 0
  lex : Both a b c d p q r s → o = 0 → k = lexI a b c d p q r s
  grl : Both a b c d p q r s → o = 1 → k = degI a b c d p q r s (lexI a b c d p q r s)
  rev : Both a b c d p q r s → o = 2 → k = degI a b c d p q r s (revI a b c d p q r s)

theorem CmpIs.ex (o a b c d p q r s : Int) : ∃ k, CmpIs o a b c d p q r s k := by
  by_cases hb : Both a b c d p q r s
  · by_cases ho : o < 0 ∨ 2 < o
    · exact ⟨0, fun h => absurd hb h, fun _ => rfl, fun _ h => by omega, fun _ h => by omega, fun _ h => by omega⟩
    · have h3 : o = 0 ∨ o = 1 ∨ o = 2 := by omega
      rcases h3 with rfl | rfl | rfl
      · exact ⟨_, fun h => absurd hb h, fun h => by omega, fun _ _ => rfl, fun _ h => by omega, fun _ h => by omega⟩
      · exact ⟨_, fun h => absurd hb h, fun h => by omega, fun _ h => by omega, fun _ _ => rfl, fun _ h => by omega⟩
      · exact ⟨_, fun h => absurd hb h, fun h => by omega, fun _ h => by omega, fun _ h => by omega, fun _ _ => rfl⟩
  · exact ⟨0, fun _ => rfl, fun _ => rfl, fun h => absurd h hb, fun h => absurd h hb, fun h => absurd h hb⟩

theorem cmp_val (o a b c d p q r s k : Int) (w : World) (h : CmpIs o a b c d p q r s k) :
    Calls Tryz.prog 47 #[.int .i64 o, .agg #[.int .i64 a, .int .i64 b, .int .i64 c, .int .i64 d], .agg #[.int .i64 p, .int .i64 q, .int .i64 r, .int .i64 s]] w fun e w' => e = .returned (.int .i64 k) ∧ Below w.heap.size w w' := by
  by_cases hb : Both a b c d p q r s
  · by_cases ho : o < 0 ∨ 2 < o
    · rw [h.out ho]
      exact cmp_out o a b c d p q r s w ho
    · have h3 : o = 0 ∨ o = 1 ∨ o = 2 := by omega
      rcases h3 with rfl | rfl | rfl
      · rw [h.lex hb rfl]
        exact cmp_0 a b c d p q r s w hb
      · rw [h.grl hb rfl]
        exact cmp_1 a b c d p q r s w hb
      · rw [h.rev hb rfl]
        exact cmp_2 a b c d p q r s w hb
  · rw [h.arg hb]
    exact cmp_arg o a b c d p q r s w hb

theorem show_one : CmpIs 0 1 0 0 0 0 9 0 0 1 := by
  refine ⟨fun h => absurd ?_ h, fun h => by omega, fun _ _ => by decide, fun _ h => by omega, fun _ h => by omega⟩
  exact ⟨⟨⟨by omega, by omega⟩, ⟨by omega, by omega⟩, ⟨by omega, by omega⟩, ⟨by omega, by omega⟩⟩, ⟨⟨by omega, by omega⟩, ⟨by omega, by omega⟩, ⟨by omega, by omega⟩, ⟨by omega, by omega⟩⟩⟩
theorem show_two : CmpIs 1 1 0 0 0 0 9 0 0 (-1) := by
  refine ⟨fun h => absurd ?_ h, fun h => by omega, fun _ h => by omega, fun _ _ => by decide, fun _ h => by omega⟩
  exact ⟨⟨⟨by omega, by omega⟩, ⟨by omega, by omega⟩, ⟨by omega, by omega⟩, ⟨by omega, by omega⟩⟩, ⟨⟨by omega, by omega⟩, ⟨by omega, by omega⟩, ⟨by omega, by omega⟩, ⟨by omega, by omega⟩⟩⟩

end Go.Proofs.YtnedghhcidohnaaGreat.Mn
