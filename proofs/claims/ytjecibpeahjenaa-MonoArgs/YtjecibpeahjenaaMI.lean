/-
  mono's Cmp, by each order; held; shown.
-/
import Derived.Test.YtjecibpeahjenaaMH
namespace Go.Proofs.Ytjecibpeahjenaa
open Go.RowKit

theorem keepAt {W v : World} {m : Nat} {o : Obj} (h : W.heap[m]? = some o) (bz : Below W.heap.size W v) : v.heap[m]? = some o := (bz.block m (Array.getElem?_eq_some_iff.1 h).1).trans h

set_option maxHeartbeats 2000000 in
theorem cmp_0 (a b c d p q r s : Int) (w : World) (h : Both a b c d p q r s) :
    Calls Try.prog 21 #[.int .i64 0, .agg #[.int .i64 a, .int .i64 b, .int .i64 c, .int .i64 d], .agg #[.int .i64 p, .int .i64 q, .int .i64 r, .int .i64 s]] w fun e w' => e = .returned (.int .i64 (lexI a b c d p q r s)) ∧ Below w.heap.size w w' := by
  have T : Hid (Two w ((w.alloc (.cells #[.int .i64 a, .int .i64 b, .int .i64 c, .int .i64 d] 23)).alloc (.cells #[.int .i64 p, .int .i64 q, .int .i64 r, .int .i64 s] 23)) a b c d p q r s) := Two.new w a b c d p q r s
  have H : Hid (Both a b c d p q r s) := h
  clear h
  go_enter Try.func21, Try.ntmps21
  go_wp2_with fail
  refine (orders_ex _).mono ?_
  rintro e w1 ⟨m, n, rfl, hm, hn, q1⟩
  have b1 : Below w1.heap.size w1 (w1.alloc (.cells #[.func (.func 34) #[] #[], .func (.func 38) #[] #[.pointer (some ⟨m, 0, none⟩)], .func (.func 38) #[] #[.pointer (some ⟨n, 0, none⟩)]] 43)) := (Below.refl _ _).alloc (Nat.le_refl _) _
  have T1 : Hid (Two w (w1.alloc (.cells #[.func (.func 34) #[] #[], .func (.func 38) #[] #[.pointer (some ⟨m, 0, none⟩)], .func (.func 38) #[] #[.pointer (some ⟨n, 0, none⟩)]] 43)) a b c d p q r s ∧ (w1.alloc (.cells #[.func (.func 34) #[] #[], .func (.func 38) #[] #[.pointer (some ⟨m, 0, none⟩)], .func (.func 38) #[] #[.pointer (some ⟨n, 0, none⟩)]] 43)).heap[m]? = some (.cells #[.func (.func 34) #[] #[]] 42 (0, 0)) ∧ (w1.alloc (.cells #[.func (.func 34) #[] #[], .func (.func 38) #[] #[.pointer (some ⟨m, 0, none⟩)], .func (.func 38) #[] #[.pointer (some ⟨n, 0, none⟩)]] 43)).heap[n]? = some (.cells #[.func (.func 36) #[] #[]] 42 (0, 0)) ∧ (w1.alloc (.cells #[.func (.func 34) #[] #[], .func (.func 38) #[] #[.pointer (some ⟨m, 0, none⟩)], .func (.func 38) #[] #[.pointer (some ⟨n, 0, none⟩)]] 43)).heap[w1.heap.size]? = some (.cells #[.func (.func 34) #[] #[], .func (.func 38) #[] #[.pointer (some ⟨m, 0, none⟩)], .func (.func 38) #[] #[.pointer (some ⟨n, 0, none⟩)]] 43 (0, 0))) := ⟨(T.out.below q1).below b1, keepAt hm b1, keepAt hn b1, heap_alloc_new w1 _⟩
  clear q1 T b1 hm hn
  have xc0 := T1.out.1.x.c0
  have xc1 := T1.out.1.x.c1
  have xc2 := T1.out.1.x.c2
  have xc3 := T1.out.1.x.c3
  have yc0 := T1.out.1.y.c0
  have yc1 := T1.out.1.y.c1
  have yc2 := T1.out.1.y.c2
  have yc3 := T1.out.1.y.c3
  go_wp2_with fail
  refine (both_yes _ _ _ _ _ _ _ _ _ H.out).mono ?_
  rintro e w2 ⟨rfl, q2⟩
  have T2 : Hid (Two w w2 a b c d p q r s) := T1.out.1.below q2
  have HF : Hid (w2.heap[m]? = some (.cells #[.func (.func 34) #[] #[]] 42 (0, 0)) ∧ w2.heap[n]? = some (.cells #[.func (.func 36) #[] #[]] 42 (0, 0))) := ⟨keepAt T1.out.2.1 q2, keepAt T1.out.2.2.1 q2⟩
  have h3 := keepAt T1.out.2.2.2 q2
  have zc := (cells_43 h3).1
  have hC : w1.heap.size < w2.heap.size := (Array.getElem?_eq_some_iff.1 h3).1
  clear h3 q2 T1 xc0 xc1 xc2 xc3 yc0 yc1 yc2 yc3
  have xc0 := T2.out.x.c0
  have xc1 := T2.out.x.c1
  have xc2 := T2.out.x.c2
  have xc3 := T2.out.x.c3
  have yc0 := T2.out.y.c0
  have yc1 := T2.out.y.c1
  have yc2 := T2.out.y.c2
  have yc3 := T2.out.y.c3
  have hA := T2.out.x.lt
  have hB := T2.out.y.lt
  go_wp2
  have bz : Below w2.heap.size w2 w2.drew := (Below.refl _ _).drew
  go_region_held3 (fun w' => (w'.cell? ⟨w.heap.size, 0, none⟩ = some (.int .i64 a) ∧ w'.cell? ⟨w.heap.size, 1, none⟩ = some (.int .i64 b) ∧ w'.cell? ⟨w.heap.size, 2, none⟩ = some (.int .i64 c) ∧ w'.cell? ⟨w.heap.size, 3, none⟩ = some (.int .i64 d)) ∧ (w'.cell? ⟨w.heap.size + 1, 0, none⟩ = some (.int .i64 p) ∧ w'.cell? ⟨w.heap.size + 1, 1, none⟩ = some (.int .i64 q) ∧ w'.cell? ⟨w.heap.size + 1, 2, none⟩ = some (.int .i64 r) ∧ w'.cell? ⟨w.heap.size + 1, 3, none⟩ = some (.int .i64 s)) ∧ w'.cell? ⟨w1.heap.size, 0, none⟩ = some (.func (.func 34) #[] #[])) (first | (refine ⟨⟨?_, ?_, ?_, ?_⟩, ⟨?_, ?_, ?_, ?_⟩, ?_⟩; (rw [bz.cell (p := ⟨w.heap.size, 0, none⟩) hA]; assumption); (rw [bz.cell (p := ⟨w.heap.size, 1, none⟩) hA]; assumption); (rw [bz.cell (p := ⟨w.heap.size, 2, none⟩) hA]; assumption); (rw [bz.cell (p := ⟨w.heap.size, 3, none⟩) hA]; assumption); (rw [bz.cell (p := ⟨w.heap.size + 1, 0, none⟩) hB]; assumption); (rw [bz.cell (p := ⟨w.heap.size + 1, 1, none⟩) hB]; assumption); (rw [bz.cell (p := ⟨w.heap.size + 1, 2, none⟩) hB]; assumption); (rw [bz.cell (p := ⟨w.heap.size + 1, 3, none⟩) hB]; assumption); (rw [bz.cell (p := ⟨w1.heap.size, 0, none⟩) hC]; assumption)) | go_keep)
    (first
      | (go_at_call 34; refine (lex_any a b c d p q r s _).mono ?_; rintro e v1 ⟨rfl, q1⟩; have bz := chain bz q1; clear q1))
  have HZ : Hid (Below w.heap.size w v1) := chain T2.out.bel bz
  clear bz xc0 xc1 xc2 xc3 yc0 yc1 yc2 yc3 zc
  go_wp2
  go_ret
  exact ⟨rfl, HZ.out⟩

set_option maxHeartbeats 2000000 in
theorem cmp_1 (a b c d p q r s : Int) (w : World) (h : Both a b c d p q r s) :
    Calls Try.prog 21 #[.int .i64 1, .agg #[.int .i64 a, .int .i64 b, .int .i64 c, .int .i64 d], .agg #[.int .i64 p, .int .i64 q, .int .i64 r, .int .i64 s]] w fun e w' => e = .returned (.int .i64 (degI a b c d p q r s (lexI a b c d p q r s))) ∧ Below w.heap.size w w' := by
  have T : Hid (Two w ((w.alloc (.cells #[.int .i64 a, .int .i64 b, .int .i64 c, .int .i64 d] 23)).alloc (.cells #[.int .i64 p, .int .i64 q, .int .i64 r, .int .i64 s] 23)) a b c d p q r s) := Two.new w a b c d p q r s
  have H : Hid (Both a b c d p q r s) := h
  clear h
  go_enter Try.func21, Try.ntmps21
  go_wp2_with fail
  refine (orders_ex _).mono ?_
  rintro e w1 ⟨m, n, rfl, hm, hn, q1⟩
  have b1 : Below w1.heap.size w1 (w1.alloc (.cells #[.func (.func 34) #[] #[], .func (.func 38) #[] #[.pointer (some ⟨m, 0, none⟩)], .func (.func 38) #[] #[.pointer (some ⟨n, 0, none⟩)]] 43)) := (Below.refl _ _).alloc (Nat.le_refl _) _
  have T1 : Hid (Two w (w1.alloc (.cells #[.func (.func 34) #[] #[], .func (.func 38) #[] #[.pointer (some ⟨m, 0, none⟩)], .func (.func 38) #[] #[.pointer (some ⟨n, 0, none⟩)]] 43)) a b c d p q r s ∧ (w1.alloc (.cells #[.func (.func 34) #[] #[], .func (.func 38) #[] #[.pointer (some ⟨m, 0, none⟩)], .func (.func 38) #[] #[.pointer (some ⟨n, 0, none⟩)]] 43)).heap[m]? = some (.cells #[.func (.func 34) #[] #[]] 42 (0, 0)) ∧ (w1.alloc (.cells #[.func (.func 34) #[] #[], .func (.func 38) #[] #[.pointer (some ⟨m, 0, none⟩)], .func (.func 38) #[] #[.pointer (some ⟨n, 0, none⟩)]] 43)).heap[n]? = some (.cells #[.func (.func 36) #[] #[]] 42 (0, 0)) ∧ (w1.alloc (.cells #[.func (.func 34) #[] #[], .func (.func 38) #[] #[.pointer (some ⟨m, 0, none⟩)], .func (.func 38) #[] #[.pointer (some ⟨n, 0, none⟩)]] 43)).heap[w1.heap.size]? = some (.cells #[.func (.func 34) #[] #[], .func (.func 38) #[] #[.pointer (some ⟨m, 0, none⟩)], .func (.func 38) #[] #[.pointer (some ⟨n, 0, none⟩)]] 43 (0, 0))) := ⟨(T.out.below q1).below b1, keepAt hm b1, keepAt hn b1, heap_alloc_new w1 _⟩
  clear q1 T b1 hm hn
  have xc0 := T1.out.1.x.c0
  have xc1 := T1.out.1.x.c1
  have xc2 := T1.out.1.x.c2
  have xc3 := T1.out.1.x.c3
  have yc0 := T1.out.1.y.c0
  have yc1 := T1.out.1.y.c1
  have yc2 := T1.out.1.y.c2
  have yc3 := T1.out.1.y.c3
  go_wp2_with fail
  refine (both_yes _ _ _ _ _ _ _ _ _ H.out).mono ?_
  rintro e w2 ⟨rfl, q2⟩
  have T2 : Hid (Two w w2 a b c d p q r s) := T1.out.1.below q2
  have HF : Hid (w2.heap[m]? = some (.cells #[.func (.func 34) #[] #[]] 42 (0, 0)) ∧ w2.heap[n]? = some (.cells #[.func (.func 36) #[] #[]] 42 (0, 0))) := ⟨keepAt T1.out.2.1 q2, keepAt T1.out.2.2.1 q2⟩
  have h3 := keepAt T1.out.2.2.2 q2
  have zc := (cells_43 h3).2.1
  have hC : w1.heap.size < w2.heap.size := (Array.getElem?_eq_some_iff.1 h3).1
  clear h3 q2 T1 xc0 xc1 xc2 xc3 yc0 yc1 yc2 yc3
  have xc0 := T2.out.x.c0
  have xc1 := T2.out.x.c1
  have xc2 := T2.out.x.c2
  have xc3 := T2.out.x.c3
  have yc0 := T2.out.y.c0
  have yc1 := T2.out.y.c1
  have yc2 := T2.out.y.c2
  have yc3 := T2.out.y.c3
  have hA := T2.out.x.lt
  have hB := T2.out.y.lt
  go_wp2
  have bz : Below w2.heap.size w2 w2.drew := (Below.refl _ _).drew
  go_region_held3 (fun w' => (w'.cell? ⟨w.heap.size, 0, none⟩ = some (.int .i64 a) ∧ w'.cell? ⟨w.heap.size, 1, none⟩ = some (.int .i64 b) ∧ w'.cell? ⟨w.heap.size, 2, none⟩ = some (.int .i64 c) ∧ w'.cell? ⟨w.heap.size, 3, none⟩ = some (.int .i64 d)) ∧ (w'.cell? ⟨w.heap.size + 1, 0, none⟩ = some (.int .i64 p) ∧ w'.cell? ⟨w.heap.size + 1, 1, none⟩ = some (.int .i64 q) ∧ w'.cell? ⟨w.heap.size + 1, 2, none⟩ = some (.int .i64 r) ∧ w'.cell? ⟨w.heap.size + 1, 3, none⟩ = some (.int .i64 s)) ∧ w'.cell? ⟨w1.heap.size, 1, none⟩ = some (.func (.func 38) #[] #[.pointer (some ⟨m, 0, none⟩)])) (first | (refine ⟨⟨?_, ?_, ?_, ?_⟩, ⟨?_, ?_, ?_, ?_⟩, ?_⟩; (rw [bz.cell (p := ⟨w.heap.size, 0, none⟩) hA]; assumption); (rw [bz.cell (p := ⟨w.heap.size, 1, none⟩) hA]; assumption); (rw [bz.cell (p := ⟨w.heap.size, 2, none⟩) hA]; assumption); (rw [bz.cell (p := ⟨w.heap.size, 3, none⟩) hA]; assumption); (rw [bz.cell (p := ⟨w.heap.size + 1, 0, none⟩) hB]; assumption); (rw [bz.cell (p := ⟨w.heap.size + 1, 1, none⟩) hB]; assumption); (rw [bz.cell (p := ⟨w.heap.size + 1, 2, none⟩) hB]; assumption); (rw [bz.cell (p := ⟨w.heap.size + 1, 3, none⟩) hB]; assumption); (rw [bz.cell (p := ⟨w1.heap.size, 1, none⟩) hC]; assumption)) | go_keep)
    (first
      | (go_at_call 38; refine (graded1_any 34 m a b c d p q r s _ _ H.out (fun _ _ => by simp) (keepAt HF.out.1 bz) (fun _ => lex_any a b c d p q r s _)).mono ?_; rintro e v1 ⟨rfl, q1⟩; have bz := chain bz q1; clear q1))
  have HZ : Hid (Below w.heap.size w v1) := chain T2.out.bel bz
  clear bz xc0 xc1 xc2 xc3 yc0 yc1 yc2 yc3 zc
  go_wp2
  go_ret
  exact ⟨rfl, HZ.out⟩

set_option maxHeartbeats 2000000 in
theorem cmp_2 (a b c d p q r s : Int) (w : World) (h : Both a b c d p q r s) :
    Calls Try.prog 21 #[.int .i64 2, .agg #[.int .i64 a, .int .i64 b, .int .i64 c, .int .i64 d], .agg #[.int .i64 p, .int .i64 q, .int .i64 r, .int .i64 s]] w fun e w' => e = .returned (.int .i64 (degI a b c d p q r s (revI a b c d p q r s))) ∧ Below w.heap.size w w' := by
  have T : Hid (Two w ((w.alloc (.cells #[.int .i64 a, .int .i64 b, .int .i64 c, .int .i64 d] 23)).alloc (.cells #[.int .i64 p, .int .i64 q, .int .i64 r, .int .i64 s] 23)) a b c d p q r s) := Two.new w a b c d p q r s
  have H : Hid (Both a b c d p q r s) := h
  clear h
  go_enter Try.func21, Try.ntmps21
  go_wp2_with fail
  refine (orders_ex _).mono ?_
  rintro e w1 ⟨m, n, rfl, hm, hn, q1⟩
  have b1 : Below w1.heap.size w1 (w1.alloc (.cells #[.func (.func 34) #[] #[], .func (.func 38) #[] #[.pointer (some ⟨m, 0, none⟩)], .func (.func 38) #[] #[.pointer (some ⟨n, 0, none⟩)]] 43)) := (Below.refl _ _).alloc (Nat.le_refl _) _
  have T1 : Hid (Two w (w1.alloc (.cells #[.func (.func 34) #[] #[], .func (.func 38) #[] #[.pointer (some ⟨m, 0, none⟩)], .func (.func 38) #[] #[.pointer (some ⟨n, 0, none⟩)]] 43)) a b c d p q r s ∧ (w1.alloc (.cells #[.func (.func 34) #[] #[], .func (.func 38) #[] #[.pointer (some ⟨m, 0, none⟩)], .func (.func 38) #[] #[.pointer (some ⟨n, 0, none⟩)]] 43)).heap[m]? = some (.cells #[.func (.func 34) #[] #[]] 42 (0, 0)) ∧ (w1.alloc (.cells #[.func (.func 34) #[] #[], .func (.func 38) #[] #[.pointer (some ⟨m, 0, none⟩)], .func (.func 38) #[] #[.pointer (some ⟨n, 0, none⟩)]] 43)).heap[n]? = some (.cells #[.func (.func 36) #[] #[]] 42 (0, 0)) ∧ (w1.alloc (.cells #[.func (.func 34) #[] #[], .func (.func 38) #[] #[.pointer (some ⟨m, 0, none⟩)], .func (.func 38) #[] #[.pointer (some ⟨n, 0, none⟩)]] 43)).heap[w1.heap.size]? = some (.cells #[.func (.func 34) #[] #[], .func (.func 38) #[] #[.pointer (some ⟨m, 0, none⟩)], .func (.func 38) #[] #[.pointer (some ⟨n, 0, none⟩)]] 43 (0, 0))) := ⟨(T.out.below q1).below b1, keepAt hm b1, keepAt hn b1, heap_alloc_new w1 _⟩
  clear q1 T b1 hm hn
  have xc0 := T1.out.1.x.c0
  have xc1 := T1.out.1.x.c1
  have xc2 := T1.out.1.x.c2
  have xc3 := T1.out.1.x.c3
  have yc0 := T1.out.1.y.c0
  have yc1 := T1.out.1.y.c1
  have yc2 := T1.out.1.y.c2
  have yc3 := T1.out.1.y.c3
  go_wp2_with fail
  refine (both_yes _ _ _ _ _ _ _ _ _ H.out).mono ?_
  rintro e w2 ⟨rfl, q2⟩
  have T2 : Hid (Two w w2 a b c d p q r s) := T1.out.1.below q2
  have HF : Hid (w2.heap[m]? = some (.cells #[.func (.func 34) #[] #[]] 42 (0, 0)) ∧ w2.heap[n]? = some (.cells #[.func (.func 36) #[] #[]] 42 (0, 0))) := ⟨keepAt T1.out.2.1 q2, keepAt T1.out.2.2.1 q2⟩
  have h3 := keepAt T1.out.2.2.2 q2
  have zc := (cells_43 h3).2.2
  have hC : w1.heap.size < w2.heap.size := (Array.getElem?_eq_some_iff.1 h3).1
  clear h3 q2 T1 xc0 xc1 xc2 xc3 yc0 yc1 yc2 yc3
  have xc0 := T2.out.x.c0
  have xc1 := T2.out.x.c1
  have xc2 := T2.out.x.c2
  have xc3 := T2.out.x.c3
  have yc0 := T2.out.y.c0
  have yc1 := T2.out.y.c1
  have yc2 := T2.out.y.c2
  have yc3 := T2.out.y.c3
  have hA := T2.out.x.lt
  have hB := T2.out.y.lt
  go_wp2
  have bz : Below w2.heap.size w2 w2.drew := (Below.refl _ _).drew
  go_region_held3 (fun w' => (w'.cell? ⟨w.heap.size, 0, none⟩ = some (.int .i64 a) ∧ w'.cell? ⟨w.heap.size, 1, none⟩ = some (.int .i64 b) ∧ w'.cell? ⟨w.heap.size, 2, none⟩ = some (.int .i64 c) ∧ w'.cell? ⟨w.heap.size, 3, none⟩ = some (.int .i64 d)) ∧ (w'.cell? ⟨w.heap.size + 1, 0, none⟩ = some (.int .i64 p) ∧ w'.cell? ⟨w.heap.size + 1, 1, none⟩ = some (.int .i64 q) ∧ w'.cell? ⟨w.heap.size + 1, 2, none⟩ = some (.int .i64 r) ∧ w'.cell? ⟨w.heap.size + 1, 3, none⟩ = some (.int .i64 s)) ∧ w'.cell? ⟨w1.heap.size, 2, none⟩ = some (.func (.func 38) #[] #[.pointer (some ⟨n, 0, none⟩)])) (first | (refine ⟨⟨?_, ?_, ?_, ?_⟩, ⟨?_, ?_, ?_, ?_⟩, ?_⟩; (rw [bz.cell (p := ⟨w.heap.size, 0, none⟩) hA]; assumption); (rw [bz.cell (p := ⟨w.heap.size, 1, none⟩) hA]; assumption); (rw [bz.cell (p := ⟨w.heap.size, 2, none⟩) hA]; assumption); (rw [bz.cell (p := ⟨w.heap.size, 3, none⟩) hA]; assumption); (rw [bz.cell (p := ⟨w.heap.size + 1, 0, none⟩) hB]; assumption); (rw [bz.cell (p := ⟨w.heap.size + 1, 1, none⟩) hB]; assumption); (rw [bz.cell (p := ⟨w.heap.size + 1, 2, none⟩) hB]; assumption); (rw [bz.cell (p := ⟨w.heap.size + 1, 3, none⟩) hB]; assumption); (rw [bz.cell (p := ⟨w1.heap.size, 2, none⟩) hC]; assumption)) | go_keep)
    (first
      | (go_at_call 38; refine (graded1_any 36 n a b c d p q r s _ _ H.out (fun _ _ => by simp) (keepAt HF.out.2 bz) (fun _ => rev_any a b c d p q r s _)).mono ?_; rintro e v1 ⟨rfl, q1⟩; have bz := chain bz q1; clear q1))
  have HZ : Hid (Below w.heap.size w v1) := chain T2.out.bel bz
  clear bz xc0 xc1 xc2 xc3 yc0 yc1 yc2 yc3 zc
  go_wp2
  go_ret
  exact ⟨rfl, HZ.out⟩

/-- What Cmp tells. -/
structure CmpIs (o a b c d p q r s k : Int) : Prop where
  arg : ¬ Both a b c d p q r s → k = 0
  out : o < 0 ∨ 2 < o → k = 0
  lex : Both a b c d p q r s → o = 0 → k = lexI a b c d p q r s
  grl : Both a b c d p q r s → o = 1 → k = degI a b c d p q r s (lexI a b c d p q r s)
  rev : Both a b c d p q r s → o = 2 → k = degI a b c d p q r s (revI a b c d p q r s)

theorem CmpIs.ex (o a b c d p q r s : Int) : ∃ k, CmpIs o a b c d p q r s k := by
  by_cases hb : Both a b c d p q r s
  · by_cases ho : o < 0 ∨ 2 < o
    · exact ⟨0, fun h => absurd hb h, fun _ => rfl, fun _ h => by omega, fun _ h => by omega, fun _ h => by omega⟩
    · have h3 : o = 0 ∨ o = 1 ∨ o = 2 := by omega
      rcases h3 with rfl | rfl | rfl
      · exact ⟨_, fun h => absurd hb h, fun h => by omega, fun _ _ => rfl, fun _ h => by omega, fun _ h => by omega⟩
      · exact ⟨_, fun h => absurd hb h, fun h => by omega, fun _ h => by omega, fun _ _ => rfl, fun _ h => by omega⟩
      · exact ⟨_, fun h => absurd hb h, fun h => by omega, fun _ h => by omega, fun _ h => by omega, fun _ _ => rfl⟩
  · exact ⟨0, fun _ => rfl, fun _ => rfl, fun h => absurd h hb, fun h => absurd h hb, fun h => absurd h hb⟩

theorem cmp_val (o a b c d p q r s k : Int) (w : World) (h : CmpIs o a b c d p q r s k) :
    Calls Try.prog 21 #[.int .i64 o, .agg #[.int .i64 a, .int .i64 b, .int .i64 c, .int .i64 d], .agg #[.int .i64 p, .int .i64 q, .int .i64 r, .int .i64 s]] w fun e w' => e = .returned (.int .i64 k) ∧ Below w.heap.size w w' := by
  by_cases hb : Both a b c d p q r s
  · by_cases ho : o < 0 ∨ 2 < o
    · rw [h.out ho]
      exact cmp_out o a b c d p q r s w ho
    · have h3 : o = 0 ∨ o = 1 ∨ o = 2 := by omega
      rcases h3 with rfl | rfl | rfl
      · rw [h.lex hb rfl]
        exact cmp_0 a b c d p q r s w hb
      · rw [h.grl hb rfl]
        exact cmp_1 a b c d p q r s w hb
      · rw [h.rev hb rfl]
        exact cmp_2 a b c d p q r s w hb
  · rw [h.arg hb]
    exact cmp_arg o a b c d p q r s w hb

theorem show_one : CmpIs 0 1 0 0 0 0 9 0 0 1 := by
  refine ⟨fun h => absurd ?_ h, fun h => by omega, fun _ _ => by decide, fun _ h => by omega, fun _ h => by omega⟩
  exact ⟨⟨⟨by omega, by omega⟩, ⟨by omega, by omega⟩, ⟨by omega, by omega⟩, ⟨by omega, by omega⟩⟩, ⟨⟨by omega, by omega⟩, ⟨by omega, by omega⟩, ⟨by omega, by omega⟩, ⟨by omega, by omega⟩⟩⟩
theorem show_two : CmpIs 1 1 0 0 0 0 9 0 0 (-1) := by
  refine ⟨fun h => absurd ?_ h, fun h => by omega, fun _ h => by omega, fun _ _ => by decide, fun _ h => by omega⟩
  exact ⟨⟨⟨by omega, by omega⟩, ⟨by omega, by omega⟩, ⟨by omega, by omega⟩, ⟨by omega, by omega⟩⟩, ⟨⟨by omega, by omega⟩, ⟨by omega, by omega⟩, ⟨by omega, by omega⟩, ⟨by omega, by omega⟩⟩⟩

set_option maxHeartbeats 400000 in
theorem shown_m (w : World) : Calls Try.prog 23 #[] w fun e w' => e = .returned (.bool true) ∧ Below w.heap.size w w' := by
  go_enter Try.func23, Try.ntmps23
  go_wp2_with fail
  refine (cmp_val _ _ _ _ _ _ _ _ _ _ _ show_one).mono ?_
  rintro e w1 ⟨rfl, q1⟩
  go_wp2_with fail
  refine (cmp_val _ _ _ _ _ _ _ _ _ _ _ show_two).mono ?_
  rintro e w2 ⟨rfl, q2⟩
  have HB : Hid (Below w.heap.size w w2) := chain q1 q2
  clear q1 q2
  go_wp2
  go_ret
  exact ⟨rfl, HB.out⟩

set_option maxHeartbeats 400000 in
theorem held_m (a b c d : Int) (w : World) (ha : 0 ≤ a ∧ a ≤ 255) (hb : 0 ≤ b ∧ b ≤ 255) (hc : 0 ≤ c ∧ c ≤ 255) (hd : 0 ≤ d ∧ d ≤ 255) (x y z u : Int) (hx : x = a % 21) (hy : y = b % 21) (hz : z = c % 21) (hu : u = d % 21) :
    Calls Try.prog 24 #[.agg #[.int .u8 a, .int .u8 b, .int .u8 c, .int .u8 d]] w fun e w' => e = .returned (.agg #[.int .i64 x, .int .i64 y, .int .i64 z, .int .i64 u]) ∧ Below w.heap.size w w' := by
  obtain ⟨a0, a1⟩ := ha
  obtain ⟨b0, b1⟩ := hb
  obtain ⟨c0, c1⟩ := hc
  obtain ⟨d0, d1⟩ := hd
  subst hx hy hz hu
  go_enter Try.func24, Try.ntmps24
  go_wp2
  refine bodyPost_ret (by simp [results, Try.results24, go_sem]) rfl ⟨rfl, ?_⟩
  exact ((Below.refl _ _).alloc (Nat.le_refl _) _).alloc (by simp) _

end Go.Proofs.Ytjecibpeahjenaa
