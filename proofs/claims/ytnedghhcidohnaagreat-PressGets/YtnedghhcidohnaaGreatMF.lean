/-
  mono's graded, orders, Cmp.
-/
import Derived.Deep.RegionHeld3
import Derived.Test.YtnedghhcidohnaaGreatJF1
namespace Go.Proofs.YtnedghhcidohnaaGreat.Mn
open Go.RowKit

set_option maxHeartbeats 400000 in
theorem graded_any (K : Nat) (w : World) : Calls Tryz.prog 98 #[.func (.func K) #[] #[]] w fun e w' => e = .returned (.func (.func 124) #[] #[.pointer (some ⟨w.heap.size, 0, none⟩)]) ∧ w' = w.alloc (.cells #[.func (.func K) #[] #[]] 104) := by
  go_enter Tryz.func98, Tryz.ntmps98
  go_wp2
  go_ret
  exact ⟨rfl, rfl⟩

/-- By degrees; of the same, by what is told. -/
def degI (a b c d p q r s k : Int) : Int := if a + b + c + d = p + q + r + s then k else cmpI (a + b + c + d) (p + q + r + s)

theorem compare_val (a b t : Int) (w : World) (h : t = cmpI a b) : Calls Tryz.prog 123 #[.int .i64 a, .int .i64 b] w fun e w' => e = .returned (.int .i64 t) ∧ w' = w := by
  rw [h]
  exact compare_any a b w
theorem cmpI_zero (a b : Int) : cmpI a b = 0 ↔ a = b := by
  unfold cmpI
  rcases Int.lt_trichotomy a b with h | h | h
  · rw [if_pos h]; omega
  · rw [if_neg (by omega), if_neg (by omega)]; omega
  · rw [if_neg (by omega), if_pos h]; omega

set_option maxHeartbeats 2000000 in
theorem graded1_any (K B : Nat) (a b c d p q r s k : Int) (w : World) (h : Both a b c d p q r s)
    (heg : ∀ args w, (callFunc K args).run Tryz.prog w = .ok (.enter K args) w)
    (hB : w.heap[B]? = some (.cells #[.func (.func K) #[] #[]] 104 (0, 0)))
    (hK : ∀ w1, Calls Tryz.prog K #[.agg #[.int .i64 a, .int .i64 b, .int .i64 c, .int .i64 d], .agg #[.int .i64 p, .int .i64 q, .int .i64 r, .int .i64 s]] w1 fun e w' => e = .returned (.int .i64 k) ∧ Below w1.heap.size w1 w') :
    Calls Tryz.prog 124 #[.agg #[.int .i64 a, .int .i64 b, .int .i64 c, .int .i64 d], .agg #[.int .i64 p, .int .i64 q, .int .i64 r, .int .i64 s], .pointer (some ⟨B, 0, none⟩)] w fun e w' => e = .returned (.int .i64 (degI a b c d p q r s k)) ∧ Below w.heap.size w w' := by
  have T : Hid (Two w ((w.alloc (.cells #[.int .i64 a, .int .i64 b, .int .i64 c, .int .i64 d] 47)).alloc (.cells #[.int .i64 p, .int .i64 q, .int .i64 r, .int .i64 s] 47)) a b c d p q r s) := Two.new w a b c d p q r s
  have H : Hid (Both a b c d p q r s) := h
  have HK : Hid _ := hK
  have HF : Hid (w.heap[B]? = some (.cells #[.func (.func K) #[] #[]] 104 (0, 0))) := hB
  clear h hK hB
  go_enter Tryz.func124, Tryz.ntmps124
  go_wp2
  obtain ⟨W, hW⟩ : ∃ W, W = ((w.alloc (.cells #[.int .i64 a, .int .i64 b, .int .i64 c, .int .i64 d] 47)).alloc (.cells #[.int .i64 p, .int .i64 q, .int .i64 r, .int .i64 s] 47)) := ⟨_, rfl⟩
  rw [← hW] at T
  rw [← hW]
  clear hW
  have xc0 := T.out.x.c0
  have xc1 := T.out.x.c1
  have xc2 := T.out.x.c2
  have xc3 := T.out.x.c3
  have yc0 := T.out.y.c0
  have yc1 := T.out.y.c1
  have yc2 := T.out.y.c2
  have yc3 := T.out.y.c3
  have hA := T.out.x.lt
  have hBB := T.out.y.lt
  obtain ⟨t, ht⟩ : ∃ t, t = cmpI (a + b + c + d) (p + q + r + s) := ⟨_, rfl⟩
  have HT : Hid (t = cmpI (a + b + c + d) (p + q + r + s)) := ht
  clear ht
  by_cases t0 : t = 0
  · have hd : a + b + c + d = p + q + r + s := (cmpI_zero _ _).1 (HT.out.symm.trans t0)
    have HD : Hid (degI a b c d p q r s k = k ∧ t = 0) := ⟨by unfold degI; rw [if_pos hd], t0⟩
    have tb : (t == 0) = true := by simp [t0]
    clear hd t0
    have bz : Below W.heap.size W W.drew := (Below.refl _ _).drew
    go_region_held3 (fun w' => (w'.cell? ⟨w.heap.size, 0, none⟩ = some (.int .i64 a) ∧ w'.cell? ⟨w.heap.size, 1, none⟩ = some (.int .i64 b) ∧ w'.cell? ⟨w.heap.size, 2, none⟩ = some (.int .i64 c) ∧ w'.cell? ⟨w.heap.size, 3, none⟩ = some (.int .i64 d)) ∧ (w'.cell? ⟨w.heap.size + 1, 0, none⟩ = some (.int .i64 p) ∧ w'.cell? ⟨w.heap.size + 1, 1, none⟩ = some (.int .i64 q) ∧ w'.cell? ⟨w.heap.size + 1, 2, none⟩ = some (.int .i64 r) ∧ w'.cell? ⟨w.heap.size + 1, 3, none⟩ = some (.int .i64 s))) (first | (refine ⟨⟨?_, ?_, ?_, ?_⟩, ?_, ?_, ?_, ?_⟩; (rw [bz.cell (p := ⟨w.heap.size, 0, none⟩) hA]; assumption); (rw [bz.cell (p := ⟨w.heap.size, 1, none⟩) hA]; assumption); (rw [bz.cell (p := ⟨w.heap.size, 2, none⟩) hA]; assumption); (rw [bz.cell (p := ⟨w.heap.size, 3, none⟩) hA]; assumption); (rw [bz.cell (p := ⟨w.heap.size + 1, 0, none⟩) hBB]; assumption); (rw [bz.cell (p := ⟨w.heap.size + 1, 1, none⟩) hBB]; assumption); (rw [bz.cell (p := ⟨w.heap.size + 1, 2, none⟩) hBB]; assumption); (rw [bz.cell (p := ⟨w.heap.size + 1, 3, none⟩) hBB]; assumption)) | go_keep)
      (first
        | (go_at_call_of 125 (Value.agg #[.int .i64 a, .int .i64 b, .int .i64 c, .int .i64 d]); refine (deg_ok a b c d _ H.out.a).mono ?_; rintro e v1 ⟨rfl, q1⟩; have bz := chain bz q1; clear q1)
        | (go_at_call_of 125 (Value.agg #[.int .i64 p, .int .i64 q, .int .i64 r, .int .i64 s]); refine (deg_ok p q r s _ H.out.b).mono ?_; rintro e v2 ⟨rfl, q1⟩; have bz := chain bz q1; clear q1)
        | (go_at_call 123; refine (compare_val _ _ t _ HT.out).mono ?_; rintro e v3 ⟨rfl, q1⟩; have bz := (show Below W.heap.size W v3 by rw [q1]; exact bz); clear q1))
    clear xc0 xc1 xc2 xc3 yc0 yc1 yc2 yc3
    have HZ : Hid (Below W.heap.size W v3) := bz
    clear bz
    have xx := T.out.x.below HZ.out
    have yy := T.out.y.below HZ.out
    have kk : v3.cell? ⟨B, 0, none⟩ = some (.func (.func K) #[] #[]) := by
      have hlt : B < w.heap.size := (Array.getElem?_eq_some_iff.1 HF.out).1
      have h1 : v3.heap[B]? = some (.cells #[.func (.func K) #[] #[]] 104 (0, 0)) := ((HZ.out.block B (Nat.lt_of_lt_of_le hlt T.out.bel.size)).trans (T.out.bel.block B hlt)).trans HF.out
      simp [World.cell?, h1]
    have xc0 := xx.c0
    have xc1 := xx.c1
    have xc2 := xx.c2
    have xc3 := xx.c3
    have yc0 := yy.c0
    have yc1 := yy.c1
    have yc2 := yy.c2
    have yc3 := yy.c3
    clear xx yy
    go_wp2_with fail
    refine (HK.out _).mono ?_
    rintro e w5 ⟨rfl, q5⟩
    have HE : Hid (Below w.heap.size w w5) := chain (chain T.out.bel HZ.out) q5
    clear q5
    go_wp2
    go_ret
    exact ⟨ret_int HD.out.1.symm, HE.out⟩
  · have hd : ¬ a + b + c + d = p + q + r + s := fun e => t0 (HT.out.trans ((cmpI_zero _ _).2 e))
    have HD : Hid (degI a b c d p q r s k = t) := by
      have h9 : degI a b c d p q r s k = t := by unfold degI; rw [if_neg hd]; exact HT.out.symm
      exact h9
    have tb : (t == 0) = false := by simp [t0]
    clear hd t0
    have bz : Below W.heap.size W W.drew := (Below.refl _ _).drew
    go_region_held3 (fun w' => (w'.cell? ⟨w.heap.size, 0, none⟩ = some (.int .i64 a) ∧ w'.cell? ⟨w.heap.size, 1, none⟩ = some (.int .i64 b) ∧ w'.cell? ⟨w.heap.size, 2, none⟩ = some (.int .i64 c) ∧ w'.cell? ⟨w.heap.size, 3, none⟩ = some (.int .i64 d)) ∧ (w'.cell? ⟨w.heap.size + 1, 0, none⟩ = some (.int .i64 p) ∧ w'.cell? ⟨w.heap.size + 1, 1, none⟩ = some (.int .i64 q) ∧ w'.cell? ⟨w.heap.size + 1, 2, none⟩ = some (.int .i64 r) ∧ w'.cell? ⟨w.heap.size + 1, 3, none⟩ = some (.int .i64 s))) (first | (refine ⟨⟨?_, ?_, ?_, ?_⟩, ?_, ?_, ?_, ?_⟩; (rw [bz.cell (p := ⟨w.heap.size, 0, none⟩) hA]; assumption); (rw [bz.cell (p := ⟨w.heap.size, 1, none⟩) hA]; assumption); (rw [bz.cell (p := ⟨w.heap.size, 2, none⟩) hA]; assumption); (rw [bz.cell (p := ⟨w.heap.size, 3, none⟩) hA]; assumption); (rw [bz.cell (p := ⟨w.heap.size + 1, 0, none⟩) hBB]; assumption); (rw [bz.cell (p := ⟨w.heap.size + 1, 1, none⟩) hBB]; assumption); (rw [bz.cell (p := ⟨w.heap.size + 1, 2, none⟩) hBB]; assumption); (rw [bz.cell (p := ⟨w.heap.size + 1, 3, none⟩) hBB]; assumption)) | go_keep)
      (first
        | (go_at_call_of 125 (Value.agg #[.int .i64 a, .int .i64 b, .int .i64 c, .int .i64 d]); refine (deg_ok a b c d _ H.out.a).mono ?_; rintro e v1 ⟨rfl, q1⟩; have bz := chain bz q1; clear q1)
        | (go_at_call_of 125 (Value.agg #[.int .i64 p, .int .i64 q, .int .i64 r, .int .i64 s]); refine (deg_ok p q r s _ H.out.b).mono ?_; rintro e v2 ⟨rfl, q1⟩; have bz := chain bz q1; clear q1)
        | (go_at_call 123; refine (compare_val _ _ t _ HT.out).mono ?_; rintro e v3 ⟨rfl, q1⟩; have bz := (show Below W.heap.size W v3 by rw [q1]; exact bz); clear q1))
    have HZ : Hid (Below W.heap.size W v3) := bz
    clear bz xc0 xc1 xc2 xc3 yc0 yc1 yc2 yc3
    go_wp2
    go_ret
    exact ⟨ret_int HD.out.symm, chain T.out.bel HZ.out⟩

end Go.Proofs.YtnedghhcidohnaaGreat.Mn
