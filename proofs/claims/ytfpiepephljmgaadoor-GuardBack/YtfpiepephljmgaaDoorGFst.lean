/-
  guard.First.
-/
import Derived.Test.YtfpiepephljmgaaDoorGPut
namespace Go.Proofs.YtfpiepephljmgaaDoor
open Go.RowKit

/-- The frame that bytes begin by, and the bytes behind; or the error. -/
def firstL (s : List UInt8) : Except Int (Frm × List UInt8) :=
  if s = [] then .error 3
  else if s.length < 24 then .error 60
  else if 8192 < joinL (s.take 4) then .error 71
  else if s.length < 24 + joinL (s.take 4) then .error 60
  else if joinL ((s.take (24 + joinL (s.take 4))).drop (20 + joinL (s.take 4))) ≠ crc (s.take (20 + joinL (s.take 4))) then .error 70
  else .ok (unL (s.take (20 + joinL (s.take 4))), s.drop (24 + joinL (s.take 4)))

/-- What First tells. -/
def told (r : Except Int (Frm × List UInt8)) : Value :=
  match r with
  | .error n => .tuple #[.agg #[.int .u64 0, .int .u64 0, .string (str [])], .string (str []), .int .i64 n]
  | .ok (f, t) => .tuple #[f.v, .string (str t), .int .i64 0]

theorem str_empty (s : List UInt8) : (str s).toList.isEmpty = s.isEmpty := by rw [Lib.toList_data]; rfl

set_option maxRecDepth 100000 in
set_option maxHeartbeats 2000000 in
theorem first_none (w : World) : Calls Tryd.prog 13 #[.string (str [])] w fun e w' => e = .returned (told (.error 3)) ∧ Below w.heap.size w w' := by
  have he : (str []).toList.isEmpty = true := by rw [str_empty]; rfl
  go_enter Tryd.func13, Tryd.ntmps13
  go_wp2
  exact bodyPost_ret (results_f3 rfl _ (FBox.new w _ _ _) rfl _ _ rfl rfl) rfl ⟨rfl, (Below.refl _ _).alloc (Nat.le_refl _) _⟩

set_option maxRecDepth 100000 in
set_option maxHeartbeats 2000000 in
theorem first_short (s : List UInt8) (w : World) (h0 : s ≠ []) (h1 : s.length < 24) : Calls Tryd.prog 13 #[.string (str s)] w fun e w' => e = .returned (told (.error 60)) ∧ Below w.heap.size w w' := by
  have he : (str s).toList.isEmpty = false := by
    rw [str_empty]
    cases s with
    | nil => exact absurd rfl h0
    | cons a t => rfl
  have hsz : (str s).size = s.length := str_size s
  have g1 : (s.length : Int) < 24 := by omega
  clear h0
  go_enter Tryd.func13, Tryd.ntmps13
  go_wp2
  exact bodyPost_ret (results_f3 rfl _ (FBox.new w _ _ _) rfl _ _ rfl rfl) rfl ⟨rfl, (Below.refl _ _).alloc (Nat.le_refl _) _⟩

set_option maxRecDepth 100000 in
set_option maxHeartbeats 4000000 in
theorem first_cap (s : List UInt8) (w : World) (h1 : 24 ≤ s.length) (hl : s.length ≤ 100000) (h2 : 8192 < joinL (s.take 4) ∨ s.length < 24 + joinL (s.take 4)) :
    Calls Tryd.prog 13 #[.string (str s)] w fun e w' => e = .returned (told (.error (if 8192 < joinL (s.take 4) then 71 else 60))) ∧ Below w.heap.size w w' := by
  have he : (str s).toList.isEmpty = false := by
    rw [str_empty]
    cases s with
    | nil => simp at h1
    | cons a t => rfl
  have hsz : (str s).size = s.length := str_size s
  have g1 : (24 : Int) ≤ (s.length : Int) := by omega
  have g2 : (s.length : Int) ≤ 100000 := by omega
  have g3 : (4 : Int) ≤ (s.length : Int) := by omega
  obtain ⟨A, hA⟩ : ∃ A, A = s.take 4 := ⟨_, rfl⟩
  have e1 := ext0 s 4
  rw [← hA] at e1 h2 ⊢
  have hAl : A.length ≤ 8 := by rw [hA]; simp; omega
  have hN := big8 A hAl
  obtain ⟨N, hNe⟩ : ∃ N, N = joinL A := ⟨_, rfl⟩
  rw [← hNe] at h2 hN ⊢
  obtain ⟨r, hr⟩ : ∃ r : Int, r = if 8192 < N then 71 else 60 := ⟨_, rfl⟩
  rw [← hr]
  have HN : Hid (N = joinL A ∧ r = if 8192 < N then 71 else 60) := ⟨hNe, hr⟩
  clear hA hNe hr
  go_enter Tryd.func13, Tryd.ntmps13
  go_wp2_with fail
  refine (numberOf_any A _ hAl).mono ?_
  rw [← HN.out.1]
  rintro e w1 ⟨rfl, rfl⟩
  have hN2 : (N : Int) < 18446744073709551616 := by omega
  by_cases h3 : 8192 < N
  · have h4 : (8192 : Int) < (N : Int) := by omega
    have hr : r = 71 := by rw [HN.out.2, if_pos h3]
    subst hr
    clear h2 h3
    go_wp2
    exact bodyPost_ret (results_f3 rfl _ (FBox.new w _ _ _) rfl _ _ rfl rfl) rfl ⟨rfl, (Below.refl _ _).alloc (Nat.le_refl _) _⟩
  · have h4 : ¬ (8192 : Int) < (N : Int) := by omega
    have h5 : (N : Int) ≤ 8192 := by omega
    obtain ⟨M, hM⟩ : ∃ M, M = 24 + N := ⟨_, rfl⟩
    have h6 : (s.length : Int) < (M : Int) := by omega
    have hN3 : IntKind.i64.wrap (N : Int) = (N : Int) := IntWalk.i64_in _ ⟨by omega, by omega⟩
    have hnx4 : IntKind.i64.wrap (24 + (N : Int)) = (M : Int) := by rw [show (24 : Int) + (N : Int) = (M : Int) by omega]; exact IntWalk.i64_in _ ⟨by omega, by omega⟩
    clear hM hN hN2 h4
    have hr : r = 60 := by rw [HN.out.2, if_neg h3]
    subst hr
    clear h2 h3
    go_wp2
    exact bodyPost_ret (results_f3 rfl _ (FBox.new w _ _ _) rfl _ _ rfl rfl) rfl ⟨rfl, (Below.refl _ _).alloc (Nat.le_refl _) _⟩

theorem unsummed_v (s : List UInt8) (w : World) (h0 : 20 ≤ s.length) (hl : s.length ≤ 100000) (x y : Nat) (t : List UInt8) (h : unL s = ⟨x, y, t⟩) :
    Calls Tryd.prog 24 #[.string (str s)] w fun e w' => e = .returned (.agg #[.int .u64 (x : Int), .int .u64 (y : Int), .string (str t)]) ∧ Below w.heap.size w w' := by
  have h1 := unsummed_any s w h0 hl
  rw [h] at h1
  exact h1

set_option maxRecDepth 100000 in
set_option maxHeartbeats 4000000 in
theorem first_whole (s : List UInt8) (w : World) (hT : Tab w) (h1 : 24 ≤ s.length) (hl : s.length ≤ 100000) (N : Nat) (hN : N = joinL (s.take 4)) (h2 : N ≤ 8192) (h3 : 24 + N ≤ s.length) :
    Calls Tryd.prog 13 #[.string (str s)] w fun e w' => e = .returned (told (if joinL ((s.take (24 + N)).drop (20 + N)) ≠ crc (s.take (20 + N)) then .error 70 else .ok (unL (s.take (20 + N)), s.drop (24 + N)))) ∧ Below w.heap.size w w' := by
  have he : (str s).toList.isEmpty = false := by
    rw [str_empty]
    cases s with
    | nil => simp at h1
    | cons a t => rfl
  have hsz : (str s).size = s.length := str_size s
  have g1 : (24 : Int) ≤ (s.length : Int) := by omega
  have g2 : (s.length : Int) ≤ 100000 := by omega
  have g3 : (4 : Int) ≤ (s.length : Int) := by omega
  have g4 : (N : Int) ≤ 8192 := by omega
  obtain ⟨M, hM⟩ : ∃ M, M = 24 + N := ⟨_, rfl⟩
  obtain ⟨K, hK⟩ : ∃ K, K = 20 + N := ⟨_, rfl⟩
  obtain ⟨A, hA⟩ : ∃ A, A = s.take 4 := ⟨_, rfl⟩
  obtain ⟨B, hB⟩ : ∃ B, B = s.take K := ⟨_, rfl⟩
  obtain ⟨C, hC⟩ : ∃ C, C = (s.take M).drop K := ⟨_, rfl⟩
  obtain ⟨D, hD⟩ : ∃ D, D = s.drop M := ⟨_, rfl⟩
  have e1 := ext0 s 4
  have e2 := ext0 s K
  have e3 := ext_str s K M
  have e4 := extE s M
  rw [← hM, ← hK, ← hB, ← hC, ← hD]
  rw [← hA] at e1 hN
  rw [← hB] at e2
  rw [← hC] at e3
  rw [← hD] at e4
  have hAl : A.length ≤ 8 := by rw [hA]; simp; omega
  have hCl : C.length ≤ 8 := by rw [hC]; simp; omega
  have hBl : B.length ≤ 100000 ∧ 20 ≤ B.length := by rw [hB]; simp; omega
  have hnx : (24 : Int) + (N : Int) = (M : Int) := by omega
  have hnx2 : IntKind.i64.wrap ((M : Int) - 4) = (K : Int) := by rw [show (M : Int) - 4 = (K : Int) by omega]; exact IntWalk.i64_in _ ⟨by omega, by omega⟩
  have hnx3 : (M : Int) - 4 = (K : Int) := by omega
  have hnx4 : IntKind.i64.wrap (24 + (N : Int)) = (M : Int) := by rw [hnx]; exact IntWalk.i64_in _ ⟨by omega, by omega⟩
  have g5 : (M : Int) ≤ (s.length : Int) := by omega
  have g6 : (K : Int) ≤ (M : Int) := by omega
  have g7 : (K : Int) ≤ (s.length : Int) := by omega
  have g8 : ¬ (s.length : Int) < (M : Int) := by omega
  have hCb := big8 C hCl
  have hBc := crc_lt B
  obtain ⟨P, hP⟩ : ∃ P, P = joinL C := ⟨_, rfl⟩
  obtain ⟨Q, hQ⟩ : ∃ Q, Q = crc B := ⟨_, rfl⟩
  rw [← hP] at hCb ⊢
  rw [← hQ] at hBc ⊢
  obtain ⟨res, hres⟩ : ∃ res : Except Int (Frm × List UInt8), res = if P ≠ Q then .error 70 else .ok (unL B, D) := ⟨_, rfl⟩
  rw [← hres]
  have HRES : Hid (res = if P ≠ Q then .error 70 else .ok (unL B, D)) := hres
  clear hres
  have HT : Hid (Tab w ∧ N = joinL A ∧ P = joinL C ∧ Q = crc B ∧ A.length ≤ 8 ∧ C.length ≤ 8 ∧ B.length ≤ 100000 ∧ 20 ≤ B.length) := ⟨hT, hN, hP, hQ, hAl, hCl, hBl.1, hBl.2⟩
  have hQ2 : IntKind.u64.wrap (Q : Int) = (Q : Int) := by rw [IntKind.wrap_u64]; omega
  have hN3 : IntKind.i64.wrap (N : Int) = (N : Int) := IntWalk.i64_in _ ⟨by omega, by omega⟩
  have HW : Hid (Tab (w.alloc (.cells #[.int .u64 0, .int .u64 0, .string (ByteArray.mk #[])] 24)) ∧ Below w.heap.size w (w.alloc (.cells #[.int .u64 0, .int .u64 0, .string (ByteArray.mk #[])] 24))) := ⟨hT.below ((Below.refl _ _).alloc (Nat.le_refl _) _) hT.pos, (Below.refl _ _).alloc (Nat.le_refl _) _⟩
  clear hT hN hM hK hA hB hC hD hP hQ hAl hCl hBl h1 hl h2 h3 hnx
  go_enter Tryd.func13, Tryd.ntmps13
  go_wp2_with fail
  refine (numberOf_any A _ HT.out.2.2.2.2.1).mono ?_
  rw [← HT.out.2.1]
  rintro e w1 ⟨rfl, rfl⟩
  go_wp2_with fail
  go_quiet (fail)
  obtain ⟨W, hW⟩ : ∃ W, W = (w.alloc (Obj.cells #[Value.int IntKind.u64 0, Value.int IntKind.u64 0, Value.string { data := #[] }] 24)).drewN nq := ⟨_, rfl⟩
  have HX : Hid (Tab W ∧ Below w.heap.size w W ∧ FBox W w.heap.size 0 0 (str []) ∧ W.heap.size = w.heap.size + 1) := by
    have b1 : Below (w.heap.size + 1) (w.alloc (Obj.cells #[Value.int IntKind.u64 0, Value.int IntKind.u64 0, Value.string { data := #[] }] 24)) W := by
      rw [hW]
      have := below_drewN (Below.refl (w.heap.size + 1) (w.alloc (Obj.cells #[Value.int IntKind.u64 0, Value.int IntKind.u64 0, Value.string { data := #[] }] 24))) nq
      exact this
    have h9 : Tab W ∧ Below w.heap.size w W ∧ FBox W w.heap.size 0 0 (str []) ∧ W.heap.size = w.heap.size + 1 := by
      refine ⟨HW.out.1.below b1 (by omega), ?_, ?_, ?_⟩
      · rw [hW]; exact below_drewN HW.out.2 nq
      · exact (b1.block _ (Nat.lt_succ_self _)).trans (FBox.new w 0 0 (str []))
      · rw [hW]; simp
    exact h9
  rw [← hW]
  clear hW HW
  go_wp2_with fail
  refine (numberOf_any C _ HT.out.2.2.2.2.2.1).mono ?_
  rw [← HT.out.2.2.1]
  rintro e w1 ⟨rfl, rfl⟩
  go_wp2_with fail
  refine (sum_any B _ HX.out.1 HT.out.2.2.2.2.2.2.1).mono ?_
  rw [← HT.out.2.2.2.1]
  rintro e w2 ⟨rfl, rfl⟩
  have HQ : Hid (FBox w2 w.heap.size 0 0 (str [])) := HX.out.2.2.1
  have f0 := HQ.out.f 0
  have f1 := HQ.out.f 1
  have f2 := HQ.out.f 2
  have c0 := HQ.out.c0
  have c1 := HQ.out.c1
  have c2 := HQ.out.c2
  by_cases hPQ : P = Q
  · have h6 : ((P : Int) == (Q : Int)) = true := by rw [beq_iff_eq]; omega
    have HR : Hid (res = .ok (unL B, D)) := by
      have h9 : res = .ok (unL B, D) := by rw [HRES.out, if_neg (by simpa using hPQ)]
      exact h9
    clear hPQ
    obtain ⟨x, y, t, hu⟩ : ∃ x y t, unL B = ⟨x, y, t⟩ := ⟨_, _, _, rfl⟩
    have HU : Hid (unL B = ⟨x, y, t⟩ ∧ Below w2.heap.size w2 w2.drew) := ⟨hu, (Below.refl _ _).drew⟩
    clear hu
    go_wp2_with fail
    go_region_with (go_at_call 24; refine (unsummed_v B _ HT.out.2.2.2.2.2.2.2 HT.out.2.2.2.2.2.2.1 x y t HU.out.1).mono ?_; rintro e w3 ⟨rfl, b3⟩; have b4 := HU.out.2.trans b3; have bx3 := HQ.out.below b4; have r0 := bx3.c0; have r1 := bx3.c1; have r2 := bx3.c2; have m0 := bx3.f 0; have m1 := bx3.f 1; have m2 := bx3.f 2)
    all_goals
      have Q3 : Hid (FBox w3 w.heap.size 0 0 (str []) ∧ Below w.heap.size w w3) := ⟨bx3, chain HX.out.2.1 b4⟩
      clear b3 b4 bx3
      go_wp2_with fail
      exact bodyPost_ret (results_f3 rfl _ (Q3.out.1.set _ _ _) rfl _ _ rfl rfl) rfl ⟨by rw [HR.out, HU.out.1]; rfl, below_set Q3.out.2 (Nat.le_refl _) _ _ _⟩
  · have h6 : ((P : Int) == (Q : Int)) = false := by rw [beq_eq_false_iff_ne]; omega
    have HR : Hid (res = .error 70) := by
      have h9 : res = .error 70 := by rw [HRES.out, if_pos hPQ]
      exact h9
    clear hPQ
    go_wp2
    exact bodyPost_ret (results_f3 rfl _ (HQ.out.set _ _ _) rfl _ _ rfl rfl) rfl ⟨by rw [HR.out]; rfl, below_set HX.out.2.1 (Nat.le_refl _) _ _ _⟩
end Go.Proofs.YtfpiepephljmgaaDoor
