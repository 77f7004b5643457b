/-
  The reference's First of layer 7.
-/
import Derived.Test.YtfpiepephljmgaaDoorGRPut
namespace Go.Proofs.YtfpiepephljmgaaDoor
open Go.RowKit

theorem p4' : (256 : Nat) ^ 4 = 4294967296 := by decide

set_option maxRecDepth 100000 in
set_option maxHeartbeats 2000000 in
theorem rfirst_none (w : World) : Calls Tryd.prog 14 #[.string (str [])] w fun e w' => e = .returned (told (.error 3)) ∧ Below w.heap.size w w' := by
  have hsz : (str []).size = 0 := rfl
  go_enter Tryd.func14, Tryd.ntmps14
  go_wp2
  exact bodyPost_ret (results_r3 rfl _ (RBox.new w _ _ _) rfl _ _ rfl rfl) rfl ⟨rfl, (Below.refl _ _).alloc (Nat.le_refl _) _⟩

set_option maxRecDepth 100000 in
set_option maxHeartbeats 2000000 in
theorem rfirst_short (s : List UInt8) (w : World) (h0 : s ≠ []) (h1 : s.length < 24) : Calls Tryd.prog 14 #[.string (str s)] w fun e w' => e = .returned (told (.error 60)) ∧ Below w.heap.size w w' := by
  have hsz : (str s).size = s.length := str_size s
  have g1 : (s.length : Int) < 24 := by omega
  have g0 : ¬ (s.length : Int) = 0 := by have := List.length_pos_iff.2 h0; omega
  clear h0
  go_enter Tryd.func14, Tryd.ntmps14
  go_wp2
  exact bodyPost_ret (results_r3 rfl _ (RBox.new w _ _ _) rfl _ _ rfl rfl) rfl ⟨rfl, (Below.refl _ _).alloc (Nat.le_refl _) _⟩

set_option maxRecDepth 100000 in
set_option maxHeartbeats 4000000 in
theorem rfirst_cap (s : List UInt8) (w : World) (h1 : 24 ≤ s.length) (hl : s.length ≤ 100000) (h2 : 8192 < joinL (s.take 4) ∨ s.length < 24 + joinL (s.take 4)) :
    Calls Tryd.prog 14 #[.string (str s)] w fun e w' => e = .returned (told (.error (if 8192 < joinL (s.take 4) then 71 else 60))) ∧ Below w.heap.size w w' := by
  have hsz : (str s).size = s.length := str_size s
  have g1 : (24 : Int) ≤ (s.length : Int) := by omega
  have g0 : ¬ (s.length : Int) = 0 := by omega
  have g2 : (s.length : Int) ≤ 100000 := by omega
  have g3 : (4 : Int) ≤ (s.length : Int) := by omega
  obtain ⟨A, hA⟩ : ∃ A, A = s.take 4 := ⟨_, rfl⟩
  have e1 := ext0 s 4
  rw [← hA] at e1 h2 ⊢
  have hAl : A.length ≤ 8 := by rw [hA]; simp; omega
  have hN : joinL A < 4294967296 := by
    have h4 := joinL_lt A
    rw [show A.length = 4 by rw [hA]; simp; omega, p4'] at h4
    exact h4
  obtain ⟨N, hNe⟩ : ∃ N, N = joinL A := ⟨_, rfl⟩
  rw [← hNe] at h2 hN ⊢
  obtain ⟨r, hr⟩ : ∃ r : Int, r = if 8192 < N then 71 else 60 := ⟨_, rfl⟩
  rw [← hr]
  have HN : Hid (N = joinL A ∧ r = if 8192 < N then 71 else 60) := ⟨hNe, hr⟩
  clear hA hNe hr
  go_enter Tryd.func14, Tryd.ntmps14
  go_wp2_with fail
  refine (rnumber_any A _ hAl).mono ?_
  rw [← HN.out.1]
  rintro e w1 ⟨rfl, rfl⟩
  have hN3 : IntKind.i64.wrap (N : Int) = (N : Int) := IntWalk.i64_in _ ⟨by omega, by omega⟩
  by_cases h3 : 8192 < N
  · have h4 : (8192 : Int) < (N : Int) := by omega
    have hr : r = 71 := by rw [HN.out.2, if_pos h3]
    subst hr
    clear h2 h3 hN
    go_wp2
    exact bodyPost_ret (results_r3 rfl _ (RBox.new w _ _ _) rfl _ _ rfl rfl) rfl ⟨rfl, (Below.refl _ _).alloc (Nat.le_refl _) _⟩
  · have h4 : ¬ (8192 : Int) < (N : Int) := by omega
    have h5 : (N : Int) ≤ 8192 := by omega
    obtain ⟨M, hM⟩ : ∃ M, M = 24 + N := ⟨_, rfl⟩
    have h6 : (s.length : Int) < (M : Int) := by omega
    have hnx4 : IntKind.i64.wrap (24 + (N : Int)) = (M : Int) := by rw [show (24 : Int) + (N : Int) = (M : Int) by omega]; exact IntWalk.i64_in _ ⟨by omega, by omega⟩
    clear hM hN h4
    have hr : r = 60 := by rw [HN.out.2, if_neg h3]
    subst hr
    clear h2 h3
    go_wp2
    exact bodyPost_ret (results_r3 rfl _ (RBox.new w _ _ _) rfl _ _ rfl rfl) rfl ⟨rfl, (Below.refl _ _).alloc (Nat.le_refl _) _⟩


set_option maxRecDepth 100000 in
set_option maxHeartbeats 4000000 in
theorem rfirst_whole (s : List UInt8) (w : World) (h1 : 24 ≤ s.length) (hl : s.length ≤ 100000) (N : Nat) (hN : N = joinL (s.take 4)) (h2 : N ≤ 8192) (h3 : 24 + N ≤ s.length) :
    Calls Tryd.prog 14 #[.string (str s)] w fun e w' => e = .returned (told (if joinL ((s.take (24 + N)).drop (20 + N)) ≠ crc (s.take (20 + N)) then .error 70 else .ok (unL (s.take (20 + N)), s.drop (24 + N)))) ∧ Below w.heap.size w w' := by
  have hsz : (str s).size = s.length := str_size s
  have g0 : ¬ (s.length : Int) = 0 := by omega
  have g1 : (24 : Int) ≤ (s.length : Int) := by omega
  have g2 : (s.length : Int) ≤ 100000 := by omega
  have g3 : (4 : Int) ≤ (s.length : Int) := by omega
  have g4 : (N : Int) ≤ 8192 := by omega
  have g9 : (20 : Int) ≤ (s.length : Int) := by omega
  have g10 : (12 : Int) ≤ (s.length : Int) := by omega
  obtain ⟨M, hM⟩ : ∃ M, M = 24 + N := ⟨_, rfl⟩
  obtain ⟨K, hK⟩ : ∃ K, K = 20 + N := ⟨_, rfl⟩
  obtain ⟨A, hA⟩ : ∃ A, A = s.take 4 := ⟨_, rfl⟩
  obtain ⟨B, hB⟩ : ∃ B, B = s.take K := ⟨_, rfl⟩
  obtain ⟨C, hC⟩ : ∃ C, C = (s.take M).drop K := ⟨_, rfl⟩
  obtain ⟨D, hD⟩ : ∃ D, D = s.drop M := ⟨_, rfl⟩
  obtain ⟨F, hF⟩ : ∃ F, F = (s.take 12).drop 4 := ⟨_, rfl⟩
  obtain ⟨G, hG⟩ : ∃ G, G = (s.take 20).drop 12 := ⟨_, rfl⟩
  obtain ⟨H, hH⟩ : ∃ H, H = (s.take K).drop 20 := ⟨_, rfl⟩
  have e1 := ext0 s 4
  have e2 := ext0 s K
  have e3 := ext_str s K M
  have e4 := extE s M
  have e5 := ext_str s 4 12
  have e6 := ext_str s 12 20
  have e7 := ext_str s 20 K
  rw [← hM, ← hK]
  have hu : unL B = ⟨joinL F, joinL G, H⟩ := by
    unfold unL
    rw [hB, List.take_take, List.take_take, Nat.min_eq_left (by omega), Nat.min_eq_left (by omega), hF, hG, hH]
  rw [← hB, ← hC, ← hD, hu]
  rw [← hA] at e1 hN
  rw [← hB] at e2
  rw [← hC] at e3
  rw [← hD] at e4
  rw [← hF] at e5
  rw [← hG] at e6
  rw [← hH] at e7
  have hAl : A.length ≤ 8 := by rw [hA]; simp; omega
  have hCl : C.length ≤ 8 := by rw [hC]; simp; omega
  have hFl : F.length ≤ 8 := by rw [hF]; simp; omega
  have hGl : G.length ≤ 8 := by rw [hG]; simp; omega
  have hBl : B.length ≤ 100000 := by rw [hB]; simp; omega
  have hnx8 : IntKind.i64.wrap (K : Int) = (K : Int) := IntWalk.i64_in _ ⟨by omega, by omega⟩
  have hnx9 : IntKind.i64.wrap (M : Int) = (M : Int) := IntWalk.i64_in _ ⟨by omega, by omega⟩
  have hnx6 : (20 : Int) + (N : Int) = (K : Int) := by omega
  have hnx7 : (24 : Int) + (N : Int) = (M : Int) := by omega
  have g5 : (M : Int) ≤ (s.length : Int) := by omega
  have g6 : (K : Int) ≤ (M : Int) := by omega
  have g7 : (K : Int) ≤ (s.length : Int) := by omega
  have g8 : ¬ (s.length : Int) < (M : Int) := by omega
  have g11 : (20 : Int) ≤ (K : Int) := by omega
  have hBc := crc_lt B
  obtain ⟨P, hP⟩ : ∃ P, P = joinL C := ⟨_, rfl⟩
  obtain ⟨Q, hQ⟩ : ∃ Q, Q = crc B := ⟨_, rfl⟩
  rw [← hP]
  rw [← hQ] at hBc ⊢
  obtain ⟨X, hX⟩ : ∃ X, X = joinL F := ⟨_, rfl⟩
  obtain ⟨Y, hY⟩ : ∃ Y, Y = joinL G := ⟨_, rfl⟩
  rw [← hX, ← hY]
  obtain ⟨res, hres⟩ : ∃ res : Except Int (Frm × List UInt8), res = if P ≠ Q then .error 70 else .ok (⟨X, Y, H⟩, D) := ⟨_, rfl⟩
  rw [← hres]
  have HRES : Hid (res = if P ≠ Q then .error 70 else .ok (⟨X, Y, H⟩, D)) := hres
  clear hres
  have HT : Hid (N = joinL A ∧ P = joinL C ∧ Q = crc B ∧ X = joinL F ∧ Y = joinL G ∧ A.length ≤ 8 ∧ C.length ≤ 8 ∧ F.length ≤ 8 ∧ G.length ≤ 8 ∧ B.length ≤ 100000) := ⟨hN, hP, hQ, hX, hY, hAl, hCl, hFl, hGl, hBl⟩
  have hQ2 : IntKind.u64.wrap (Q : Int) = (Q : Int) := by rw [IntKind.wrap_u64]; omega
  have hQ3 : (Q : Int) % 18446744073709551616 = (Q : Int) := by omega
  have hN3 : IntKind.i64.wrap (N : Int) = (N : Int) := IntWalk.i64_in _ ⟨by omega, by omega⟩
  have hbx := RBox.new w 0 0 (ByteArray.mk #[])
  have c0 := hbx.c0
  have c1 := hbx.c1
  have c2 := hbx.c2
  have f0 := hbx.f 0
  have f1 := hbx.f 1
  have f2 := hbx.f 2
  have HB : Hid (RBox _ w.heap.size 0 0 (ByteArray.mk #[])) := hbx
  have HC : Hid ((∀ w1, Calls Tryd.prog 18 #[.string (str B)] w1 fun e w' => e = .returned (.int .u32 (Q : Int)) ∧ w' = w1) ∧ (∀ w1, Calls Tryd.prog 25 #[.string (str C)] w1 fun e w' => e = .returned (.int .u64 (P : Int)) ∧ w' = w1) ∧ (∀ w1, Calls Tryd.prog 25 #[.string (str F)] w1 fun e w' => e = .returned (.int .u64 (X : Int)) ∧ w' = w1) ∧ (∀ w1, Calls Tryd.prog 25 #[.string (str G)] w1 fun e w' => e = .returned (.int .u64 (Y : Int)) ∧ w' = w1)) := by
    have a1 := fun w1 => rsum_any B w1 hBl
    have a2 := fun w1 => rnumber_any C w1 hCl
    have a3 := fun w1 => rnumber_any F w1 hFl
    have a4 := fun w1 => rnumber_any G w1 hGl
    rw [← hQ] at a1
    rw [← hP] at a2
    rw [← hX] at a3
    rw [← hY] at a4
    exact ⟨a1, a2, a3, a4⟩
  clear hN hM hK hA hB hC hD hF hG hH hX hY hP hQ hAl hCl hFl hGl hBl h1 hl h2 h3 hbx hu hBc
  go_enter Tryd.func14, Tryd.ntmps14
  go_wp2_with fail
  refine (rnumber_any A _ HT.out.2.2.2.2.2.1).mono ?_
  rw [← HT.out.1]
  rintro e w1 ⟨rfl, rfl⟩
  go_wp2_with fail
  go_quiet ((first | (go_at_call 18; exact Calls.quiet_of_same (HC.out.1 _)) | (go_at_call 25; exact Calls.quiet_of_same (HC.out.2.1 _))))
  obtain ⟨W, hW⟩ : ∃ W, W = (w.alloc (Obj.cells #[Value.int IntKind.u64 0, Value.int IntKind.u64 0, Value.string { data := #[] }] 30)).drewN nq := ⟨_, rfl⟩
  have HX : Hid (Below w.heap.size w W ∧ RBox W w.heap.size 0 0 (str [])) := by
    have b1 : Below (w.heap.size + 1) (w.alloc (Obj.cells #[Value.int IntKind.u64 0, Value.int IntKind.u64 0, Value.string { data := #[] }] 30)) W := by
      rw [hW]
      exact below_drewN (Below.refl (w.heap.size + 1) (w.alloc (Obj.cells #[Value.int IntKind.u64 0, Value.int IntKind.u64 0, Value.string { data := #[] }] 30))) nq
    refine ⟨?_, (b1.block _ (Nat.lt_succ_self _)).trans (RBox.new w 0 0 (str []))⟩
    rw [hW]
    exact below_drewN ((Below.refl _ _).alloc (Nat.le_refl _) _) nq
  rw [← hW]
  clear hW c0 c1 c2 f0 f1 f2 HB
  have f0 := HX.out.2.f 0
  have f1 := HX.out.2.f 1
  have f2 := HX.out.2.f 2
  have c0 := HX.out.2.c0
  have c1 := HX.out.2.c1
  have c2 := HX.out.2.c2
  by_cases hPQ : P = Q
  · have h6 : ((Q : Int) == (P : Int)) = true := by rw [beq_iff_eq]; omega
    have HR : Hid (res = .ok (⟨X, Y, H⟩, D)) := by
      have h9 : res = .ok (⟨X, Y, H⟩, D) := by rw [HRES.out, if_neg (by simpa using hPQ)]
      exact h9
    subst hPQ
    go_wp2_with fail
    go_region_with (first
      | (go_at_call_of 25 (Value.string (str F)); refine (HC.out.2.2.1 _).mono ?_; rintro e w3 ⟨rfl, rfl⟩)
      | (go_at_call_of 25 (Value.string (str G)); refine (HC.out.2.2.2 _).mono ?_; rintro e w4 ⟨rfl, rfl⟩))
    all_goals
      go_wp2_with fail
      exact bodyPost_ret (results_r3 rfl _ (HX.out.2.drew.set _ _ _) rfl _ _ rfl rfl) rfl ⟨by rw [HR.out]; rfl, below_set HX.out.1.drew (Nat.le_refl _) _ _ _⟩
  · have h6 : ¬ (Q : Int) = (P : Int) := by omega
    have HR : Hid (res = .error 70) := by
      have h9 : res = .error 70 := by rw [HRES.out, if_pos hPQ]
      exact h9
    clear hPQ
    go_wp2
    exact bodyPost_ret (results_r3 rfl _ (HX.out.2.set _ _ _) rfl _ _ rfl rfl) rfl ⟨by rw [HR.out]; rfl, below_set HX.out.1 (Nat.le_refl _) _ _ _⟩

theorem rfirst_any (s : List UInt8) (w : World) (hl : s.length ≤ 100000) :
    Calls Tryd.prog 14 #[.string (str s)] w fun e w' => e = .returned (told (firstL s)) ∧ Below w.heap.size w w' := by
  unfold firstL
  by_cases h0 : s = []
  · subst h0; rw [if_pos rfl]; exact rfirst_none w
  · rw [if_neg h0]
    by_cases h1 : s.length < 24
    · rw [if_pos h1]; exact rfirst_short s w h0 h1
    · rw [if_neg h1]
      by_cases h2 : 8192 < joinL (s.take 4)
      · rw [if_pos h2]
        have := rfirst_cap s w (by omega) hl (.inl h2)
        rw [if_pos h2] at this
        exact this
      · rw [if_neg h2]
        by_cases h3 : s.length < 24 + joinL (s.take 4)
        · rw [if_pos h3]
          have := rfirst_cap s w (by omega) hl (.inr h3)
          rw [if_neg h2] at this
          exact this
        · rw [if_neg h3]
          exact rfirst_whole s w (by omega) hl _ rfl (by omega) (by omega)
end Go.Proofs.YtfpiepephljmgaaDoor
