/-
  The reference's GetNat of layer 6; Same of layer 2.
-/
import Derived.Test.YtmmbgfbliekkgaaOctT
namespace Go.Proofs.Ytmmbgfbliekkgaa
open Go.RowKit

/-- What GetNat tells. -/
def NatTold (r : Except Int (List Int × List UInt8)) (xs : List Int) (R : List UInt8) (k : Int) : Prop :=
  match r with
  | .error e => xs = [] ∧ R = [] ∧ k = e
  | .ok (x, r) => xs = x ∧ R = r ∧ k = 0

theorem NatTold.one {r : Except Int (List Int × List UInt8)} {xs ys : List Int} {R S : List UInt8} {k j : Int} (h : NatTold r xs R k) (h2 : NatTold r ys S j) : xs = ys ∧ R = S ∧ k = j := by
  unfold NatTold at h h2
  cases r with
  | error e => exact ⟨h.1.trans h2.1.symm, h.2.1.trans h2.2.1.symm, h.2.2.trans h2.2.2.symm⟩
  | ok p => exact ⟨h.1.trans h2.1.symm, h.2.1.trans h2.2.1.symm, h.2.2.trans h2.2.2.symm⟩

theorem getNat_told (s : List UInt8) (w : World) (hs : s.length ≤ 70000) :
    Calls Try.prog 21 #[.string (str s)] w fun e w' => ∃ (ao : Option Addr) (m c : Nat) (xs : List Int) (R : List UInt8) (k : Int), e = .returned (.tuple #[.slice ao m c, .string (str R), .int .i64 k]) ∧ RowAt w' ao m c xs ∧ NatTold (natL s) xs R k ∧ Below w.heap.size w w' := by
  cases hn : natL s with
  | error k => exact (getNat_err s k w hn (by omega)).mono fun e w' ⟨h1, h2⟩ => ⟨none, 0, 0, [], [], k, h1, RowAt.nil _, ⟨rfl, rfl, rfl⟩, h2⟩
  | ok p =>
    obtain ⟨xs, r⟩ := p
    exact (getNat_ok s xs r w hn (by omega)).mono fun e w' ⟨ao, m, h1, h2, _, h4⟩ => ⟨ao, m, m, xs, r, 0, h1, h2, ⟨rfl, rfl, rfl⟩, h4⟩

theorem limb_chunk (R : List UInt8) (n j i : Nat) (h : 8 * n ≤ R.length) (hi : n = i + 1 + j) : limbAt (R.take (8 * n)) j = ((joinL ((R.take (8 * i + 8)).drop (8 * i)) : Nat) : Int) := by
  have hl : (R.take (8 * n)).length = 8 * n := by rw [List.length_take, Nat.min_eq_left h]
  unfold limbAt
  rw [hl, List.take_take, show 8 * n - 8 * j = 8 * i + 8 by omega, Nat.min_eq_left (by omega)]
  rfl

theorem cell_one_row (W : World) (v : Value) (t : TypeId) : ∀ j u, [v][j]? = some u → (W.alloc (.cells #[v] t)).cell? ((⟨W.heap.size, 0, none⟩ : Addr).add j) = some u := by
  intro j u h
  have hadd : (⟨W.heap.size, 0, none⟩ : Addr).add j = ⟨W.heap.size, j, none⟩ := by unfold Addr.add; split <;> simp_all
  rw [hadd, cell_of_row _ W.heap.size j #[v] t (0, 0) (heap_alloc_new W _)]
  simpa using h

theorem limbsL_next (t : List UInt8) (j : Nat) : limbsL t (j + 1) = limbsL t j ++ [limbAt t j] := by
  unfold limbsL
  rw [List.range_succ, List.map_append]
  rfl

set_option maxRecDepth 100000 in
set_option maxHeartbeats 8000000 in
theorem rgetNat_any (s : List UInt8) (w : World) (hs : s.length ≤ 70000) :
    Calls Try.prog 22 #[.string (str s)] w fun e w' => ∃ (ao : Option Addr) (m c : Nat) (xs : List Int) (R : List UInt8) (k : Int), e = .returned (.tuple #[.slice ao m c, .string (str R), .int .i64 k]) ∧ RowAt w' ao m c xs ∧ NatTold (natL s) xs R k ∧ Below w.heap.size w w' := by
  have HS : Hid (s.length ≤ 70000) := hs
  clear hs
  cases hn : numL s with
  | error k =>
    have hk1 : ¬ k = 0 := numL_err hn
    have HN : Hid (numL s = .error k ∧ NatTold (natL s) [] [] k) := ⟨hn, by unfold natL; rw [hn]; exact ⟨rfl, rfl, rfl⟩⟩
    clear hn
    go_enter Try.func22, Try.ntmps22
    go_wp2_with fail
    refine (rget_any s _ HS.out).mono ?_
    rw [HN.out.1]
    rintro e w1 ⟨rfl, b1⟩
    simp only [toldN]
    have H1 : Hid (Below w.heap.size w w1) := b1
    clear b1
    go_wp2
    go_ret3
    exact ⟨none, 0, 0, [], [], k, rfl, RowAt.nil _, HN.out.2, H1.out⟩
  | ok p =>
    obtain ⟨n, R⟩ := p
    have hr := numL_rest hn
    have hzR : (str R).size = R.length := str_size R
    have hRl : (R.length : Int) ≤ 70000 := by have := HS.out; omega
    by_cases h8 : 8 < n
    · have h8' : (8 : Int) < (n : Int) := by omega
      have HN : Hid (numL s = .ok (n, R) ∧ NatTold (natL s) [] [] 62) := ⟨hn, by unfold natL; rw [hn]; simp only [if_pos h8]; exact ⟨rfl, rfl, rfl⟩⟩
      clear hn hr h8
      go_enter Try.func22, Try.ntmps22
      go_wp2_with fail
      refine (rget_any s _ HS.out).mono ?_
      rw [HN.out.1]
      rintro e w1 ⟨rfl, b1⟩
      simp only [toldN]
      have H1 : Hid (Below w.heap.size w w1) := b1
      clear b1
      go_wp2
      go_ret3
      exact ⟨none, 0, 0, [], [], 62, rfl, RowAt.nil _, HN.out.2, H1.out⟩
    · have h8' : ¬ (8 : Int) < (n : Int) := by omega
      have h8b : (n : Int) ≤ 8 := by omega
      have hwn : IntKind.i64.wrap (n : Int) = (n : Int) := IntWalk.i64_in _ ⟨by omega, by omega⟩
      obtain ⟨M, hM⟩ : ∃ M, M = 8 * n := ⟨_, rfl⟩
      have m2 : (8 : Int) * (n : Int) = (M : Int) := by omega
      have m3 : IntKind.i64.wrap (M : Int) = (M : Int) := IntWalk.i64_in _ ⟨by omega, by omega⟩
      by_cases hlt : R.length < M
      · have hlt' : (R.length : Int) < (M : Int) := by omega
        have HN : Hid (numL s = .ok (n, R) ∧ NatTold (natL s) [] [] 60) := ⟨hn, by unfold natL; rw [hn]; simp only [if_neg h8]; rw [← hM, if_pos hlt]; exact ⟨rfl, rfl, rfl⟩⟩
        clear hn hr h8 hlt hM
        go_enter Try.func22, Try.ntmps22
        go_wp2_with fail
        refine (rget_any s _ HS.out).mono ?_
        rw [HN.out.1]
        rintro e w1 ⟨rfl, b1⟩
        simp only [toldN]
        have H1 : Hid (Below w.heap.size w w1) := b1
        clear b1
        go_wp2
        go_ret3
        exact ⟨none, 0, 0, [], [], 60, rfl, RowAt.nil _, HN.out.2, H1.out⟩
      · have hlt' : ¬ (R.length : Int) < (M : Int) := by omega
        have hle : (M : Int) ≤ (R.length : Int) := by omega
        have hlt5 : decide (R.length < M) = false := decide_eq_false hlt
        have hlt6 : decide ((R.length : Int) < (M : Int)) = false := decide_eq_false hlt'
        have HN : Hid (numL s = .ok (n, R) ∧ n ≤ 8 ∧ M ≤ R.length ∧ M = 8 * n ∧ natL s = if mayB (limbsL (R.take M) n) then .ok (limbsL (R.take M) n, R.drop M) else .error 62) := ⟨hn, by omega, by omega, hM, by unfold natL; rw [hn]; simp only [if_neg h8]; rw [← hM, if_neg hlt]⟩
        obtain ⟨i0, hi, hz0, hz1, hz2⟩ := info_parts (show (Try.prog.info? 22).map (fun i => (i.zero, i.size, i.bytes)) = some (some (.int .u64 0), 1, 8) by kernel_rfl)
        obtain ⟨D, hD⟩ : ∃ D, D = R.drop M := ⟨_, rfl⟩
        have e2 := ext_str R M R.length
        rw [List.take_of_length_le (Nat.le_refl _), ← hD] at e2
        have HD : Hid (D = R.drop M) := hD
        clear hn hr h8 hlt hM hD
        go_enter Try.func22, Try.ntmps22
        go_wp2_with fail
        refine (rget_any s _ HS.out).mono ?_
        rw [HN.out.1]
        rintro e w1 ⟨rfl, b1⟩
        simp only [toldN]
        have H1 : Hid (Below w.heap.size w w1) := b1
        clear b1
        go_wp2_with fail
        go_loopg [9, 10] n (fun gk s9 s10 wr => ∃ (j g cap : Nat), j ≤ n ∧ n - j ≤ gk ∧ s10 = .int .i64 ((n : Int) - 1 - (j : Int)) ∧ s9 = .slice (some ⟨g, 0, none⟩) j cap ∧ Hid (OwnR wr w1.heap.size g j cap (limbsL (R.take M) j) ∧ Below w1.heap.size w1 wr))
        case atStart => exact ⟨0, w1.heap.size, 0, Nat.zero_le _, by omega, by go_num, rfl, OwnR.nil _, (Below.refl _ _).alloc (Nat.le_refl _) _⟩
        case round =>
          obtain ⟨j, g, cap, hj, hjn, rfl, rfl, hO⟩ := hrel
          by_cases h0 : j = n
          · subst h0
            have e0 : (j : Int) - 1 - (j : Int) = -1 := by omega
            rw [e0]
            have hrow := hO.out.1.row (limbsL_limbs _ _)
            obtain ⟨b, hb⟩ : ∃ b, b = mayB (limbsL (R.take M) j) := ⟨_, rfl⟩
            have HR : Hid (RowAt wr (some ⟨g, 0, none⟩) j cap (limbsL (R.take M) j) ∧ Below w.heap.size w wr ∧ b = mayB (limbsL (R.take M) j)) := ⟨hrow, chain H1.out hO.out.2, hb⟩
            clear hO e0 hrow hb
            go_wp2_with fail
            refine (rmay_val _ _ _ _ _ HR.out.1 b (by rw [HR.out.2.2]; exact mayB_iff _)).mono ?_
            rintro e w2 ⟨rfl, rfl⟩
            cases b with
            | true =>
              have hN2 := HN.out.2.2.2.2
              rw [← HR.out.2.2, if_pos rfl] at hN2
              have HF : Hid (NatTold (natL s) (limbsL (R.take M) j) D 0) := by rw [hN2, HD.out]; exact ⟨rfl, rfl, rfl⟩
              clear hN2
              go_wp2_with fail
              go_quiet (fail)
              go_wp2
              go_ret3
              exact ⟨_, _, _, _, D, 0, rfl, HR.out.1.below (below_drewN (Below.refl _ _) _), HF.out, below_drewN HR.out.2.1 _⟩
            | false =>
              have hN2 := HN.out.2.2.2.2
              rw [← HR.out.2.2, if_neg (by decide)] at hN2
              have HF : Hid (NatTold (natL s) [] [] 62) := by rw [hN2]; exact ⟨rfl, rfl, rfl⟩
              clear hN2
              go_wp2
              go_ret3
              exact ⟨none, 0, 0, [], [], 62, rfl, RowAt.nil _, HF.out, HR.out.2.1⟩
          · obtain ⟨i, hi9⟩ : ∃ i, n = i + 1 + j := ⟨n - 1 - j, by omega⟩
            have hij : (n : Int) - 1 - (j : Int) = (i : Int) := by omega
            rw [hij]
            obtain ⟨P, hP⟩ : ∃ P, P = 8 * i := ⟨_, rfl⟩
            obtain ⟨Q, hQ⟩ : ∃ Q, Q = 8 * i + 8 := ⟨_, rfl⟩
            obtain ⟨C, hC⟩ : ∃ C, C = (R.take Q).drop P := ⟨_, rfl⟩
            have e1 := ext_str R P Q
            rw [← hC] at e1
            have hC8 : C.length ≤ 8 := by rw [hC]; simp; omega
            obtain ⟨X, hX⟩ : ∃ X, X = joinL C := ⟨_, rfl⟩
            have hch := limb_chunk R n j i (by have := HN.out.2.2.1; have := HN.out.2.2.2.1; omega) hi9
            rw [← HN.out.2.2.2.1, ← hQ, ← hP, ← hC, ← hX] at hch
            have p1 : (8 : Int) * (i : Int) = (P : Int) := by omega
            have p2 : (P : Int) + 8 = (Q : Int) := by omega
            have p3 : IntKind.i64.wrap (P : Int) = (P : Int) := IntWalk.i64_in _ ⟨by omega, by omega⟩
            have p4 : IntKind.i64.wrap (Q : Int) = (Q : Int) := IntWalk.i64_in _ ⟨by omega, by omega⟩
            have p5 : (P : Int) ≤ (Q : Int) := by omega
            have p6 : (Q : Int) ≤ (R.length : Int) := by have := HN.out.2.2.1; have := HN.out.2.2.2.1; omega
            have hi1 : (0 : Int) ≤ (i : Int) := by omega
            have hi2 : (i : Int) ≤ 7 := by omega
            have hj9 : j ≤ 8 := by omega
            have HK : Hid (n = i + 1 + j ∧ X = joinL C ∧ C.length ≤ 8 ∧ limbsL (R.take M) (j + 1) = limbsL (R.take M) j ++ [(X : Int)] ∧ n - j ≤ gk ∧ OwnR wr w1.heap.size g j cap (limbsL (R.take M) j) ∧ Below w1.heap.size w1 wr) := ⟨hi9, hX, hC8, by rw [limbsL_next, hch], hjn, hO.out.1, hO.out.2⟩
            clear hi9 hX hC8 hch hP hQ hC hij hO h0 hjn hj
            go_wp2_with fail
            refine (rnumber_any C _ HK.out.2.2.1).mono ?_
            rw [← HK.out.2.1]
            rintro e w2 ⟨rfl, rfl⟩
            have HO : Hid (OwnR w2 w1.heap.size g j cap (limbsL (R.take M) j) ∧ Below w1.heap.size w1 w2) := HK.out.2.2.2.2.2
            go_wp2_with (at_builtin; refine wpList_append_own _ rfl (.tmp 36) (.tmp 45) 24 rfl w1.heap.size 22 i0 (.int .u64 0) 1 8 (by kernel_rfl) hi hz0 hz1 hz2 rfl (by decide) _ _ _ rfl (World.ownsRow.alloc HO.out.1 _) ⟨w2.heap.size, 0, none⟩ 1 1 [.int .u64 (X : Int)] rfl rfl (cell_one_row _ _ _) (by simp [Value.oneCell']) (by unfold maxLen; omega) (by omega) (by have := HO.out.2.size; simp; omega) ?_; intro v' w3 ho3 hg3 hn3; obtain ⟨g', cap', rfl⟩ := ownsRow_succ ho3; have H3 : Hid (w3.ownsRow w1.heap.size 22 1 (.slice (some ⟨g', 0, none⟩) (j + 1) cap') (j + 1) ((limbsL (R.take M) j).map (Value.int .u64) ++ [.int .u64 (X : Int)]) ∧ (w2.alloc (.cells #[.int .u64 (X : Int)] 22)).grownBy w3 (some g)) := ⟨ho3, hg3⟩; clear ho3 hg3 hn3)
            go_roundg (n - (j + 1))
            case measure => have := HK.out.1; have := HK.out.2.2.2.2.1; omega
            case rel =>
              refine ⟨j + 1, g', cap', by have := HK.out.1; omega, Nat.le_refl _, ?_, rfl, ?_, ?_⟩
              · congr 1
                have := HK.out.1
                omega
              · rw [HK.out.2.2.2.1]
                unfold OwnR
                rw [List.map_append]
                exact H3.out.1
              · exact below_grow (HO.out.2.alloc HO.out.2.size _) H3.out.2 HO.out.1.lt.1
end Go.Proofs.Ytmmbgfbliekkgaa
