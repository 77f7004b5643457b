/-
  What any bytes begin by, in one word each; OctetOne, walked.
-/
import Derived.Test.YtmmbgfbliekkgaaK1
import Derived.Test.YtmmbgfbliekkgaaOctF
import Derived.Deep.Cut
import Derived.Deep.CutRange
import Derived.Deep.CutBlock
namespace Go.Proofs.Ytmmbgfbliekkgaa
open Go.RowKit

theorem numL_err {s : List UInt8} {k : Int} (h : numL s = .error k) : k ≠ 0 := by
  cases s with
  | nil => cases h; decide
  | cons c t =>
    simp only [numL] at h
    split at h
    · cases h; decide
    · split at h
      · cases h; decide
      · split at h
        · cases h; decide
        · cases h
theorem textL_err {s : List UInt8} {k : Int} (h : textL s = .error k) : k ≠ 0 := by
  unfold textL at h
  split at h
  · rename_i e hn; cases h; exact numL_err hn
  · split at h
    · cases h; decide
    · cases h
theorem natL_err {s : List UInt8} {k : Int} (h : natL s = .error k) : k ≠ 0 := by
  unfold natL at h
  split at h
  · rename_i e hn; cases h; exact numL_err hn
  · split at h
    · cases h; decide
    · split at h
      · cases h; decide
      · split at h
        · cases h
        · cases h; decide
theorem RatIs.err {s : List UInt8} {k : Int} (h : RatIs s (.error k)) : k ≠ 0 := by
  rcases h.fault with ⟨_, rfl⟩ | ⟨c, t, _, ⟨_, rfl⟩ | ⟨_, h1⟩ | ⟨_, _, _, _, h2⟩ | ⟨_, _, _, _, _, _, _, _, rfl⟩⟩
  · decide
  · decide
  · exact natL_err h1
  · exact natL_err h2
  · decide

theorem get_any (s : List UInt8) (w : World) (hs : s.length ≤ 70000) :
    Calls Try.prog 19 #[.string (str s)] w fun e w' => ∃ (n : Nat) (R : List UInt8) (k : Int), e = .returned (.tuple #[.int .u64 n, .string (str R), .int .i64 k]) ∧ n < 18446744073709551616 ∧ R.length ≤ s.length ∧ (k = 0 → putL n ++ R = s) ∧ Below w.heap.size w w' := by
  cases hn : numL s with
  | error k => exact (get_err s k w hn (by omega)).mono fun e w' ⟨h1, h2⟩ => ⟨0, [], k, h1, by decide, Nat.zero_le _, fun e => absurd e (numL_err hn), h2⟩
  | ok p =>
    obtain ⟨n, r⟩ := p
    have h3 := numL_rest hn
    exact (get_ok s n r w hn (by omega)).mono fun e w' ⟨h1, h2⟩ => ⟨n, r, 0, h1, by have := h3.2; omega, h3.1, fun _ => numL_one s n r hn, h2⟩

theorem getText_any (s : List UInt8) (w : World) (hs : s.length ≤ 70000) :
    Calls Try.prog 25 #[.string (str s)] w fun e w' => ∃ (T R : List UInt8) (k : Int), e = .returned (.tuple #[.string (str T), .string (str R), .int .i64 k]) ∧ T.length ≤ s.length ∧ R.length ≤ s.length ∧ (k = 0 → putT T ++ R = s) ∧ Below w.heap.size w w' := by
  cases hn : textL s with
  | error k => exact (getText_err s k w hn (by omega)).mono fun e w' ⟨h1, h2⟩ => ⟨[], [], k, h1, Nat.zero_le _, Nat.zero_le _, fun e => absurd e (textL_err hn), h2⟩
  | ok p =>
    obtain ⟨T, r⟩ := p
    have h3 := textL_one s T r hn
    have h4 := congrArg List.length h3.1
    rw [List.length_append] at h4
    exact (getText_ok s T r w hn (by omega)).mono fun e w' ⟨h1, h2⟩ => ⟨T, r, 0, h1, h3.2, by omega, fun _ => h3.1, h2⟩

theorem getNat_any (s : List UInt8) (w : World) (hs : s.length ≤ 70000) :
    Calls Try.prog 21 #[.string (str s)] w fun e w' => ∃ (ao : Option Addr) (m : Nat) (xs : List Int) (R : List UInt8) (k : Int), e = .returned (.tuple #[.slice ao m m, .string (str R), .int .i64 k]) ∧ RowAt w' ao m m xs ∧ May xs ∧ R.length ≤ s.length ∧ (k = 0 → putN xs ++ R = s) ∧ Below w.heap.size w w' := by
  cases hn : natL s with
  | error k => exact (getNat_err s k w hn (by omega)).mono fun e w' ⟨h1, h2⟩ => ⟨none, 0, [], [], k, h1, RowAt.nil _, May.nil, Nat.zero_le _, fun e => absurd e (natL_err hn), h2⟩
  | ok p =>
    obtain ⟨xs, r⟩ := p
    have h3 := natL_one s xs r hn
    exact (getNat_ok s xs r w hn (by omega)).mono fun e w' ⟨ao, m, h1, h2, _, h4⟩ => ⟨ao, m, xs, r, 0, h1, h2, h3.2.1, h3.2.2.2, fun _ => h3.1, h4⟩

theorem getRat_any (s : List UInt8) (w : World) (hs : s.length ≤ 70000) :
    Calls Try.prog 23 #[.string (str s)] w fun e w' => ∃ (neg : Bool) (no : Option Addr) (nn : Nat) (eo : Option Addr) (en : Nat) (q : RatL) (R : List UInt8) (k : Int), e = .returned (.tuple #[.agg #[.bool neg, .slice no nn nn, .slice eo en en], .string (str R), .int .i64 k]) ∧ RatAt w' no nn nn eo en en q ∧ q.neg = neg ∧ R.length ≤ s.length ∧ (k = 0 → MayR q ∧ putR q ++ R = s) ∧ Below w.heap.size w w' := by
  obtain ⟨res, hn⟩ := RatIs.ex s
  cases res with
  | error k => exact (getRat_err s k w hn hs).mono fun e w' ⟨h1, h2⟩ => ⟨false, none, 0, none, 0, rat0, [], k, h1, RatAt.zero _, rfl, Nat.zero_le _, fun e => absurd e hn.err, h2⟩
  | ok p =>
    obtain ⟨q, r⟩ := p
    have h3 := hn.one
    have h4 := congrArg List.length h3.1
    rw [List.length_append] at h4
    exact (getRat_ok s q r w hn hs).mono fun e w' ⟨no, nn, eo, en, h1, h2, h5⟩ => ⟨q.neg, no, nn, eo, en, q, r, 0, h1, h2, rfl, by omega, fun _ => ⟨h3.2, h3.1⟩, h5⟩

theorem putR_small {q : RatL} (h : MayR q) : (putR q).length ≤ 300 := by
  unfold putR
  have h1 := putN_small h.num
  have h2 := putN_small h.den
  rw [str_size] at h1 h2
  rw [List.length_cons, List.length_append]
  omega

theorem putRat_any (neg : Bool) (no : Option Addr) (nn nc : Nat) (eo : Option Addr) (en ec : Nat) (r : RatL) (w : World) (h : RatAt w no nn nc eo en ec r) (hg : r.neg = neg) :
    Calls Try.prog 13 #[.agg #[.bool neg, .slice no nn nc, .slice eo en ec]] w fun e w' => ∃ (P : List UInt8) (k : Int), e = .returned (.tuple #[.string (str P), .int .i64 k]) ∧ P.length ≤ 300 ∧ (MayR r → P = putR r ∧ k = 0) ∧ (¬ MayR r → P = [] ∧ k = 1) ∧ Below w.heap.size w w' := by
  by_cases hm : MayR r
  · exact (putRat_ok neg no nn nc eo en ec r w h hg hm).mono fun e w' ⟨h1, h2⟩ => ⟨putR r, 0, h1, putR_small hm, fun _ => ⟨rfl, rfl⟩, fun hn => absurd hm hn, h2⟩
  · exact (putRat_bad neg no nn nc eo en ec r w h hg hm).mono fun e w' ⟨h1, h2⟩ => ⟨[], 1, h1, Nat.zero_le _, fun hn => absurd hn hm, fun _ => ⟨rfl, rfl⟩, h2⟩

theorem put_n (n : Nat) (w : World) (h : n < 18446744073709551616) : Calls Try.prog 15 #[.int .u64 (n : Int)] w fun e w' => e = .returned (.string (str (putL n))) ∧ Below w.heap.size w w' := by
  have := put_s (n : Int) w (by omega) (by unfold BB; omega)
  rwa [Int.toNat_natCast] at this

theorem putL_small (n : Nat) (h : n < 18446744073709551616) : (putL n).length ≤ 9 := by
  rw [putL_length]
  have := cntB_le n (by omega)
  omega

set_option maxRecDepth 100000 in
set_option maxHeartbeats 8000000 in
theorem one_walk (s : List UInt8) (w : World) (hl : s.length ≤ 9223372036854775807) :
    Calls Try.prog 6 #[.string (str s)] w fun e w' => e = .returned (.bool true) ∧ Below w.heap.size w w' := by
  have hsz : (str s).size = s.length := str_size s
  have hsi : (s.length : Int) ≤ 9223372036854775807 := by omega
  clear hl
  by_cases hl : 1000 < s.length
  · have hl2 : (1000 : Int) < (s.length : Int) := by omega
    go_enter Try.func6, Try.ntmps6
    go_wp2_with (go_at_call 10; refine (shown_any _).mono ?_; rintro e w3 ⟨rfl, b1⟩; have H1 : Hid (Below w.heap.size w w3) := b1; clear b1)
    go_ret
    exact ⟨rfl, H1.out⟩
  · have hl2 : ¬ (1000 : Int) < (s.length : Int) := by omega
    have hl3 : decide ((1000 : Int) < (s.length : Int)) = false := decide_eq_false hl2
    have HS : Hid (s.length ≤ 1000) := by
      have h9 : s.length ≤ 1000 := by omega
      exact h9
    have hq : ((str s).toList == (str s).toList) = true := by simp
    clear hl
    go_enter Try.func6, Try.ntmps6
    go_wp2_with fail
    refine (shown_any _).mono ?_
    rintro e w1 ⟨rfl, b1⟩
    have H1 : Hid (Below w.heap.size w w1) := b1
    clear b1
    go_wp2_with fail
    refine (get_any s _ (by have := HS.out; omega)).mono ?_
    rintro e w2 ⟨n, R, k, rfl, hn, hR, hk, b2⟩
    have H2 : Hid (n < 18446744073709551616 ∧ R.length ≤ s.length ∧ (k = 0 → putL n ++ R = s) ∧ Below w.heap.size w w2) := ⟨hn, hR, hk, chain H1.out b2⟩
    clear hn hR hk b2 H1
    go_upto_region 4 with fail
    go_cut [42] from 33 to 42 (fun s42 wx => s42 = .bool false ∧ Hid (Below w.heap.size w wx))
    case first =>
      by_cases hk : k = 0
      · have h1 := H2.out.2.2.1 hk
        subst hk
        obtain ⟨P, hP⟩ : ∃ P, P = putL n := ⟨_, rfl⟩
        rw [← hP] at h1
        have q1 : str P ++ str R = str s := by rw [str_append, h1]
        have z1 : ((str P).size : Int) ≤ 8388608 := by rw [str_size, hP]; have := putL_small n H2.out.1; omega
        have z2 : ((str R).size : Int) ≤ 8388608 := by rw [str_size]; have := H2.out.2.1; have := HS.out; omega
        have HP : Hid (P = putL n) := hP
        clear h1 hP
        go_wp2_with fail
        refine (put_n n _ H2.out.1).mono ?_
        rw [← HP.out]
        rintro e w3 ⟨rfl, b3⟩
        have H3 : Hid (Below w.heap.size w w3) := chain H2.out.2.2.2 b3
        clear b3
        go_wp2_with fail
        go_meet
        case rel => exact ⟨rfl, H3.out⟩
      · have hk2 : (k == 0) = false := by rw [beq_eq_false_iff_ne]; exact hk
        have H3 : Hid (Below w.heap.size w w2) := H2.out.2.2.2
        go_wp2_with fail
        go_meet
        case rel => exact ⟨rfl, H3.out⟩
    case rest =>
      obtain ⟨rfl, hb⟩ := hcut
      rename World => w3
      clear H2
      go_wp2_with fail
      refine (getText_any s _ (by have := HS.out; omega)).mono ?_
      rintro e w4 ⟨T, R4, k4, rfl, hT4, hR4, hk4, b4⟩
      have H4 : Hid (T.length ≤ s.length ∧ R4.length ≤ s.length ∧ (k4 = 0 → putT T ++ R4 = s) ∧ Below w.heap.size w w4) := ⟨hT4, hR4, hk4, chain hb.out b4⟩
      clear hT4 hR4 hk4 b4 hb
      go_upto_region 7 with fail
      go_cut [58] from 49 to 58 (fun s58 wx => s58 = .bool false ∧ Hid (Below w.heap.size w wx))
      case first =>
        by_cases hk : k4 = 0
        · have h1 := H4.out.2.2.1 hk
          subst hk
          have hsm : (putL T.length).length ≤ 9 := putL_small T.length (by have := H4.out.1; have := HS.out; omega)
          obtain ⟨P, hP⟩ : ∃ P, P = putT T := ⟨_, rfl⟩
          have hPl : P.length ≤ 1009 := by rw [hP]; unfold putT; rw [List.length_append]; have := H4.out.1; have := HS.out; omega
          rw [← hP] at h1
          have q1 : str P ++ str R4 = str s := by rw [str_append, h1]
          have z1 : ((str P).size : Int) ≤ 8388608 := by rw [str_size]; omega
          have z2 : ((str R4).size : Int) ≤ 8388608 := by rw [str_size]; have := H4.out.2.1; have := HS.out; omega
          have HP : Hid (P = putT T) := hP
          clear h1 hP hsm hPl
          go_wp2_with fail
          refine (putText_any T _ (by have := H4.out.1; have := HS.out; omega)).mono ?_
          rw [← HP.out]
          rintro e w5 ⟨rfl, b5⟩
          have H5 : Hid (Below w.heap.size w w5) := chain H4.out.2.2.2 b5
          clear b5
          go_wp2_with fail
          go_meet
          case rel => exact ⟨rfl, H5.out⟩
        · have hk2 : (k4 == 0) = false := by rw [beq_eq_false_iff_ne]; exact hk
          have H5 : Hid (Below w.heap.size w w4) := H4.out.2.2.2
          go_wp2_with fail
          go_meet
          case rel => exact ⟨rfl, H5.out⟩
      case rest =>
        obtain ⟨rfl, hb⟩ := hcut
        rename World => w5
        clear H4
        go_wp2_with fail
        refine (getNat_any s _ (by have := HS.out; omega)).mono ?_
        rintro e w6 ⟨ao, m, xs, R6, k6, rfl, ro6, hm6, hR6, hk6, b6⟩
        have H6 : Hid (RowAt w6 ao m m xs ∧ May xs ∧ R6.length ≤ s.length ∧ (k6 = 0 → putN xs ++ R6 = s) ∧ Below w.heap.size w w6) := ⟨ro6, hm6, hR6, hk6, chain hb.out b6⟩
        clear ro6 hm6 hR6 hk6 b6 hb
        obtain ⟨X, hX⟩ : ∃ X, X = putN xs := ⟨_, rfl⟩
        have hXs := putN_small H6.out.2.1
        rw [← hX] at hXs
        have HX : Hid (X = putN xs) := hX
        clear hX
        go_wp2_with fail
        refine (putNat_ok ao m m xs _ H6.out.1 H6.out.2.1).mono ?_
        rw [← HX.out]
        rintro e w7 ⟨rfl, b7⟩
        have H7 : Hid (R6.length ≤ s.length ∧ (k6 = 0 → X ++ R6 = s) ∧ Below w.heap.size w w7) := ⟨H6.out.2.2.1, by rw [HX.out]; exact H6.out.2.2.2.1, chain H6.out.2.2.2.2 b7⟩
        clear b7 H6 HX
        go_upto_region 11 with fail
        go_cut [78] from 70 to 78 (fun s78 wx => s78 = .bool false ∧ wx = w7)
        case first =>
          by_cases hk : k6 = 0
          · have h1 := H7.out.2.1 hk
            subst hk
            have q1 : str X ++ str R6 = str s := by rw [str_append, h1]
            have z1 : ((str X).size : Int) ≤ 8388608 := by omega
            have z2 : ((str R6).size : Int) ≤ 8388608 := by rw [str_size]; have := H7.out.1; have := HS.out; omega
            clear h1
            go_wp2_with fail
            go_meet
            case rel => exact ⟨rfl, rfl⟩
          · have hk2 : (k6 == 0) = false := by rw [beq_eq_false_iff_ne]; exact hk
            go_wp2_with fail
            go_meet
            case rel => exact ⟨rfl, rfl⟩
        case rest =>
          obtain ⟨rfl, rfl⟩ := hcut
          have hb : Hid (Below w.heap.size w wc) := H7.out.2.2
          rename World => w8
          clear H7 hXs
          go_wp2_with fail
          refine (getRat_any s _ (by have := HS.out; omega)).mono ?_
          rintro e w9 ⟨neg, no, nn, eo, en, q, R9, k9, rfl, ra9, hn9, hR9, hk9, b9⟩
          have hb9 : Below w9.heap.size w9 (w9.alloc (.cells #[.bool neg, .slice no nn nn, .slice eo en en] 26)) := (Below.refl _ _).alloc (Nat.le_refl _) _
          have H9 : Hid (RatAt (w9.alloc (.cells #[.bool neg, .slice no nn nn, .slice eo en en] 26)) no nn nn eo en en q ∧ q.neg = neg ∧ R9.length ≤ s.length ∧ (k9 = 0 → MayR q ∧ putR q ++ R9 = s) ∧ Below w.heap.size w (w9.alloc (.cells #[.bool neg, .slice no nn nn, .slice eo en en] 26))) := ⟨ra9.below hb9, hn9, hR9, hk9, chain (chain hb.out b9) hb9⟩
          clear ra9 hn9 hR9 hk9 b9 hb9 hb
          go_wp2_with fail
          refine (putRat_any neg no nn nn eo en en q _ H9.out.1 H9.out.2.1).mono ?_
          rintro e w10 ⟨Y, j, rfl, hY, hj, hj2, b10⟩
          have H10 : Hid (Y.length ≤ 300 ∧ (MayR q → Y = putR q ∧ j = 0) ∧ Below w.heap.size w w10) := ⟨hY, hj, chain H9.out.2.2.2.2 b10⟩
          clear hY hj hj2 b10
          by_cases hk : k9 = 0
          · obtain ⟨h0, h1⟩ := H9.out.2.2.2.1 hk
            have h2 := (H10.out.2.1 h0).1
            rw [← h2] at h1
            subst hk
            have q1 : str Y ++ str R9 = str s := by rw [str_append, h1]
            have z1 : ((str Y).size : Int) ≤ 8388608 := by rw [str_size]; have := H10.out.1; omega
            have z2 : ((str R9).size : Int) ≤ 8388608 := by rw [str_size]; have := H9.out.2.2.1; have := HS.out; omega
            clear h0 h1 h2
            go_wp2_with fail
            go_ret
            exact ⟨rfl, H10.out.2.2⟩
          · have hk2 : (k9 == 0) = false := by rw [beq_eq_false_iff_ne]; exact hk
            go_wp2_with fail
            go_ret
            exact ⟨rfl, H10.out.2.2⟩
end Go.Proofs.Ytmmbgfbliekkgaa
