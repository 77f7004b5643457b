/-
  The reference's Get of layer 11.
-/
import Derived.Test.YtnedghhcidohnaaGreatLC1
import Derived.Test.YtnedghhcidohnaaGreatPressE
import Derived.Test.YtnedghhcidohnaaGreatJZ1
import Derived.Test.YtnedghhcidohnaaGreatJQ1
import Derived.Test.YtnedghhcidohnaaGreatLD1
import Derived.Test.YtnedghhcidohnaaGreatJW1
import Derived.Test.YtnedghhcidohnaaGreatJW1
namespace Go.Proofs.YtnedghhcidohnaaGreat
open Go.RowKit

theorem rget_no (s : List UInt8) (k : Int) (w : World) (hn : numL s = .error k) (hs : s.length ≤ 700000) : Calls Tryz.prog 31 #[.string (str s)] w fun e w' => e = .returned (.tuple #[.int .u64 0, .string (str []), .int .i64 k]) ∧ Below w.heap.size w w' := by
  have := rget_any s w hs
  rw [hn] at this
  exact this
theorem rget_yes (s : List UInt8) (n : Nat) (b : List UInt8) (w : World) (hn : numL s = .ok (n, b)) (hs : s.length ≤ 700000) : Calls Tryz.prog 31 #[.string (str s)] w fun e w' => e = .returned (.tuple #[.int .u64 (n : Int), .string (str b), .int .i64 0]) ∧ Below w.heap.size w w' := by
  have := rget_any s w hs
  rw [hn] at this
  exact this
theorem four_of {R : List UInt8} (hl : ¬ R.length < 4) : ∃ c0 c1 c2 c3 r, R = c0 :: c1 :: c2 :: c3 :: r := by
  match R, hl with
  | [], h => simp at h
  | [_], h => simp at h
  | [_, _], h => simp at h
  | [_, _, _], h => simp at h
  | a :: b :: c :: d :: r, _ => exact ⟨a, b, c, d, r, rfl⟩

set_option maxRecDepth 100000 in
set_option maxHeartbeats 8000000 in
theorem rgetPoly_b (o : Int) (s : List UInt8) (res : Except Int (List TL × List UInt8)) (w : World) (h : GetIs o s res) (hs : s.length ≤ 700000) :
    Calls Tryz.prog 15 #[.int .i64 o, .string (str s)] w fun e w' => ∃ (lo : Option Addr) (n cap : Nat) (qs : List TP) (ms : List TL) (R : List UInt8) (k : Int),
      e = .returned (.tuple #[.slice lo n cap, .string (str R), .int .i64 k]) ∧ PolyAt w' lo n cap qs ms ∧ Told res ms R k ∧ R.length ≤ s.length ∧ Below w.heap.size w w' ∧ (∀ a, lo = some a → CleanB w' 49 a.block) := by
  obtain ⟨r1, h1, h2⟩ := h
  obtain ⟨I0, hi0, hz0, hz1, hz2⟩ := info_parts info39
  have H : Hid (ManyIs TmIs 60 s r1 ∧ GetAft o r1 res ∧ s.length ≤ 700000) := ⟨h1, h2, hs⟩
  rcases hnum : numL s with k | ⟨n, b⟩
  · have hr1 : r1 = .error k := by unfold ManyIs at h1; rw [hnum] at h1; exact h1
    have hk := numL_err hnum
    have HR : Hid (res = .error k ∧ numL s = .error k) := ⟨by rw [hr1] at h2; exact h2, hnum⟩
    clear h1 h2 hs hr1 hnum hi0 hz0 hz1 hz2
    go_enter Tryz.func15, Tryz.ntmps15
    go_wp2_with fail
    refine (rget_no s k _ HR.out.2 H.out.2.2).mono ?_
    rintro e w1 ⟨rfl, q1⟩
    have H1 : Hid (Below w.heap.size w w1) := q1
    clear q1
    go_wp2_with fail
    go_ret3
    exact ⟨none, 0, 0, [], [], [], k, rfl, PolyAt.nil _, by rw [HR.out.1]; exact ⟨rfl, rfl, rfl⟩, by simp, H1.out, fun a ha => by cases ha⟩
  · have hfew := numL_few hnum
    by_cases hn : 60 < n
    · have hr1 : r1 = .error 62 := by unfold ManyIs at h1; rw [hnum] at h1; dsimp only at h1; rw [if_pos hn] at h1; exact h1
      have hn' : (60 : Int) < (n : Int) := by omega
      have HR : Hid (res = .error 62 ∧ numL s = .ok (n, b)) := ⟨by rw [hr1] at h2; exact h2, hnum⟩
      clear h1 h2 hs hr1 hnum hi0 hz0 hz1 hz2 hfew hn
      go_enter Tryz.func15, Tryz.ntmps15
      go_wp2_with fail
      refine (rget_yes s n b _ HR.out.2 H.out.2.2).mono ?_
      rintro e w1 ⟨rfl, q1⟩
      have H1 : Hid (Below w.heap.size w w1) := q1
      clear q1
      go_wp2_with fail
      go_ret3
      exact ⟨none, 0, 0, [], [], [], 62, rfl, PolyAt.nil _, by rw [HR.out.1]; exact ⟨rfl, rfl, rfl⟩, by simp, H1.out, fun a ha => by cases ha⟩
    · have hE : EachIs TmIs n b r1 := by unfold ManyIs at h1; rw [hnum] at h1; dsimp only at h1; rw [if_neg hn] at h1; exact h1
      have hn' : ¬ (60 : Int) < (n : Int) := by omega
      have hnn : (n : Int) ≤ 60 := by omega
      have hn0 : (0 : Int) ≤ (n : Int) := by omega
      have HR : Hid (EachIs TmIs n b r1 ∧ numL s = .ok (n, b) ∧ n ≤ 60 ∧ b.length ≤ s.length) := ⟨hE, hnum, by omega, hfew.2⟩
      clear h1 h2 hs hE hnum hfew hn
      go_enter Tryz.func15, Tryz.ntmps15
      go_wp2_with fail
      refine (rget_yes s n b _ HR.out.2.1 H.out.2.2).mono ?_
      rintro e w1 ⟨rfl, q1⟩
      have HW : Hid (Below w.heap.size w (w1.alloc (.cells #[] 49)) ∧ TermsOwn (w1.alloc (.cells #[] 49)) w.heap.size (.slice (some ⟨w1.heap.size, 0, none⟩) 0 0) [] []) := ⟨chain q1 (bel1 _ _), TermsOwn.made w1 _ q1.size⟩
      clear q1
      go_wp2_with fail
      go_loopg [8, 10, 11] n (fun m s8 s10 s11 wr => ∃ (j : Nat) (qs : List TP) (ms : List TL) (B : List UInt8), j ≤ n ∧ n - j ≤ m ∧ s11 = .int .u64 j ∧ s8 = .string (str B) ∧ Hid (Below w.heap.size w wr ∧ TermsOwn wr w.heap.size s10 qs ms ∧ qs.length = j ∧ Upto TmIs n r1 j ms B ∧ B.length ≤ s.length))
      case atStart => exact ⟨0, [], [], b, Nat.zero_le _, by omega, rfl, rfl, HW.out.1, HW.out.2, rfl, Upto.start HR.out.1, HR.out.2.2.2⟩
      case round =>
        obtain ⟨j, qs, ms, B, hj, hjr, rfl, rfl, hT⟩ := hrel
        obtain ⟨lo2, cap2, rfl, _⟩ := hT.out.2.1.poly
        by_cases h0 : j < n
        · have hjn : (j : Int) < (n : Int) := by omega
          have hj0 : (0 : Int) ≤ (j : Int) := by omega
          obtain ⟨r, hr, he, ho⟩ := hT.out.2.2.2.1.step h0
          obtain ⟨r0, hr0, haft⟩ := hr
          have HJ : Hid (j < n ∧ n - j ≤ _ ∧ TmIs B r ∧ (∀ e, r = .error e → r1 = .error e) ∧ (∀ x c, r = .ok (x, c) → Upto TmIs n r1 (j + 1) (ms ++ [x]) c) ∧ RatIs B r0 ∧ TmAft r0 r) := ⟨h0, hjr, ⟨r0, hr0, haft⟩, he, ho, hr0, haft⟩
          clear hj hjr h0 he ho hr0 haft
          go_wp2_with fail
          refine (rgetRat_any B r0 _ HJ.out.2.2.2.2.2.1 (by have := hT.out.2.2.2.2; have := H.out.2.2; omega)).mono ?_
          rintro e w3 ⟨no, nn, nc, eo, en, ec, q, R, k, rfl, q1, q2, q3⟩
          have c2 := bel1 w3 (.cells #[.bool q.neg, .slice no nn nc, .slice eo en ec] 45)
          have rb := RBox.new w3 q.neg no nn nc eo en ec
          have q4 := chain q3 c2
          have H1 : Hid (RatAt (w3.alloc (.cells #[.bool q.neg, .slice no nn nc, .slice eo en ec] 45)) no nn nc eo en ec q ∧ Below w.heap.size w (w3.alloc (.cells #[.bool q.neg, .slice no nn nc, .slice eo en ec] 45)) ∧ RBox (w3.alloc (.cells #[.bool q.neg, .slice no nn nc, .slice eo en ec] 45)) w3.heap.size q.neg no nn nc eo en ec ∧ TermsOwn (w3.alloc (.cells #[.bool q.neg, .slice no nn nc, .slice eo en ec] 45)) w.heap.size (.slice lo2 qs.length cap2) qs ms) :=
            ⟨q1.below c2, chain hT.out.1 q4, rb, hT.out.2.1.below q4⟩
          clear q1 q3 q4 c2
          rcases r0 with e | ⟨x, b'⟩
          · obtain ⟨rfl, rfl, rfl⟩ := q2
            have hk := beq_eq_false_iff_ne.2 HJ.out.2.2.2.2.2.1.err
            have HE : Hid (res = .error k) := by
              have h3 : r = .error k := HJ.out.2.2.2.2.2.2
              have h4 := HJ.out.2.2.2.1 k h3
              have h5 := H.out.2.1
              rw [h4] at h5
              exact h5
            clear rb
            go_wp2_with fail
            go_ret3
            exact ⟨none, 0, 0, [], [], [], k, rfl, PolyAt.nil _, by rw [HE.out]; exact ⟨rfl, rfl, rfl⟩, by simp, H1.out.2.1, fun a ha => by cases ha⟩
          · obtain ⟨rfl, rfl, rfl⟩ := q2
            by_cases hl : R.length < 4
            · have hsz' : ((str R).size : Int) < 4 := by rw [str_size]; omega
              have HE : Hid (res = .error 60) := by
                have h3 := HJ.out.2.2.2.2.2.2
                unfold TmAft at h3
                dsimp only at h3
                rw [if_pos hl] at h3
                have h4 := HJ.out.2.2.2.1 60 h3
                have h5 := H.out.2.1
                rw [h4] at h5
                exact h5
              clear rb hl
              go_wp2_with fail
              go_ret3
              exact ⟨none, 0, 0, [], [], [], 60, rfl, PolyAt.nil _, by rw [HE.out]; exact ⟨rfl, rfl, rfl⟩, by simp, H1.out.2.1, fun a ha => by cases ha⟩
            · obtain ⟨c0, c1, c2, c3, rr, hR⟩ := four_of hl
              have hres : r = .ok (⟨q, ⟨(c0.toNat : Int), (c1.toNat : Int), (c2.toNat : Int), (c3.toNat : Int)⟩⟩, rr) := by
                have := HJ.out.2.2.2.2.2.2
                unfold TmAft at this
                dsimp only at this
                rw [if_neg hl, hR] at this
                exact this
              obtain ⟨T, hTT⟩ : ∃ T, T = str R := ⟨_, rfl⟩
              obtain ⟨L, hL⟩ : ∃ L : Nat, L = rr.length := ⟨_, rfl⟩
              have hsz : T.size = L + 4 := by rw [hTT, str_size, hR, hL]; rfl
              have hrl : rr.length + 4 ≤ B.length := by
                have h1 := HJ.out.2.2.2.2.2.1.one
                have h2 := congrArg List.length h1.1
                rw [List.length_append, hR] at h2
                simp at h2
                omega
              have hbig : (L : Int) ≤ 700000 := by have := hT.out.2.2.2.2; have := H.out.2.2; omega
              have hx : T.extract 4 (L + 4) = str rr := by rw [hTT, ext_str, hR, hL]; simp
              have hn4 : ¬ ((L : Int) + 4 < 4) := by omega
              obtain ⟨n0, hn0⟩ : ∃ n0, n0 = c0.toNat := ⟨_, rfl⟩
              obtain ⟨n1, hn1⟩ : ∃ n1, n1 = c1.toNat := ⟨_, rfl⟩
              obtain ⟨n2, hn2⟩ : ∃ n2, n2 = c2.toNat := ⟨_, rfl⟩
              obtain ⟨n3, hn3⟩ : ∃ n3, n3 = c3.toNat := ⟨_, rfl⟩
              have p0 : 0 < T.size := by omega
              have p1 : 1 < T.size := by omega
              have p2 : 2 < T.size := by omega
              have p3 : 3 < T.size := by omega
              have t0 : (T[0]'p0).toNat = n0 := by subst hTT hR hn0; rfl
              have t1 : (T[1]'p1).toNat = n1 := by subst hTT hR hn1; rfl
              have t2 : (T[2]'p2).toNat = n2 := by subst hTT hR hn2; rfl
              have t3 : (T[3]'p3).toNat = n3 := by subst hTT hR hn3; rfl
              have i0 : (n0 : Int) < 256 := by rw [hn0]; have := c0.toNat_lt; omega
              have i1 : (n1 : Int) < 256 := by rw [hn1]; have := c1.toNat_lt; omega
              have i2 : (n2 : Int) < 256 := by rw [hn2]; have := c2.toNat_lt; omega
              have i3 : (n3 : Int) < 256 := by rw [hn3]; have := c3.toNat_lt; omega
              rw [← hn0, ← hn1, ← hn2, ← hn3] at hres
              rw [← hTT]
              have HS : Hid (r = .ok (⟨q, ⟨(n0 : Int), (n1 : Int), (n2 : Int), (n3 : Int)⟩⟩, rr) ∧ rr.length + 4 ≤ B.length) := ⟨hres, hrl⟩
              clear hres hR hTT hL hn0 hn1 hn2 hn3 hl c0 c1 c2 c3 hrl
              have r0' := rb.c0
              have r1' := rb.c1
              have r2' := rb.c2
              have b8 := Mn.MBox.new (w3.alloc (.cells #[.bool q.neg, .slice no nn nc, .slice eo en ec] 45)) 0 0 0 0
              have a8 := bel1 (w3.alloc (.cells #[.bool q.neg, .slice no nn nc, .slice eo en ec] 45)) (.cells #[.int .i64 0, .int .i64 0, .int .i64 0, .int .i64 0] 47)
              rw [World.size_alloc] at b8
              have HB : Hid (Mn.MBox ((w3.alloc (.cells #[.bool q.neg, .slice no nn nc, .slice eo en ec] 45)).alloc (.cells #[.int .i64 0, .int .i64 0, .int .i64 0, .int .i64 0] 47)) (w3.heap.size + 1) (upB 0 0 n0) (upB 0 1 n1) (upB 0 2 n2) (upB 0 3 n3) ∧ Below (w3.alloc (.cells #[.bool q.neg, .slice no nn nc, .slice eo en ec] 45)).heap.size (w3.alloc (.cells #[.bool q.neg, .slice no nn nc, .slice eo en ec] 45)) ((w3.alloc (.cells #[.bool q.neg, .slice no nn nc, .slice eo en ec] 45)).alloc (.cells #[.int .i64 0, .int .i64 0, .int .i64 0, .int .i64 0] 47))) := ⟨b8, a8⟩
              clear a8 b8 rb
              go_wp2_with fail
              go_loopg [16] 4 (fun m s16 wy => ∃ k : Nat, k ≤ 4 ∧ 4 - k ≤ m ∧ s16 = .int .i64 k ∧ Hid (Mn.MBox wy (w3.heap.size + 1) (upB k 0 n0) (upB k 1 n1) (upB k 2 n2) (upB k 3 n3) ∧ Below (w3.alloc (.cells #[.bool q.neg, .slice no nn nc, .slice eo en ec] 45)).heap.size (w3.alloc (.cells #[.bool q.neg, .slice no nn nc, .slice eo en ec] 45)) wy))
              case atStart => exact ⟨0, by omega, by omega, rfl, HB.out⟩
              case round =>
                obtain ⟨k, hk, hkr, rfl, hO⟩ := hrel
                have HM : Hid (4 - k ≤ _) := hkr
                by_cases h4 : k = 4
                · subst h4
                  have e3 := hO.out.1.c0
                  have e4 := hO.out.1.c1
                  have e5 := hO.out.1.c2
                  have e6 := hO.out.1.c3
                  simp only [upB, Nat.reduceLT, if_true] at e3 e4 e5 e6
                  have rb := H1.out.2.2.1.below hO.out.2
                  have e0 := rb.c0
                  have e1 := rb.c1
                  have e2 := rb.c2
                  have b5 := chain hO.out.2 (bel1 wr (.cells #[.bool q.neg, .slice no nn nc, .slice eo en ec, .int .i64 n0, .int .i64 n1, .int .i64 n2, .int .i64 n3] 49))
                  have H3 : Hid (TermsOwn (wr.alloc (.cells #[.bool q.neg, .slice no nn nc, .slice eo en ec, .int .i64 n0, .int .i64 n1, .int .i64 n2, .int .i64 n3] 49)) w.heap.size (.slice lo2 qs.length cap2) qs ms ∧ Below w.heap.size w (wr.alloc (.cells #[.bool q.neg, .slice no nn nc, .slice eo en ec, .int .i64 n0, .int .i64 n1, .int .i64 n2, .int .i64 n3] 49)) ∧ TermAt (wr.alloc (.cells #[.bool q.neg, .slice no nn nc, .slice eo en ec, .int .i64 n0, .int .i64 n1, .int .i64 n2, .int .i64 n3] 49)) (⟨q.neg, no, nn, nc, eo, en, ec, n0, n1, n2, n3⟩ : TP) ⟨q, ⟨(n0 : Int), (n1 : Int), (n2 : Int), (n3 : Int)⟩⟩) :=
                    ⟨H1.out.2.2.2.below b5, chain H1.out.2.1 b5, ⟨H1.out.1.below b5, rfl, rfl⟩⟩
                  have HK : Hid (qs.length + 1 ≤ 1000000 ∧ w.heap.size ≤ (wr.alloc (.cells #[.bool q.neg, .slice no nn nc, .slice eo en ec, .int .i64 n0, .int .i64 n1, .int .i64 n2, .int .i64 n3] 49)).heap.size) :=
                    ⟨by have := hT.out.2.2.1; have := HJ.out.1; have := HR.out.2.2.1; omega, H3.out.2.1.size⟩
                  clear rb hk hkr b5 hO
                  go_wp2_with (at_builtin; refine wpList_append_put _ rfl _ _ _ rfl w.heap.size 49 I0 _ 7 88 Tryz.underlying23 hi0 hz0 hz1 hz2 rfl (by omega) zero39 _ qs.length (tcells qs) rfl H3.out.1.own ⟨wr.heap.size, 0, none⟩ 1 1 (TP.cs (⟨q.neg, no, nn, nc, eo, en, ec, n0, n1, n2, n3⟩ : TP)) rfl rfl (World.news_of_block (heap_alloc_new wr _)) (TP.cs_one (⟨q.neg, no, nn, nc, eo, en, ec, n0, n1, n2, n3⟩ : TP)) (TP.cs_clean (⟨q.neg, no, nn, nc, eo, en, ec, n0, n1, n2, n3⟩ : TP)) (by omega) (by have := HK.out.1; unfold maxLen; omega) (by have := HK.out.1; omega) HK.out.2 ?_)
                  intro g4 c4 w5 o4 k4
                  have H4 : Hid (Below w.heap.size w w5 ∧ TermsOwn w5 w.heap.size (.slice (some ⟨g4, 0, none⟩) (qs.length + 1) c4) (qs ++ [(⟨q.neg, no, nn, nc, eo, en, ec, n0, n1, n2, n3⟩ : TP)]) (ms ++ [⟨q, ⟨(n0 : Int), (n1 : Int), (n2 : Int), (n3 : Int)⟩⟩])) :=
                    ⟨H3.out.2.1.grown k4 H3.out.2.1.size (fun k hk => (H3.out.1.own.row.lt k hk).1), H3.out.1.put1 H3.out.2.2 rfl o4 k4⟩
                  clear o4 k4 e0 e1 e2 e3 e4 e5 e6
                  go_wp2_with fail
                  go_roundg (n - (j + 1))
                  case measure => have := HJ.out.1; have := HJ.out.2.1; omega
                  case rel => exact ⟨j + 1, _, _, rr, by have := HJ.out.1; omega, Nat.le_refl _, by go_num, rfl, H4.out.1, H4.out.2, by have := hT.out.2.2.1; simp; omega, HJ.out.2.2.2.2.1 _ _ HS.out.1, by have := HS.out.2; have := hT.out.2.2.2.2; omega⟩
                · have hlt : k < 4 := by omega
                  match k, hlt with
                  | 0, _ =>
                    have f := hO.out.1.f 0
                    have e := hO.out.1.c0
                    have HN : Hid (Mn.MBox (wr.setCell ⟨w3.heap.size + 1, 0, none⟩ (.int .i64 n0)) (w3.heap.size + 1) (upB 1 0 n0) (upB 1 1 n1) (upB 1 2 n2) (upB 1 3 n3) ∧ Below (w3.alloc (.cells #[.bool q.neg, .slice no nn nc, .slice eo en ec] 45)).heap.size (w3.alloc (.cells #[.bool q.neg, .slice no nn nc, .slice eo en ec] 45)) (wr.setCell ⟨w3.heap.size + 1, 0, none⟩ (.int .i64 n0))) := ⟨hO.out.1.s0 _, hO.out.2.setCell (by rw [World.size_alloc]; exact Nat.le_refl _) _⟩
                    clear hk hkr
                    go_wp2_with fail
                    go_roundg 3
                    case measure => have := HM.out; omega
                    case rel => exact ⟨1, by omega, by omega, rfl, HN.out⟩
                  | 1, _ =>
                    have f := hO.out.1.f 1
                    have e := hO.out.1.c1
                    have HN : Hid (Mn.MBox (wr.setCell ⟨w3.heap.size + 1, 1, none⟩ (.int .i64 n1)) (w3.heap.size + 1) (upB 2 0 n0) (upB 2 1 n1) (upB 2 2 n2) (upB 2 3 n3) ∧ Below (w3.alloc (.cells #[.bool q.neg, .slice no nn nc, .slice eo en ec] 45)).heap.size (w3.alloc (.cells #[.bool q.neg, .slice no nn nc, .slice eo en ec] 45)) (wr.setCell ⟨w3.heap.size + 1, 1, none⟩ (.int .i64 n1))) := ⟨hO.out.1.s1 _, hO.out.2.setCell (by rw [World.size_alloc]; exact Nat.le_refl _) _⟩
                    clear hk hkr
                    go_wp2_with fail
                    go_roundg 2
                    case measure => have := HM.out; omega
                    case rel => exact ⟨2, by omega, by omega, rfl, HN.out⟩
                  | 2, _ =>
                    have f := hO.out.1.f 2
                    have e := hO.out.1.c2
                    have HN : Hid (Mn.MBox (wr.setCell ⟨w3.heap.size + 1, 2, none⟩ (.int .i64 n2)) (w3.heap.size + 1) (upB 3 0 n0) (upB 3 1 n1) (upB 3 2 n2) (upB 3 3 n3) ∧ Below (w3.alloc (.cells #[.bool q.neg, .slice no nn nc, .slice eo en ec] 45)).heap.size (w3.alloc (.cells #[.bool q.neg, .slice no nn nc, .slice eo en ec] 45)) (wr.setCell ⟨w3.heap.size + 1, 2, none⟩ (.int .i64 n2))) := ⟨hO.out.1.s2 _, hO.out.2.setCell (by rw [World.size_alloc]; exact Nat.le_refl _) _⟩
                    clear hk hkr
                    go_wp2_with fail
                    go_roundg 1
                    case measure => have := HM.out; omega
                    case rel => exact ⟨3, by omega, by omega, rfl, HN.out⟩
                  | 3, _ =>
                    have f := hO.out.1.f 3
                    have e := hO.out.1.c3
                    have HN : Hid (Mn.MBox (wr.setCell ⟨w3.heap.size + 1, 3, none⟩ (.int .i64 n3)) (w3.heap.size + 1) (upB 4 0 n0) (upB 4 1 n1) (upB 4 2 n2) (upB 4 3 n3) ∧ Below (w3.alloc (.cells #[.bool q.neg, .slice no nn nc, .slice eo en ec] 45)).heap.size (w3.alloc (.cells #[.bool q.neg, .slice no nn nc, .slice eo en ec] 45)) (wr.setCell ⟨w3.heap.size + 1, 3, none⟩ (.int .i64 n3))) := ⟨hO.out.1.s3 _, hO.out.2.setCell (by rw [World.size_alloc]; exact Nat.le_refl _) _⟩
                    clear hk hkr
                    go_wp2_with fail
                    go_roundg 0
                    case measure => have := HM.out; omega
                    case rel => exact ⟨4, by omega, by omega, rfl, HN.out⟩
        · have hjn : j = n := by omega
          subst hjn
          obtain ⟨lo3, cap3, hv3, hat3, _⟩ := hT.out.2.1.poly
          injection hv3 with hv3 _ hv4
          subst hv3 hv4
          have HP : Hid (PolyAt wr lo2 qs.length cap2 qs ms ∧ r1 = .ok (ms, B) ∧ B.length ≤ s.length ∧ Below w.heap.size w wr ∧ (∀ a, lo2 = some a → CleanB wr 49 a.block)) := ⟨hat3, hT.out.2.2.2.1.last, hT.out.2.2.2.2, hT.out.1, fun a ha => by subst ha; exact hT.out.2.1.own.clean a.block rfl⟩
          have hA := H.out.2.1
          rw [HP.out.2.1] at hA
          clear hj hjr h0 hT hat3
          by_cases hm : MayP o ms
          · have HM : Hid (MayP o ms ∧ res = .ok (ms, B)) := ⟨hm, hA.1 hm⟩
            clear hm hA
            go_wp2_with fail
            refine (rmay_b o _ _ _ _ ms _ HP.out.1 true (yes_iff HM.out.1)).mono ?_
            rintro e w5 ⟨rfl, q1⟩
            have H5 : Hid (PolyAt w5 lo2 qs.length cap2 qs ms ∧ Below w.heap.size w w5 ∧ (∀ a, lo2 = some a → CleanB w5 49 a.block)) := ⟨HP.out.1.below q1, chain HP.out.2.2.2.1 q1, fun a ha => (HP.out.2.2.2.2 a ha).kept (q1.block _ (HP.out.2.2.2.2 a ha).lt)⟩
            clear q1
            go_wp2_with fail
            go_ret3
            exact ⟨_, _, _, qs, ms, B, 0, rfl, H5.out.1, by rw [HM.out.2]; exact ⟨rfl, rfl, rfl⟩, HP.out.2.2.1, H5.out.2.1, H5.out.2.2⟩
          · have HM : Hid (¬ MayP o ms ∧ res = .error 62) := ⟨hm, hA.2 hm⟩
            clear hm hA
            go_wp2_with fail
            refine (rmay_b o _ _ _ _ ms _ HP.out.1 false (no_iff HM.out.1)).mono ?_
            rintro e w5 ⟨rfl, q1⟩
            have H5 : Hid (Below w.heap.size w w5) := chain HP.out.2.2.2.1 q1
            clear q1
            go_wp2_with fail
            go_ret3
            exact ⟨none, 0, 0, [], [], [], 62, rfl, PolyAt.nil _, by rw [HM.out.2]; exact ⟨rfl, rfl, rfl⟩, by simp, H5.out, fun a ha => by cases ha⟩
end Go.Proofs.YtnedghhcidohnaaGreat
