/-
  OctetGets, walked.
-/
import Derived.Test.YtmmbgfbliekkgaaOctW
namespace Go.Proofs.Ytmmbgfbliekkgaa
open Go.RowKit

set_option maxRecDepth 100000 in
set_option maxHeartbeats 8000000 in
theorem gets_walk (s : List UInt8) (w : World) (hl : s.length ≤ 9223372036854775807) :
    Calls Try.prog 4 #[.string (str s)] w fun e w' => e = .returned (.bool true) ∧ Below w.heap.size w w' := by
  have hsz : (str s).size = s.length := str_size s
  have hsi : (s.length : Int) ≤ 9223372036854775807 := by omega
  clear hl
  by_cases hl : 1000 < s.length
  · have hl2 : (1000 : Int) < (s.length : Int) := by omega
    go_enter Try.func4, Try.ntmps4
    go_wp2_with (go_at_call 10; refine (shown_any _).mono ?_; rintro e w3 ⟨rfl, b1⟩; have H1 : Hid (Below w.heap.size w w3) := b1; clear b1)
    go_ret
    exact ⟨rfl, H1.out⟩
  · have hl2 : ¬ (1000 : Int) < (s.length : Int) := by omega
    have hl3 : decide ((1000 : Int) < (s.length : Int)) = false := decide_eq_false hl2
    obtain ⟨n, R1, k1, hto⟩ := toldN_ex (numL s)
    obtain ⟨T, R4, k4, htt⟩ := toldT_ex (textL s)
    obtain ⟨res, hrat⟩ := RatIs.ex s
    have HS : Hid (s.length ≤ 70000 ∧ toldN (numL s) = .tuple #[.int .u64 (n : Int), .string (str R1), .int .i64 k1] ∧ toldT (textL s) = .tuple #[.string (str T), .string (str R4), .int .i64 k4] ∧ RatIs s res) := ⟨by omega, hto, htt, hrat⟩
    clear hl hto htt hrat
    go_enter Try.func4, Try.ntmps4
    go_wp2_with fail
    refine (shown_any _).mono ?_
    rintro e w1 ⟨rfl, b1⟩
    have H1 : Hid (Below w.heap.size w w1) := b1
    clear b1
    go_wp2_with fail
    refine (get_told s _ HS.out.1).mono ?_
    rw [HS.out.2.1]
    rintro e w2 ⟨rfl, b2⟩
    have H2 : Hid (Below w.heap.size w w2) := chain H1.out b2
    clear b2 H1
    go_wp2_with fail
    refine (rget_any s _ HS.out.1).mono ?_
    rw [HS.out.2.1]
    rintro e w3 ⟨rfl, b3⟩
    have H3 : Hid (Below w.heap.size w w3) := chain H2.out b3
    clear b3 H2
    go_wp2_with fail
    refine (getNat_told s _ HS.out.1).mono ?_
    rintro e w4 ⟨ao, am, ac, xs, R2, k2, rfl, ra, ta, b4⟩
    have H4 : Hid (Below w.heap.size w w4 ∧ RowAt w4 ao am ac xs ∧ NatTold (natL s) xs R2 k2) := ⟨chain H3.out b4, ra, ta⟩
    clear b4 ra ta H3
    go_wp2_with fail
    refine (rgetNat_any s _ HS.out.1).mono ?_
    rintro e w5 ⟨bo, bm, bc, ys, S2, j2, rfl, rb, tb, b5⟩
    obtain ⟨e1, e2, e3⟩ := H4.out.2.2.one tb
    subst e2
    subst e3
    have H5 : Hid (Below w.heap.size w w5 ∧ RowAt w5 ao am ac xs ∧ RowAt w5 bo bm bc ys ∧ xs = ys) := ⟨chain H4.out.1 b5, H4.out.2.1.below b5, rb, e1⟩
    clear b5 rb tb e1 H4
    go_wp2_with fail
    refine (getRat_told s res _ HS.out.2.2.2 HS.out.1).mono ?_
    rintro e w6 ⟨no, nn, nc, eo, en, ec, q, R3, k3, rfl, rq, tq, b6⟩
    obtain ⟨g, hg⟩ : ∃ g, g = q.neg := ⟨_, rfl⟩
    rw [← hg]
    have hb6 : Below w6.heap.size w6 (w6.alloc (.cells #[.bool g, .slice no nn nc, .slice eo en ec] 26)) := (Below.refl _ _).alloc (Nat.le_refl _) _
    have bx6 := RBox.new w6 g no nn nc eo en ec
    have H6 : Hid (Below w.heap.size w (w6.alloc (.cells #[.bool g, .slice no nn nc, .slice eo en ec] 26)) ∧ RowAt (w6.alloc (.cells #[.bool g, .slice no nn nc, .slice eo en ec] 26)) ao am ac xs ∧ RowAt (w6.alloc (.cells #[.bool g, .slice no nn nc, .slice eo en ec] 26)) bo bm bc ys ∧ xs = ys ∧ RatAt (w6.alloc (.cells #[.bool g, .slice no nn nc, .slice eo en ec] 26)) no nn nc eo en ec q ∧ RatTold res q R3 k3 ∧ RBox (w6.alloc (.cells #[.bool g, .slice no nn nc, .slice eo en ec] 26)) w6.heap.size g no nn nc eo en ec ∧ g = q.neg) :=
      ⟨chain (chain H5.out.1 b6) hb6, (H5.out.2.1.below b6).below hb6, (H5.out.2.2.1.below b6).below hb6, H5.out.2.2.2, rq.below hb6, tq, bx6, hg⟩
    clear b6 rq tq hb6 bx6 hg H5
    go_wp2_with fail
    refine (rgetRat_any s res _ HS.out.2.2.2 HS.out.1).mono ?_
    rintro e w7 ⟨po, pn, pc, qo, qn, qc, q2, S3, j3, rfl, rq, tq, b7⟩
    obtain ⟨e1, e2, e3⟩ := H6.out.2.2.2.2.2.1.one tq
    subst e1
    subst e2
    subst e3
    have HG : Hid (g = q.neg) := H6.out.2.2.2.2.2.2.2
    rw [← HG.out]
    have hb7 : Below w7.heap.size w7 (w7.alloc (.cells #[.bool g, .slice po pn pc, .slice qo qn qc] 26)) := (Below.refl _ _).alloc (Nat.le_refl _) _
    have bx7 := RBox.new w7 g po pn pc qo qn qc
    have H7 : Hid (Below w.heap.size w (w7.alloc (.cells #[.bool g, .slice po pn pc, .slice qo qn qc] 26)) ∧ RowAt (w7.alloc (.cells #[.bool g, .slice po pn pc, .slice qo qn qc] 26)) ao am ac xs ∧ RowAt (w7.alloc (.cells #[.bool g, .slice po pn pc, .slice qo qn qc] 26)) bo bm bc ys ∧ xs = ys ∧ RatAt (w7.alloc (.cells #[.bool g, .slice po pn pc, .slice qo qn qc] 26)) no nn nc eo en ec q ∧ RatAt (w7.alloc (.cells #[.bool g, .slice po pn pc, .slice qo qn qc] 26)) po pn pc qo qn qc q ∧ RBox (w7.alloc (.cells #[.bool g, .slice po pn pc, .slice qo qn qc] 26)) w6.heap.size g no nn nc eo en ec ∧ RBox (w7.alloc (.cells #[.bool g, .slice po pn pc, .slice qo qn qc] 26)) w7.heap.size g po pn pc qo qn qc) :=
      ⟨chain (chain H6.out.1 b7) hb7, (H6.out.2.1.below b7).below hb7, (H6.out.2.2.1.below b7).below hb7, H6.out.2.2.2.1, (H6.out.2.2.2.2.1.below b7).below hb7, rq.below hb7, (H6.out.2.2.2.2.2.2.1.below b7).alloc _, bx7⟩
    clear b7 rq tq hb7 bx7 H6
    go_wp2_with fail
    refine (getText_told s _ HS.out.1).mono ?_
    rw [HS.out.2.2.1]
    rintro e w8 ⟨rfl, b8⟩
    have H8 : Hid (Below w.heap.size w w8 ∧ RowAt w8 ao am ac xs ∧ RowAt w8 bo bm bc ys ∧ xs = ys ∧ RatAt w8 no nn nc eo en ec q ∧ RatAt w8 po pn pc qo qn qc q ∧ RBox w8 w6.heap.size g no nn nc eo en ec ∧ RBox w8 w7.heap.size g po pn pc qo qn qc) :=
      ⟨chain H7.out.1 b8, H7.out.2.1.below b8, H7.out.2.2.1.below b8, H7.out.2.2.2.1, H7.out.2.2.2.2.1.below b8, H7.out.2.2.2.2.2.1.below b8, H7.out.2.2.2.2.2.2.1.below b8, H7.out.2.2.2.2.2.2.2.below b8⟩
    clear b8 H7
    go_wp2_with fail
    refine (rgetText_any s _ HS.out.1).mono ?_
    rw [HS.out.2.2.1]
    rintro e w9 ⟨rfl, b9⟩
    have H9 : Hid (Below w.heap.size w w9 ∧ RowAt w9 ao am ac xs ∧ RowAt w9 bo bm bc ys ∧ xs = ys ∧ RatAt w9 no nn nc eo en ec q ∧ RatAt w9 po pn pc qo qn qc q ∧ RBox w9 w6.heap.size g no nn nc eo en ec ∧ RBox w9 w7.heap.size g po pn pc qo qn qc) :=
      ⟨chain H8.out.1 b9, H8.out.2.1.below b9, H8.out.2.2.1.below b9, H8.out.2.2.2.1, H8.out.2.2.2.2.1.below b9, H8.out.2.2.2.2.2.1.below b9, H8.out.2.2.2.2.2.2.1.below b9, H8.out.2.2.2.2.2.2.2.below b9⟩
    clear b9 H8
    go_wp2_with fail
    refine (nsame_b _ _ _ _ _ _ xs ys _ H9.out.2.1 H9.out.2.2.1 true ⟨fun _ => H9.out.2.2.2.1, fun _ => rfl⟩).mono ?_
    rintro e w10 ⟨rfl, b10⟩
    have bx10 := H9.out.2.2.2.2.2.2.1.below b10
    have by10 := H9.out.2.2.2.2.2.2.2.below b10
    have H10 : Hid (Below w.heap.size w w10 ∧ RatAt w10 no nn nc eo en ec q ∧ RatAt w10 po pn pc qo qn qc q) := ⟨chain H9.out.1 b10, H9.out.2.2.2.2.1.below b10, H9.out.2.2.2.2.2.1.below b10⟩
    have c0 := bx10.c0
    have c1 := bx10.c1
    have c2 := bx10.c2
    have d0 := by10.c0
    have d1 := by10.c1
    have d2 := by10.c2
    clear b10 bx10 by10 H9
    go_wp2_with fail
    refine (rsame_r g no nn nc eo en ec po pn pc qo qn qc q _ H10.out.2.1 H10.out.2.2).mono ?_
    rintro e w11 ⟨rfl, b11⟩
    have H11 : Hid (Below w.heap.size w w11) := chain H10.out.1 b11
    clear b11 H10 c0 c1 c2 d0 d1 d2
    go_wp2
    go_ret
    exact ⟨rfl, H11.out⟩
end Go.Proofs.Ytmmbgfbliekkgaa
