/-
  OctetBack, walked.
-/
import Derived.Test.YtmmbgfbliekkgaaOctEE
import Derived.Test.YtmmbgfbliekkgaaOctCC
namespace Go.Proofs.Ytmmbgfbliekkgaa
open Go.RowKit

set_option maxRecDepth 100000 in
set_option maxHeartbeats 16000000 in
theorem back_heavy (n : Nat) (ao : Option Addr) (na ca : Nat) (xs : List Int) (neg : Bool) (no : Option Addr) (nn nc : Nat) (eo : Option Addr) (en ec : Nat) (r : RatL) (s rest : List UInt8) (w : World)
    (hn : n < 18446744073709551616) (ha : RowAt w ao na ca xs) (hr : RatAt w no nn nc eo en ec r) (hg : r.neg = neg) (hl : s.length ≤ 9223372036854775807) (_hlr : rest.length ≤ 9223372036854775807)
    (hv : 20 < na ∨ 20 < nn ∨ 20 < en ∨ 1000 < s.length) :
    Calls Try.prog 5 #[.int .u64 (n : Int), .slice ao na ca, .agg #[.bool neg, .slice no nn nc, .slice eo en ec], .string (str s), .string (str rest)] w fun e w' => e = .returned (.bool true) ∧ Below w.heap.size w w' := by
  have hB0 : Below w.heap.size w (w.alloc (.cells #[.bool neg, .slice no nn nc, .slice eo en ec] 26)) := (Below.refl _ _).alloc (Nat.le_refl _) _
  have bx := RBox.new w neg no nn nc eo en ec
  have HP : Hid (PS w (w.alloc (.cells #[.bool neg, .slice no nn nc, .slice eo en ec] 26)) ao na ca xs neg no nn nc eo en ec r) := ⟨hB0, ha.below hB0, hr.below hB0, bx⟩
  have HA : Hid (r.neg = neg ∧ n < 18446744073709551616 ∧ s.length ≤ 9223372036854775807 ∧ (na : Int) ≤ 9223372036854775807 ∧ (nn : Int) ≤ 9223372036854775807 ∧ (en : Int) ≤ 9223372036854775807) :=
    ⟨hg, hn, hl, nn_most ha, nn_most hr.num, nn_most hr.den⟩
  have c0 := bx.c0
  have c1 := bx.c1
  have c2 := bx.c2
  have hsz : (str s).size = s.length := str_size s
  have hsr : (str rest).size = rest.length := str_size rest
  have HV : Hid (20 < na ∨ 20 < nn ∨ 20 < en ∨ 1000 < s.length) := hv
  clear bx hB0 ha hr hg hn hl _hlr hv
  go_enter Try.func5, Try.ntmps5
  go_wp2_with fail
  refine (heavy_yes ao na ca neg no nn nc eo en ec s _ HA.out.2.2.2.1 HA.out.2.2.2.2.1 HA.out.2.2.2.2.2 HA.out.2.2.1 HV.out).mono ?_
  rintro e w1 ⟨rfl, b1⟩
  have H1 : Hid (PS w w1 ao na ca xs neg no nn nc eo en ec r) := HP.out.next b1
  clear b1 HP c0 c1 c2
  go_wp2_with fail
  refine (shown_any _).mono ?_
  rintro e w2 ⟨rfl, b2⟩
  have H2 : Hid (PS w w2 ao na ca xs neg no nn nc eo en ec r) := H1.out.next b2
  clear b2 H1
  go_wp2_with fail
  go_ret
  exact ⟨rfl, H2.out.bel⟩

set_option maxRecDepth 100000 in
set_option maxHeartbeats 16000000 in
theorem back_long (n : Nat) (ao : Option Addr) (na ca : Nat) (xs : List Int) (neg : Bool) (no : Option Addr) (nn nc : Nat) (eo : Option Addr) (en ec : Nat) (r : RatL) (s rest : List UInt8) (w : World)
    (hn : n < 18446744073709551616) (ha : RowAt w ao na ca xs) (hr : RatAt w no nn nc eo en ec r) (hg : r.neg = neg) (hl : s.length ≤ 9223372036854775807) (hlr : rest.length ≤ 9223372036854775807)
    (hv : ¬ (20 < na ∨ 20 < nn ∨ 20 < en ∨ 1000 < s.length)) (h3 : 300 < rest.length) :
    Calls Try.prog 5 #[.int .u64 (n : Int), .slice ao na ca, .agg #[.bool neg, .slice no nn nc, .slice eo en ec], .string (str s), .string (str rest)] w fun e w' => e = .returned (.bool true) ∧ Below w.heap.size w w' := by
  have hB0 : Below w.heap.size w (w.alloc (.cells #[.bool neg, .slice no nn nc, .slice eo en ec] 26)) := (Below.refl _ _).alloc (Nat.le_refl _) _
  have bx := RBox.new w neg no nn nc eo en ec
  have HP : Hid (PS w (w.alloc (.cells #[.bool neg, .slice no nn nc, .slice eo en ec] 26)) ao na ca xs neg no nn nc eo en ec r) := ⟨hB0, ha.below hB0, hr.below hB0, bx⟩
  have HA : Hid (r.neg = neg ∧ n < 18446744073709551616 ∧ s.length ≤ 9223372036854775807 ∧ (na : Int) ≤ 9223372036854775807 ∧ (nn : Int) ≤ 9223372036854775807 ∧ (en : Int) ≤ 9223372036854775807) :=
    ⟨hg, hn, hl, nn_most ha, nn_most hr.num, nn_most hr.den⟩
  have c0 := bx.c0
  have c1 := bx.c1
  have c2 := bx.c2
  have hsz : (str s).size = s.length := str_size s
  have hsr : (str rest).size = rest.length := str_size rest
  have HV : Hid (¬ (20 < na ∨ 20 < nn ∨ 20 < en ∨ 1000 < s.length)) := hv
  have g3 : (300 : Int) < (rest.length : Int) := by omega
  have g4 : (rest.length : Int) ≤ 9223372036854775807 := by omega
  clear bx hB0 ha hr hg hn hl hlr hv h3
  go_enter Try.func5, Try.ntmps5
  go_wp2_with fail
  refine (heavy_no ao na ca neg no nn nc eo en ec s _ HV.out).mono ?_
  rintro e w1 ⟨rfl, b1⟩
  have H1 : Hid (PS w w1 ao na ca xs neg no nn nc eo en ec r) := HP.out.next b1
  clear b1 HP c0 c1 c2
  go_wp2_with fail
  refine (shown_any _).mono ?_
  rintro e w2 ⟨rfl, b2⟩
  have H2 : Hid (PS w w2 ao na ca xs neg no nn nc eo en ec r) := H1.out.next b2
  clear b2 H1
  go_wp2_with fail
  go_ret
  exact ⟨rfl, H2.out.bel⟩

set_option maxRecDepth 100000 in
set_option maxHeartbeats 16000000 in
theorem back_00 (n : Nat) (ao : Option Addr) (na ca : Nat) (xs : List Int) (neg : Bool) (no : Option Addr) (nn nc : Nat) (eo : Option Addr) (en ec : Nat) (r : RatL) (s rest : List UInt8) (w : World)
    (hn : n < 18446744073709551616) (ha : RowAt w ao na ca xs) (hr : RatAt w no nn nc eo en ec r) (hg : r.neg = neg) (hl : s.length ≤ 9223372036854775807) (hlr : rest.length ≤ 9223372036854775807)
    (hv : ¬ (20 < na ∨ 20 < nn ∨ 20 < en ∨ 1000 < s.length)) (h3 : ¬ 300 < rest.length) (hmx : ¬ May xs) (hmr : ¬ MayR r) :
    Calls Try.prog 5 #[.int .u64 (n : Int), .slice ao na ca, .agg #[.bool neg, .slice no nn nc, .slice eo en ec], .string (str s), .string (str rest)] w fun e w' => e = .returned (.bool true) ∧ Below w.heap.size w w' := by
  have hB0 : Below w.heap.size w (w.alloc (.cells #[.bool neg, .slice no nn nc, .slice eo en ec] 26)) := (Below.refl _ _).alloc (Nat.le_refl _) _
  have bx := RBox.new w neg no nn nc eo en ec
  have HP : Hid (PS w (w.alloc (.cells #[.bool neg, .slice no nn nc, .slice eo en ec] 26)) ao na ca xs neg no nn nc eo en ec r) := ⟨hB0, ha.below hB0, hr.below hB0, bx⟩
  have HA : Hid (r.neg = neg ∧ n < 18446744073709551616 ∧ s.length ≤ 9223372036854775807 ∧ (na : Int) ≤ 9223372036854775807 ∧ (nn : Int) ≤ 9223372036854775807 ∧ (en : Int) ≤ 9223372036854775807) :=
    ⟨hg, hn, hl, nn_most ha, nn_most hr.num, nn_most hr.den⟩
  have c0 := bx.c0
  have c1 := bx.c1
  have c2 := bx.c2
  have hsz : (str s).size = s.length := str_size s
  have hsr : (str rest).size = rest.length := str_size rest
  obtain ⟨A, hA⟩ : ∃ A, A = putL n ++ rest := ⟨_, rfl⟩
  obtain ⟨T, hT⟩ : ∃ T, T = putT s ++ rest := ⟨_, rfl⟩
  have a1 : str (putL n) ++ str rest = str A := by rw [str_append, hA]
  have a2 : str (putT s) ++ str rest = str T := by rw [str_append, hT]
  have z1 : (str (putL n)).size ≤ 9 := by rw [str_size]; exact putL_small n hn
  have z2 : (str (putT s)).size ≤ 1009 := by
    have := putL_small s.length (by omega)
    rw [str_size]
    unfold putT
    rw [List.length_append]
    omega
  have HV : Hid (¬ (20 < na ∨ 20 < nn ∨ 20 < en ∨ 1000 < s.length) ∧ s.length ≤ 80000 ∧ numL A = .ok (n, rest) ∧ A.length ≤ 80000 ∧ textL T = .ok (s, rest) ∧ T.length ≤ 70000) :=
    ⟨hv, by omega, by rw [hA]; exact numL_put n hn rest, by rw [hA, List.length_append]; have := putL_small n hn; omega, by rw [hT]; exact textL_put s (by omega) rest, by rw [hT, List.length_append]; rw [str_size] at z2; omega⟩
  have g3 : ¬ (300 : Int) < (rest.length : Int) := by omega
  have HX : Hid (NatPut xs [] 1) := .inr ⟨hmx, rfl, rfl⟩
  have HR : Hid (RatPut r [] 1) := .inr ⟨hmr, rfl, rfl⟩
  have s0 : str [] = ByteArray.mk #[] := rfl
  clear bx hB0 ha hg hn hl hlr hv h3 hA hT hr hmx hmr
  go_enter Try.func5, Try.ntmps5
  go_wp2_with fail
  refine (heavy_no ao na ca neg no nn nc eo en ec s _ HV.out.1).mono ?_
  rintro e w1 ⟨rfl, b1⟩
  have H1 : Hid (PS w w1 ao na ca xs neg no nn nc eo en ec r) := HP.out.next b1
  clear b1 HP c0 c1 c2
  go_wp2_with fail
  refine (shown_any _).mono ?_
  rintro e w2 ⟨rfl, b2⟩
  have H2 : Hid (PS w w2 ao na ca xs neg no nn nc eo en ec r) := H1.out.next b2
  clear b2 H1
  go_wp2_with fail
  refine (put_n n _ HA.out.2.1).mono ?_
  rintro e w3 ⟨rfl, b3⟩
  have H3 : Hid (PS w w3 ao na ca xs neg no nn nc eo en ec r) := H2.out.next b3
  clear b3 H2
  go_wp2_with fail
  refine (get_ok A n rest _ HV.out.2.2.1 HV.out.2.2.2.1).mono ?_
  rintro e w4 ⟨rfl, b4⟩
  have H4 : Hid (PS w w4 ao na ca xs neg no nn nc eo en ec r) := H3.out.next b4
  clear b4 H3
  go_wp2_with fail
  refine (putText_any s _ HV.out.2.1).mono ?_
  rintro e w5 ⟨rfl, b5⟩
  have H5 : Hid (PS w w5 ao na ca xs neg no nn nc eo en ec r) := H4.out.next b5
  clear b5 H4
  go_wp2_with fail
  refine (getText_ok T s rest _ HV.out.2.2.2.2.1 (Nat.le_trans HV.out.2.2.2.2.2 (by decide))).mono ?_
  rintro e w6 ⟨rfl, b6⟩
  have H6 : Hid (PS w w6 ao na ca xs neg no nn nc eo en ec r) := H5.out.next b6
  clear b6 H5
  go_wp2_with fail
  refine (putNat_told _ _ _ xs [] 1 _ H6.out.row HX.out).mono ?_
  rintro e w9 ⟨rfl, b9⟩
  have H9 : Hid (PS w w9 ao na ca xs neg no nn nc eo en ec r) := H6.out.next b9
  clear b9 H6
  have p9 := H9.out.box
  have c0 := p9.c0
  have c1 := p9.c1
  have c2 := p9.c2
  clear p9
  go_wp2_with fail
  refine (putRat_told neg _ _ _ _ _ _ r [] 1 _ H9.out.rat HA.out.1 HR.out).mono ?_
  rintro e w10 ⟨rfl, b10⟩
  have H10 : Hid (PS w w10 ao na ca xs neg no nn nc eo en ec r) := H9.out.next b10
  clear b10 H9 c0 c1 c2
  go_wp2_with fail
  go_ret
  exact ⟨rfl, H10.out.bel⟩

set_option maxRecDepth 100000 in
set_option maxHeartbeats 16000000 in
theorem back_01 (n : Nat) (ao : Option Addr) (na ca : Nat) (xs : List Int) (neg : Bool) (no : Option Addr) (nn nc : Nat) (eo : Option Addr) (en ec : Nat) (r : RatL) (s rest : List UInt8) (w : World)
    (hn : n < 18446744073709551616) (ha : RowAt w ao na ca xs) (hr : RatAt w no nn nc eo en ec r) (hg : r.neg = neg) (hl : s.length ≤ 9223372036854775807) (hlr : rest.length ≤ 9223372036854775807)
    (hv : ¬ (20 < na ∨ 20 < nn ∨ 20 < en ∨ 1000 < s.length)) (h3 : ¬ 300 < rest.length) (hmx : ¬ May xs) (hmr : MayR r) :
    Calls Try.prog 5 #[.int .u64 (n : Int), .slice ao na ca, .agg #[.bool neg, .slice no nn nc, .slice eo en ec], .string (str s), .string (str rest)] w fun e w' => e = .returned (.bool true) ∧ Below w.heap.size w w' := by
  have hB0 : Below w.heap.size w (w.alloc (.cells #[.bool neg, .slice no nn nc, .slice eo en ec] 26)) := (Below.refl _ _).alloc (Nat.le_refl _) _
  have bx := RBox.new w neg no nn nc eo en ec
  have HP : Hid (PS w (w.alloc (.cells #[.bool neg, .slice no nn nc, .slice eo en ec] 26)) ao na ca xs neg no nn nc eo en ec r) := ⟨hB0, ha.below hB0, hr.below hB0, bx⟩
  have HA : Hid (r.neg = neg ∧ n < 18446744073709551616 ∧ s.length ≤ 9223372036854775807 ∧ (na : Int) ≤ 9223372036854775807 ∧ (nn : Int) ≤ 9223372036854775807 ∧ (en : Int) ≤ 9223372036854775807) :=
    ⟨hg, hn, hl, nn_most ha, nn_most hr.num, nn_most hr.den⟩
  have c0 := bx.c0
  have c1 := bx.c1
  have c2 := bx.c2
  have hsz : (str s).size = s.length := str_size s
  have hsr : (str rest).size = rest.length := str_size rest
  obtain ⟨A, hA⟩ : ∃ A, A = putL n ++ rest := ⟨_, rfl⟩
  obtain ⟨T, hT⟩ : ∃ T, T = putT s ++ rest := ⟨_, rfl⟩
  have a1 : str (putL n) ++ str rest = str A := by rw [str_append, hA]
  have a2 : str (putT s) ++ str rest = str T := by rw [str_append, hT]
  have z1 : (str (putL n)).size ≤ 9 := by rw [str_size]; exact putL_small n hn
  have z2 : (str (putT s)).size ≤ 1009 := by
    have := putL_small s.length (by omega)
    rw [str_size]
    unfold putT
    rw [List.length_append]
    omega
  have HV : Hid (¬ (20 < na ∨ 20 < nn ∨ 20 < en ∨ 1000 < s.length) ∧ s.length ≤ 80000 ∧ numL A = .ok (n, rest) ∧ A.length ≤ 80000 ∧ textL T = .ok (s, rest) ∧ T.length ≤ 70000) :=
    ⟨hv, by omega, by rw [hA]; exact numL_put n hn rest, by rw [hA, List.length_append]; have := putL_small n hn; omega, by rw [hT]; exact textL_put s (by omega) rest, by rw [hT, List.length_append]; rw [str_size] at z2; omega⟩
  have g3 : ¬ (300 : Int) < (rest.length : Int) := by omega
  have HX : Hid (NatPut xs [] 1) := .inr ⟨hmx, rfl, rfl⟩
  obtain ⟨R, hR⟩ : ∃ R, R = putR r ++ rest := ⟨_, rfl⟩
  have a4 : str (putR r) ++ str rest = str R := by rw [str_append, hR]
  have z4 : (str (putR r)).size ≤ 300 := by rw [str_size]; exact putR_small hmr
  have HR : Hid (RatPut r (putR r) 0 ∧ RatIs R (.ok (r, rest)) ∧ R.length ≤ 70000) :=
    ⟨.inl ⟨hmr, rfl, rfl⟩, by rw [hR]; exact RatIs.put r hmr hr.lim rest, by rw [hR, List.length_append]; rw [str_size] at z4; omega⟩
  clear bx hB0 ha hg hn hl hlr hv h3 hA hT hR hr hmx hmr
  go_enter Try.func5, Try.ntmps5
  go_wp2_with fail
  refine (heavy_no ao na ca neg no nn nc eo en ec s _ HV.out.1).mono ?_
  rintro e w1 ⟨rfl, b1⟩
  have H1 : Hid (PS w w1 ao na ca xs neg no nn nc eo en ec r) := HP.out.next b1
  clear b1 HP c0 c1 c2
  go_wp2_with fail
  refine (shown_any _).mono ?_
  rintro e w2 ⟨rfl, b2⟩
  have H2 : Hid (PS w w2 ao na ca xs neg no nn nc eo en ec r) := H1.out.next b2
  clear b2 H1
  go_wp2_with fail
  refine (put_n n _ HA.out.2.1).mono ?_
  rintro e w3 ⟨rfl, b3⟩
  have H3 : Hid (PS w w3 ao na ca xs neg no nn nc eo en ec r) := H2.out.next b3
  clear b3 H2
  go_wp2_with fail
  refine (get_ok A n rest _ HV.out.2.2.1 HV.out.2.2.2.1).mono ?_
  rintro e w4 ⟨rfl, b4⟩
  have H4 : Hid (PS w w4 ao na ca xs neg no nn nc eo en ec r) := H3.out.next b4
  clear b4 H3
  go_wp2_with fail
  refine (putText_any s _ HV.out.2.1).mono ?_
  rintro e w5 ⟨rfl, b5⟩
  have H5 : Hid (PS w w5 ao na ca xs neg no nn nc eo en ec r) := H4.out.next b5
  clear b5 H4
  go_wp2_with fail
  refine (getText_ok T s rest _ HV.out.2.2.2.2.1 (Nat.le_trans HV.out.2.2.2.2.2 (by decide))).mono ?_
  rintro e w6 ⟨rfl, b6⟩
  have H6 : Hid (PS w w6 ao na ca xs neg no nn nc eo en ec r) := H5.out.next b6
  clear b6 H5
  go_wp2_with fail
  refine (putNat_told _ _ _ xs [] 1 _ H6.out.row HX.out).mono ?_
  rintro e w9 ⟨rfl, b9⟩
  have H9 : Hid (PS w w9 ao na ca xs neg no nn nc eo en ec r) := H6.out.next b9
  clear b9 H6
  have p9 := H9.out.box
  have c0 := p9.c0
  have c1 := p9.c1
  have c2 := p9.c2
  clear p9
  go_wp2_with fail
  refine (putRat_told neg _ _ _ _ _ _ r (putR r) 0 _ H9.out.rat HA.out.1 HR.out.1).mono ?_
  rintro e w10 ⟨rfl, b10⟩
  have H10 : Hid (PS w w10 ao na ca xs neg no nn nc eo en ec r) := H9.out.next b10
  clear b10 H9 c0 c1 c2
  go_wp2_with fail
  refine (getRat_ok R r rest _ HR.out.2.1 HR.out.2.2).mono ?_
  rw [HA.out.1]
  rintro e w11 ⟨po, pn, qo, qn, rfl, rq, b11⟩
  have hb : Below w11.heap.size w11 (w11.alloc (.cells #[.bool neg, .slice po pn pn, .slice qo qn qn] 26)) := (Below.refl _ _).alloc (Nat.le_refl _) _
  have bx := RBox.new w11 neg po pn pn qo qn qn
  have H11 : Hid (PS w (w11.alloc (.cells #[.bool neg, .slice po pn pn, .slice qo qn qn] 26)) ao na ca xs neg no nn nc eo en ec r ∧ RatAt (w11.alloc (.cells #[.bool neg, .slice po pn pn, .slice qo qn qn] 26)) po pn pn qo qn qn r) := ⟨(H10.out.next b11).next hb, rq.below hb⟩
  have c0 := bx.c0
  have c1 := bx.c1
  have c2 := bx.c2
  have p11 := H11.out.1.box
  have d0 := p11.c0
  have d1 := p11.c1
  have d2 := p11.c2
  clear b11 rq hb bx p11 H10
  go_wp2_with fail
  refine (rsame_r neg _ _ _ _ _ _ _ _ _ _ _ _ r _ H11.out.2 H11.out.1.rat).mono ?_
  rintro e w12 ⟨rfl, b12⟩
  have H12 : Hid (PS w w12 ao na ca xs neg no nn nc eo en ec r) := H11.out.1.next b12
  clear b12 H11 c0 c1 c2 d0 d1 d2
  go_wp2_with fail
  go_ret
  exact ⟨rfl, H12.out.bel⟩

set_option maxRecDepth 100000 in
set_option maxHeartbeats 16000000 in
theorem back_10 (n : Nat) (ao : Option Addr) (na ca : Nat) (xs : List Int) (neg : Bool) (no : Option Addr) (nn nc : Nat) (eo : Option Addr) (en ec : Nat) (r : RatL) (s rest : List UInt8) (w : World)
    (hn : n < 18446744073709551616) (ha : RowAt w ao na ca xs) (hr : RatAt w no nn nc eo en ec r) (hg : r.neg = neg) (hl : s.length ≤ 9223372036854775807) (hlr : rest.length ≤ 9223372036854775807)
    (hv : ¬ (20 < na ∨ 20 < nn ∨ 20 < en ∨ 1000 < s.length)) (h3 : ¬ 300 < rest.length) (hmx : May xs) (hmr : ¬ MayR r) :
    Calls Try.prog 5 #[.int .u64 (n : Int), .slice ao na ca, .agg #[.bool neg, .slice no nn nc, .slice eo en ec], .string (str s), .string (str rest)] w fun e w' => e = .returned (.bool true) ∧ Below w.heap.size w w' := by
  have hB0 : Below w.heap.size w (w.alloc (.cells #[.bool neg, .slice no nn nc, .slice eo en ec] 26)) := (Below.refl _ _).alloc (Nat.le_refl _) _
  have bx := RBox.new w neg no nn nc eo en ec
  have HP : Hid (PS w (w.alloc (.cells #[.bool neg, .slice no nn nc, .slice eo en ec] 26)) ao na ca xs neg no nn nc eo en ec r) := ⟨hB0, ha.below hB0, hr.below hB0, bx⟩
  have HA : Hid (r.neg = neg ∧ n < 18446744073709551616 ∧ s.length ≤ 9223372036854775807 ∧ (na : Int) ≤ 9223372036854775807 ∧ (nn : Int) ≤ 9223372036854775807 ∧ (en : Int) ≤ 9223372036854775807) :=
    ⟨hg, hn, hl, nn_most ha, nn_most hr.num, nn_most hr.den⟩
  have c0 := bx.c0
  have c1 := bx.c1
  have c2 := bx.c2
  have hsz : (str s).size = s.length := str_size s
  have hsr : (str rest).size = rest.length := str_size rest
  obtain ⟨A, hA⟩ : ∃ A, A = putL n ++ rest := ⟨_, rfl⟩
  obtain ⟨T, hT⟩ : ∃ T, T = putT s ++ rest := ⟨_, rfl⟩
  have a1 : str (putL n) ++ str rest = str A := by rw [str_append, hA]
  have a2 : str (putT s) ++ str rest = str T := by rw [str_append, hT]
  have z1 : (str (putL n)).size ≤ 9 := by rw [str_size]; exact putL_small n hn
  have z2 : (str (putT s)).size ≤ 1009 := by
    have := putL_small s.length (by omega)
    rw [str_size]
    unfold putT
    rw [List.length_append]
    omega
  have HV : Hid (¬ (20 < na ∨ 20 < nn ∨ 20 < en ∨ 1000 < s.length) ∧ s.length ≤ 80000 ∧ numL A = .ok (n, rest) ∧ A.length ≤ 80000 ∧ textL T = .ok (s, rest) ∧ T.length ≤ 70000) :=
    ⟨hv, by omega, by rw [hA]; exact numL_put n hn rest, by rw [hA, List.length_append]; have := putL_small n hn; omega, by rw [hT]; exact textL_put s (by omega) rest, by rw [hT, List.length_append]; rw [str_size] at z2; omega⟩
  have g3 : ¬ (300 : Int) < (rest.length : Int) := by omega
  obtain ⟨N, hN⟩ : ∃ N, N = putN xs ++ rest := ⟨_, rfl⟩
  have a3 : str (putN xs) ++ str rest = str N := by rw [str_append, hN]
  have z3 := putN_small hmx
  have HX : Hid (NatPut xs (putN xs) 0 ∧ natL N = .ok (xs, rest) ∧ N.length ≤ 70000) :=
    ⟨.inl ⟨hmx, rfl, rfl⟩, by rw [hN]; exact natL_put xs hmx ha.limbs rest, by rw [hN, List.length_append]; rw [str_size] at z3; omega⟩
  have HR : Hid (RatPut r [] 1) := .inr ⟨hmr, rfl, rfl⟩
  have s0 : str [] = ByteArray.mk #[] := rfl
  clear bx hB0 ha hg hn hl hlr hv h3 hA hT hN hr hmx hmr
  go_enter Try.func5, Try.ntmps5
  go_wp2_with fail
  refine (heavy_no ao na ca neg no nn nc eo en ec s _ HV.out.1).mono ?_
  rintro e w1 ⟨rfl, b1⟩
  have H1 : Hid (PS w w1 ao na ca xs neg no nn nc eo en ec r) := HP.out.next b1
  clear b1 HP c0 c1 c2
  go_wp2_with fail
  refine (shown_any _).mono ?_
  rintro e w2 ⟨rfl, b2⟩
  have H2 : Hid (PS w w2 ao na ca xs neg no nn nc eo en ec r) := H1.out.next b2
  clear b2 H1
  go_wp2_with fail
  refine (put_n n _ HA.out.2.1).mono ?_
  rintro e w3 ⟨rfl, b3⟩
  have H3 : Hid (PS w w3 ao na ca xs neg no nn nc eo en ec r) := H2.out.next b3
  clear b3 H2
  go_wp2_with fail
  refine (get_ok A n rest _ HV.out.2.2.1 HV.out.2.2.2.1).mono ?_
  rintro e w4 ⟨rfl, b4⟩
  have H4 : Hid (PS w w4 ao na ca xs neg no nn nc eo en ec r) := H3.out.next b4
  clear b4 H3
  go_wp2_with fail
  refine (putText_any s _ HV.out.2.1).mono ?_
  rintro e w5 ⟨rfl, b5⟩
  have H5 : Hid (PS w w5 ao na ca xs neg no nn nc eo en ec r) := H4.out.next b5
  clear b5 H4
  go_wp2_with fail
  refine (getText_ok T s rest _ HV.out.2.2.2.2.1 (Nat.le_trans HV.out.2.2.2.2.2 (by decide))).mono ?_
  rintro e w6 ⟨rfl, b6⟩
  have H6 : Hid (PS w w6 ao na ca xs neg no nn nc eo en ec r) := H5.out.next b6
  clear b6 H5
  go_wp2_with fail
  refine (putNat_told _ _ _ xs (putN xs) 0 _ H6.out.row HX.out.1).mono ?_
  rintro e w7 ⟨rfl, b7⟩
  have H7 : Hid (PS w w7 ao na ca xs neg no nn nc eo en ec r) := H6.out.next b7
  clear b7 H6
  go_wp2_with fail
  refine (getNat_ok N xs rest _ HX.out.2.1 (Nat.le_trans HX.out.2.2 (by decide))).mono ?_
  rintro e w8 ⟨yo, ym, rfl, ry, _, b8⟩
  have H8 : Hid (PS w w8 ao na ca xs neg no nn nc eo en ec r ∧ RowAt w8 yo ym ym xs) := ⟨H7.out.next b8, ry⟩
  clear b8 ry H7
  go_wp2_with fail
  refine (nsame_b _ _ _ _ _ _ xs xs _ H8.out.2 H8.out.1.row true ⟨fun _ => rfl, fun _ => rfl⟩).mono ?_
  rintro e w9 ⟨rfl, b9⟩
  have H9 : Hid (PS w w9 ao na ca xs neg no nn nc eo en ec r) := H8.out.1.next b9
  clear b9 H8
  have p9 := H9.out.box
  have c0 := p9.c0
  have c1 := p9.c1
  have c2 := p9.c2
  clear p9
  go_wp2_with fail
  refine (putRat_told neg _ _ _ _ _ _ r [] 1 _ H9.out.rat HA.out.1 HR.out).mono ?_
  rintro e w10 ⟨rfl, b10⟩
  have H10 : Hid (PS w w10 ao na ca xs neg no nn nc eo en ec r) := H9.out.next b10
  clear b10 H9 c0 c1 c2
  go_wp2_with fail
  go_ret
  exact ⟨rfl, H10.out.bel⟩

set_option maxRecDepth 100000 in
set_option maxHeartbeats 16000000 in
theorem back_11 (n : Nat) (ao : Option Addr) (na ca : Nat) (xs : List Int) (neg : Bool) (no : Option Addr) (nn nc : Nat) (eo : Option Addr) (en ec : Nat) (r : RatL) (s rest : List UInt8) (w : World)
    (hn : n < 18446744073709551616) (ha : RowAt w ao na ca xs) (hr : RatAt w no nn nc eo en ec r) (hg : r.neg = neg) (hl : s.length ≤ 9223372036854775807) (hlr : rest.length ≤ 9223372036854775807)
    (hv : ¬ (20 < na ∨ 20 < nn ∨ 20 < en ∨ 1000 < s.length)) (h3 : ¬ 300 < rest.length) (hmx : May xs) (hmr : MayR r) :
    Calls Try.prog 5 #[.int .u64 (n : Int), .slice ao na ca, .agg #[.bool neg, .slice no nn nc, .slice eo en ec], .string (str s), .string (str rest)] w fun e w' => e = .returned (.bool true) ∧ Below w.heap.size w w' := by
  have hB0 : Below w.heap.size w (w.alloc (.cells #[.bool neg, .slice no nn nc, .slice eo en ec] 26)) := (Below.refl _ _).alloc (Nat.le_refl _) _
  have bx := RBox.new w neg no nn nc eo en ec
  have HP : Hid (PS w (w.alloc (.cells #[.bool neg, .slice no nn nc, .slice eo en ec] 26)) ao na ca xs neg no nn nc eo en ec r) := ⟨hB0, ha.below hB0, hr.below hB0, bx⟩
  have HA : Hid (r.neg = neg ∧ n < 18446744073709551616 ∧ s.length ≤ 9223372036854775807 ∧ (na : Int) ≤ 9223372036854775807 ∧ (nn : Int) ≤ 9223372036854775807 ∧ (en : Int) ≤ 9223372036854775807) :=
    ⟨hg, hn, hl, nn_most ha, nn_most hr.num, nn_most hr.den⟩
  have c0 := bx.c0
  have c1 := bx.c1
  have c2 := bx.c2
  have hsz : (str s).size = s.length := str_size s
  have hsr : (str rest).size = rest.length := str_size rest
  obtain ⟨A, hA⟩ : ∃ A, A = putL n ++ rest := ⟨_, rfl⟩
  obtain ⟨T, hT⟩ : ∃ T, T = putT s ++ rest := ⟨_, rfl⟩
  have a1 : str (putL n) ++ str rest = str A := by rw [str_append, hA]
  have a2 : str (putT s) ++ str rest = str T := by rw [str_append, hT]
  have z1 : (str (putL n)).size ≤ 9 := by rw [str_size]; exact putL_small n hn
  have z2 : (str (putT s)).size ≤ 1009 := by
    have := putL_small s.length (by omega)
    rw [str_size]
    unfold putT
    rw [List.length_append]
    omega
  have HV : Hid (¬ (20 < na ∨ 20 < nn ∨ 20 < en ∨ 1000 < s.length) ∧ s.length ≤ 80000 ∧ numL A = .ok (n, rest) ∧ A.length ≤ 80000 ∧ textL T = .ok (s, rest) ∧ T.length ≤ 70000) :=
    ⟨hv, by omega, by rw [hA]; exact numL_put n hn rest, by rw [hA, List.length_append]; have := putL_small n hn; omega, by rw [hT]; exact textL_put s (by omega) rest, by rw [hT, List.length_append]; rw [str_size] at z2; omega⟩
  have g3 : ¬ (300 : Int) < (rest.length : Int) := by omega
  obtain ⟨N, hN⟩ : ∃ N, N = putN xs ++ rest := ⟨_, rfl⟩
  have a3 : str (putN xs) ++ str rest = str N := by rw [str_append, hN]
  have z3 := putN_small hmx
  have HX : Hid (NatPut xs (putN xs) 0 ∧ natL N = .ok (xs, rest) ∧ N.length ≤ 70000) :=
    ⟨.inl ⟨hmx, rfl, rfl⟩, by rw [hN]; exact natL_put xs hmx ha.limbs rest, by rw [hN, List.length_append]; rw [str_size] at z3; omega⟩
  obtain ⟨R, hR⟩ : ∃ R, R = putR r ++ rest := ⟨_, rfl⟩
  have a4 : str (putR r) ++ str rest = str R := by rw [str_append, hR]
  have z4 : (str (putR r)).size ≤ 300 := by rw [str_size]; exact putR_small hmr
  have HR : Hid (RatPut r (putR r) 0 ∧ RatIs R (.ok (r, rest)) ∧ R.length ≤ 70000) :=
    ⟨.inl ⟨hmr, rfl, rfl⟩, by rw [hR]; exact RatIs.put r hmr hr.lim rest, by rw [hR, List.length_append]; rw [str_size] at z4; omega⟩
  clear bx hB0 ha hg hn hl hlr hv h3 hA hT hN hR hr hmx hmr
  go_enter Try.func5, Try.ntmps5
  go_wp2_with fail
  refine (heavy_no ao na ca neg no nn nc eo en ec s _ HV.out.1).mono ?_
  rintro e w1 ⟨rfl, b1⟩
  have H1 : Hid (PS w w1 ao na ca xs neg no nn nc eo en ec r) := HP.out.next b1
  clear b1 HP c0 c1 c2
  go_wp2_with fail
  refine (shown_any _).mono ?_
  rintro e w2 ⟨rfl, b2⟩
  have H2 : Hid (PS w w2 ao na ca xs neg no nn nc eo en ec r) := H1.out.next b2
  clear b2 H1
  go_wp2_with fail
  refine (put_n n _ HA.out.2.1).mono ?_
  rintro e w3 ⟨rfl, b3⟩
  have H3 : Hid (PS w w3 ao na ca xs neg no nn nc eo en ec r) := H2.out.next b3
  clear b3 H2
  go_wp2_with fail
  refine (get_ok A n rest _ HV.out.2.2.1 HV.out.2.2.2.1).mono ?_
  rintro e w4 ⟨rfl, b4⟩
  have H4 : Hid (PS w w4 ao na ca xs neg no nn nc eo en ec r) := H3.out.next b4
  clear b4 H3
  go_wp2_with fail
  refine (putText_any s _ HV.out.2.1).mono ?_
  rintro e w5 ⟨rfl, b5⟩
  have H5 : Hid (PS w w5 ao na ca xs neg no nn nc eo en ec r) := H4.out.next b5
  clear b5 H4
  go_wp2_with fail
  refine (getText_ok T s rest _ HV.out.2.2.2.2.1 (Nat.le_trans HV.out.2.2.2.2.2 (by decide))).mono ?_
  rintro e w6 ⟨rfl, b6⟩
  have H6 : Hid (PS w w6 ao na ca xs neg no nn nc eo en ec r) := H5.out.next b6
  clear b6 H5
  go_wp2_with fail
  refine (putNat_told _ _ _ xs (putN xs) 0 _ H6.out.row HX.out.1).mono ?_
  rintro e w7 ⟨rfl, b7⟩
  have H7 : Hid (PS w w7 ao na ca xs neg no nn nc eo en ec r) := H6.out.next b7
  clear b7 H6
  go_wp2_with fail
  refine (getNat_ok N xs rest _ HX.out.2.1 (Nat.le_trans HX.out.2.2 (by decide))).mono ?_
  rintro e w8 ⟨yo, ym, rfl, ry, _, b8⟩
  have H8 : Hid (PS w w8 ao na ca xs neg no nn nc eo en ec r ∧ RowAt w8 yo ym ym xs) := ⟨H7.out.next b8, ry⟩
  clear b8 ry H7
  go_wp2_with fail
  refine (nsame_b _ _ _ _ _ _ xs xs _ H8.out.2 H8.out.1.row true ⟨fun _ => rfl, fun _ => rfl⟩).mono ?_
  rintro e w9 ⟨rfl, b9⟩
  have H9 : Hid (PS w w9 ao na ca xs neg no nn nc eo en ec r) := H8.out.1.next b9
  clear b9 H8
  have p9 := H9.out.box
  have c0 := p9.c0
  have c1 := p9.c1
  have c2 := p9.c2
  clear p9
  go_wp2_with fail
  refine (putRat_told neg _ _ _ _ _ _ r (putR r) 0 _ H9.out.rat HA.out.1 HR.out.1).mono ?_
  rintro e w10 ⟨rfl, b10⟩
  have H10 : Hid (PS w w10 ao na ca xs neg no nn nc eo en ec r) := H9.out.next b10
  clear b10 H9 c0 c1 c2
  go_wp2_with fail
  refine (getRat_ok R r rest _ HR.out.2.1 HR.out.2.2).mono ?_
  rw [HA.out.1]
  rintro e w11 ⟨po, pn, qo, qn, rfl, rq, b11⟩
  have hb : Below w11.heap.size w11 (w11.alloc (.cells #[.bool neg, .slice po pn pn, .slice qo qn qn] 26)) := (Below.refl _ _).alloc (Nat.le_refl _) _
  have bx := RBox.new w11 neg po pn pn qo qn qn
  have H11 : Hid (PS w (w11.alloc (.cells #[.bool neg, .slice po pn pn, .slice qo qn qn] 26)) ao na ca xs neg no nn nc eo en ec r ∧ RatAt (w11.alloc (.cells #[.bool neg, .slice po pn pn, .slice qo qn qn] 26)) po pn pn qo qn qn r) := ⟨(H10.out.next b11).next hb, rq.below hb⟩
  have c0 := bx.c0
  have c1 := bx.c1
  have c2 := bx.c2
  have p11 := H11.out.1.box
  have d0 := p11.c0
  have d1 := p11.c1
  have d2 := p11.c2
  clear b11 rq hb bx p11 H10
  go_wp2_with fail
  refine (rsame_r neg _ _ _ _ _ _ _ _ _ _ _ _ r _ H11.out.2 H11.out.1.rat).mono ?_
  rintro e w12 ⟨rfl, b12⟩
  have H12 : Hid (PS w w12 ao na ca xs neg no nn nc eo en ec r) := H11.out.1.next b12
  clear b12 H11 c0 c1 c2 d0 d1 d2
  go_wp2_with fail
  go_ret
  exact ⟨rfl, H12.out.bel⟩

theorem back_walk (n : Nat) (ao : Option Addr) (na ca : Nat) (xs : List Int) (neg : Bool) (no : Option Addr) (nn nc : Nat) (eo : Option Addr) (en ec : Nat) (r : RatL) (s rest : List UInt8) (w : World)
    (hn : n < 18446744073709551616) (ha : RowAt w ao na ca xs) (hr : RatAt w no nn nc eo en ec r) (hg : r.neg = neg) (hl : s.length ≤ 9223372036854775807) (hlr : rest.length ≤ 9223372036854775807) :
    Calls Try.prog 5 #[.int .u64 (n : Int), .slice ao na ca, .agg #[.bool neg, .slice no nn nc, .slice eo en ec], .string (str s), .string (str rest)] w fun e w' => e = .returned (.bool true) ∧ Below w.heap.size w w' := by
  by_cases hv : 20 < na ∨ 20 < nn ∨ 20 < en ∨ 1000 < s.length
  · exact back_heavy n ao na ca xs neg no nn nc eo en ec r s rest w hn ha hr hg hl hlr hv
  by_cases h3 : 300 < rest.length
  · exact back_long n ao na ca xs neg no nn nc eo en ec r s rest w hn ha hr hg hl hlr hv h3
  by_cases hx : May xs
  · by_cases hm : MayR r
    · exact back_11 n ao na ca xs neg no nn nc eo en ec r s rest w hn ha hr hg hl hlr hv h3 hx hm
    · exact back_10 n ao na ca xs neg no nn nc eo en ec r s rest w hn ha hr hg hl hlr hv h3 hx hm
  · by_cases hm : MayR r
    · exact back_01 n ao na ca xs neg no nn nc eo en ec r s rest w hn ha hr hg hl hlr hv h3 hx hm
    · exact back_00 n ao na ca xs neg no nn nc eo en ec r s rest w hn ha hr hg hl hlr hv h3 hx hm
end Go.Proofs.Ytmmbgfbliekkgaa
