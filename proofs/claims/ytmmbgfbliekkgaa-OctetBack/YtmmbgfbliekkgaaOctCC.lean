/-
  OctetPuts, walked.
-/
import Derived.Test.YtmmbgfbliekkgaaOctBB
namespace Go.Proofs.Ytmmbgfbliekkgaa
open Go.RowKit

set_option maxRecDepth 100000 in
set_option maxHeartbeats 8000000 in
theorem heavy_yes (ao : Option Addr) (na ca : Nat) (neg : Bool) (no : Option Addr) (nn nc : Nat) (eo : Option Addr) (en ec : Nat) (s : List UInt8) (w : World) (hna : (na : Int) ≤ 9223372036854775807) (hnn : (nn : Int) ≤ 9223372036854775807) (hen : (en : Int) ≤ 9223372036854775807) (hs : s.length ≤ 9223372036854775807)
    (h : 20 < na ∨ 20 < nn ∨ 20 < en ∨ 1000 < s.length) :
    Calls Try.prog 9 #[.slice ao na ca, .agg #[.bool neg, .slice no nn nc, .slice eo en ec], .string (str s)] w fun e w' => e = .returned (.bool true) ∧ Below w.heap.size w w' := by
  have hsz : (str s).size = s.length := str_size s
  have hs2 : (s.length : Int) ≤ 9223372036854775807 := by omega
  have bx := RBox.new w neg no nn nc eo en ec
  have hB0 : Below w.heap.size w (w.alloc (.cells #[.bool neg, .slice no nn nc, .slice eo en ec] 26)) := (Below.refl _ _).alloc (Nat.le_refl _) _
  have HB : Hid (Below w.heap.size w (w.alloc (.cells #[.bool neg, .slice no nn nc, .slice eo en ec] 26))) := hB0
  have c0 := bx.c0
  have c1 := bx.c1
  have c2 := bx.c2
  clear bx hB0 hs
  by_cases h1 : 20 < na
  · have g1 : (20 : Int) < (na : Int) := by omega
    clear h h1
    go_enter Try.func9, Try.ntmps9
    go_wp2
    go_ret
    exact ⟨rfl, HB.out⟩
  have g1 : ¬ (20 : Int) < (na : Int) := by omega
  by_cases h2 : 20 < nn
  · have g2 : (20 : Int) < (nn : Int) := by omega
    clear h h1 h2
    go_enter Try.func9, Try.ntmps9
    go_wp2
    go_ret
    exact ⟨rfl, HB.out⟩
  have g2 : ¬ (20 : Int) < (nn : Int) := by omega
  by_cases h3 : 20 < en
  · have g3 : (20 : Int) < (en : Int) := by omega
    clear h h1 h2 h3
    go_enter Try.func9, Try.ntmps9
    go_wp2
    go_ret
    exact ⟨rfl, HB.out⟩
  have g3 : ¬ (20 : Int) < (en : Int) := by omega
  have g4 : (1000 : Int) < (s.length : Int) := by omega
  clear h h1 h2 h3
  go_enter Try.func9, Try.ntmps9
  go_wp2
  go_ret
  exact ⟨rfl, HB.out⟩

set_option maxRecDepth 100000 in
set_option maxHeartbeats 8000000 in
theorem heavy_no (ao : Option Addr) (na ca : Nat) (neg : Bool) (no : Option Addr) (nn nc : Nat) (eo : Option Addr) (en ec : Nat) (s : List UInt8) (w : World) (h : ¬ (20 < na ∨ 20 < nn ∨ 20 < en ∨ 1000 < s.length)) :
    Calls Try.prog 9 #[.slice ao na ca, .agg #[.bool neg, .slice no nn nc, .slice eo en ec], .string (str s)] w fun e w' => e = .returned (.bool false) ∧ Below w.heap.size w w' := by
  have hsz : (str s).size = s.length := str_size s
  have bx := RBox.new w neg no nn nc eo en ec
  have hB0 : Below w.heap.size w (w.alloc (.cells #[.bool neg, .slice no nn nc, .slice eo en ec] 26)) := (Below.refl _ _).alloc (Nat.le_refl _) _
  have HB : Hid (Below w.heap.size w (w.alloc (.cells #[.bool neg, .slice no nn nc, .slice eo en ec] 26))) := hB0
  have c0 := bx.c0
  have c1 := bx.c1
  have c2 := bx.c2
  have g1 : ¬ (20 : Int) < (na : Int) := by omega
  have g2 : ¬ (20 : Int) < (nn : Int) := by omega
  have g3 : ¬ (20 : Int) < (en : Int) := by omega
  have g4 : ¬ (1000 : Int) < (s.length : Int) := by omega
  clear bx hB0 h
  go_enter Try.func9, Try.ntmps9
  go_wp2
  go_ret
  exact ⟨rfl, HB.out⟩

/-- What lies there: the arguments, and the number's variable. -/
structure PS (w W : World) (ao : Option Addr) (na ca : Nat) (xs : List Int) (neg : Bool) (no : Option Addr) (nn nc : Nat) (eo : Option Addr) (en ec : Nat) (r : RatL) : Prop where
  bel : Below w.heap.size w W
  row : RowAt W ao na ca xs
  rat : RatAt W no nn nc eo en ec r
  box : RBox W w.heap.size neg no nn nc eo en ec
theorem PS.next {w W W' : World} {ao : Option Addr} {na ca : Nat} {xs : List Int} {neg : Bool} {no : Option Addr} {nn nc : Nat} {eo : Option Addr} {en ec : Nat} {r : RatL} (h : PS w W ao na ca xs neg no nn nc eo en ec r) (b : Below W.heap.size W W') : PS w W' ao na ca xs neg no nn nc eo en ec r :=
  ⟨chain h.bel b, h.row.below b, h.rat.below b, h.box.below b⟩

set_option maxRecDepth 100000 in
set_option maxHeartbeats 8000000 in
theorem puts_walk (n : Nat) (ao : Option Addr) (na ca : Nat) (xs : List Int) (neg : Bool) (no : Option Addr) (nn nc : Nat) (eo : Option Addr) (en ec : Nat) (r : RatL) (s : List UInt8) (w : World)
    (hn : n < 18446744073709551616) (ha : RowAt w ao na ca xs) (hr : RatAt w no nn nc eo en ec r) (hg : r.neg = neg) (hl : s.length ≤ 9223372036854775807) :
    Calls Try.prog 3 #[.int .u64 (n : Int), .slice ao na ca, .agg #[.bool neg, .slice no nn nc, .slice eo en ec], .string (str s)] w fun e w' => e = .returned (.bool true) ∧ Below w.heap.size w w' := by
  have hB0 : Below w.heap.size w (w.alloc (.cells #[.bool neg, .slice no nn nc, .slice eo en ec] 26)) := (Below.refl _ _).alloc (Nat.le_refl _) _
  have bx := RBox.new w neg no nn nc eo en ec
  have HA : Hid (RowAt (w.alloc (.cells #[.bool neg, .slice no nn nc, .slice eo en ec] 26)) ao na ca xs ∧ RatAt (w.alloc (.cells #[.bool neg, .slice no nn nc, .slice eo en ec] 26)) no nn nc eo en ec r ∧ RBox (w.alloc (.cells #[.bool neg, .slice no nn nc, .slice eo en ec] 26)) w.heap.size neg no nn nc eo en ec ∧ Below w.heap.size w (w.alloc (.cells #[.bool neg, .slice no nn nc, .slice eo en ec] 26)) ∧ r.neg = neg ∧ n < 18446744073709551616 ∧ s.length ≤ 9223372036854775807 ∧ (na : Int) ≤ 9223372036854775807 ∧ (nn : Int) ≤ 9223372036854775807 ∧ (en : Int) ≤ 9223372036854775807) :=
    ⟨ha.below hB0, hr.below hB0, bx, hB0, hg, hn, hl, nn_most ha, nn_most hr.num, nn_most hr.den⟩
  have c0 := bx.c0
  have c1 := bx.c1
  have c2 := bx.c2
  have hsz : (str s).size = s.length := str_size s
  clear bx hB0 ha hr hg hn hl
  by_cases hv : 20 < na ∨ 20 < nn ∨ 20 < en ∨ 1000 < s.length
  · have HV : Hid (20 < na ∨ 20 < nn ∨ 20 < en ∨ 1000 < s.length) := hv
    clear hv
    go_enter Try.func3, Try.ntmps3
    go_wp2_with fail
    refine (heavy_yes ao na ca neg no nn nc eo en ec s _ HA.out.2.2.2.2.2.2.2.1 HA.out.2.2.2.2.2.2.2.2.1 HA.out.2.2.2.2.2.2.2.2.2 HA.out.2.2.2.2.2.2.1 HV.out).mono ?_
    rintro e w1 ⟨rfl, b1⟩
    have H1 : Hid (Below w.heap.size w w1) := chain HA.out.2.2.2.1 b1
    clear b1 c0 c1 c2
    go_wp2_with fail
    refine (shown_any _).mono ?_
    rintro e w2 ⟨rfl, b2⟩
    have H2 : Hid (Below w.heap.size w w2) := chain H1.out b2
    clear b2
    go_wp2_with fail
    go_ret
    exact ⟨rfl, H2.out⟩
  obtain ⟨S, k, hp, hS⟩ := NatPut.ex xs
  obtain ⟨T, j, hq, hT⟩ := RatPut.ex r
  have HV : Hid (¬ (20 < na ∨ 20 < nn ∨ 20 < en ∨ 1000 < s.length) ∧ s.length ≤ 80000 ∧ NatPut xs S k ∧ RatPut r T j) := ⟨hv, by omega, hp, hq⟩
  clear hv hp hq hS hT
  go_enter Try.func3, Try.ntmps3
  go_wp2_with fail
  refine (heavy_no ao na ca neg no nn nc eo en ec s _ HV.out.1).mono ?_
  rintro e w1 ⟨rfl, b1⟩
  have H1 : Hid (PS w w1 ao na ca xs neg no nn nc eo en ec r) := (PS.mk HA.out.2.2.2.1 HA.out.1 HA.out.2.1 HA.out.2.2.1).next b1
  clear b1 c0 c1 c2
  go_wp2_with fail
  refine (shown_any _).mono ?_
  rintro e w2 ⟨rfl, b2⟩
  have H2 : Hid (PS w w2 ao na ca xs neg no nn nc eo en ec r) := H1.out.next b2
  clear b2 H1
  go_wp2_with fail
  refine (putNat_told _ _ _ xs S k _ H2.out.row HV.out.2.2.1).mono ?_
  rintro e w3 ⟨rfl, b3⟩
  have H3 : Hid (PS w w3 ao na ca xs neg no nn nc eo en ec r) := H2.out.next b3
  clear b3 H2
  go_wp2_with fail
  refine (rputNat_told _ _ _ xs S k _ H3.out.row HV.out.2.2.1).mono ?_
  rintro e w4 ⟨rfl, b4⟩
  have H4 : Hid (PS w w4 ao na ca xs neg no nn nc eo en ec r) := H3.out.next b4
  clear b4 H3
  have p4 := H4.out.box
  have c0 := p4.c0
  have c1 := p4.c1
  have c2 := p4.c2
  clear p4
  go_wp2_with fail
  refine (putRat_told neg _ _ _ _ _ _ r T j _ H4.out.rat HA.out.2.2.2.2.1 HV.out.2.2.2).mono ?_
  rintro e w5 ⟨rfl, b5⟩
  have H5 : Hid (PS w w5 ao na ca xs neg no nn nc eo en ec r) := H4.out.next b5
  clear b5 H4 c0 c1 c2
  have p5 := H5.out.box
  have c0 := p5.c0
  have c1 := p5.c1
  have c2 := p5.c2
  clear p5
  go_wp2_with fail
  refine (rputRat_told neg _ _ _ _ _ _ r T j _ H5.out.rat HA.out.2.2.2.2.1 HV.out.2.2.2).mono ?_
  rintro e w6 ⟨rfl, b6⟩
  have H6 : Hid (PS w w6 ao na ca xs neg no nn nc eo en ec r) := H5.out.next b6
  clear b6 H5 c0 c1 c2
  go_wp2_with fail
  refine (put_n n _ HA.out.2.2.2.2.2.1).mono ?_
  rintro e w7 ⟨rfl, b7⟩
  have H7 : Hid (PS w w7 ao na ca xs neg no nn nc eo en ec r) := H6.out.next b7
  clear b7 H6
  go_wp2_with fail
  refine (rput_n n _ HA.out.2.2.2.2.2.1).mono ?_
  rintro e w8 ⟨rfl, b8⟩
  have H8 : Hid (PS w w8 ao na ca xs neg no nn nc eo en ec r) := H7.out.next b8
  clear b8 H7
  go_wp2_with fail
  refine (putText_any s _ HV.out.2.1).mono ?_
  rintro e w9 ⟨rfl, b9⟩
  have H9 : Hid (PS w w9 ao na ca xs neg no nn nc eo en ec r) := H8.out.next b9
  clear b9 H8
  go_wp2_with fail
  refine (rputText_any s _ HV.out.2.1).mono ?_
  rintro e w10 ⟨rfl, b10⟩
  have H10 : Hid (PS w w10 ao na ca xs neg no nn nc eo en ec r) := H9.out.next b10
  clear b10 H9
  go_wp2_with fail
  go_ret
  exact ⟨rfl, H10.out.bel⟩
end Go.Proofs.Ytmmbgfbliekkgaa
