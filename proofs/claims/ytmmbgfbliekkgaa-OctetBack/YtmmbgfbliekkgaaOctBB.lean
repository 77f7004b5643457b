/-
  The reference's PutRat.
-/
import Derived.Test.YtmmbgfbliekkgaaOctAA
import Derived.Test.YtmmbgfbliekkgaaJ1
import Derived.Test.YtmmbgfbliekkgaaOctS
namespace Go.Proofs.Ytmmbgfbliekkgaa
open Go.RowKit

set_option maxRecDepth 100000 in
set_option maxHeartbeats 2000000 in
theorem rputRat_bad (neg : Bool) (no : Option Addr) (nn nc : Nat) (eo : Option Addr) (en ec : Nat) (r : RatL) (w : World) (h : RatAt w no nn nc eo en ec r) (hg : r.neg = neg) (hm : ¬ MayR r) :
    Calls Try.prog 14 #[.agg #[.bool neg, .slice no nn nc, .slice eo en ec]] w fun e w' => e = .returned (.tuple #[.string (str []), .int .i64 1]) ∧ Below w.heap.size w w' := by
  have bx := RBox.new w neg no nn nc eo en ec
  have hB0 : Below w.heap.size w (w.alloc (.cells #[.bool neg, .slice no nn nc, .slice eo en ec] 26)) := (Below.refl _ _).alloc (Nat.le_refl _) _
  have H : Hid (RatAt (w.alloc (.cells #[.bool neg, .slice no nn nc, .slice eo en ec] 26)) no nn nc eo en ec r ∧ Below w.heap.size w (w.alloc (.cells #[.bool neg, .slice no nn nc, .slice eo en ec] 26)) ∧ r.neg = neg ∧ ¬ MayR r) := ⟨h.below hB0, hB0, hg, hm⟩
  have c0 := bx.c0
  have c1 := bx.c1
  have c2 := bx.c2
  clear bx hB0 h hg hm
  go_enter Try.func14, Try.ntmps14
  go_wp2_with fail
  refine (rrmay_r _ _ _ _ _ _ _ r _ H.out.1 H.out.2.2.1 false ⟨(fun e => by cases e), fun e => absurd e H.out.2.2.2⟩).mono ?_
  rintro e w1 ⟨rfl, b1⟩
  have H1 : Hid (Below w.heap.size w w1) := chain H.out.2.1 b1
  clear b1
  go_wp2_with fail
  go_ret2
  exact ⟨rfl, H1.out⟩

set_option maxRecDepth 100000 in
set_option maxHeartbeats 2000000 in
theorem rputRat_ok (neg : Bool) (no : Option Addr) (nn nc : Nat) (eo : Option Addr) (en ec : Nat) (r : RatL) (w : World) (h : RatAt w no nn nc eo en ec r) (hg : r.neg = neg) (hm : MayR r) :
    Calls Try.prog 14 #[.agg #[.bool neg, .slice no nn nc, .slice eo en ec]] w fun e w' => e = .returned (.tuple #[.string (str (putR r)), .int .i64 0]) ∧ Below w.heap.size w w' := by
  have bx := RBox.new w neg no nn nc eo en ec
  have hB0 : Below w.heap.size w (w.alloc (.cells #[.bool neg, .slice no nn nc, .slice eo en ec] 26)) := (Below.refl _ _).alloc (Nat.le_refl _) _
  have H : Hid (RatAt (w.alloc (.cells #[.bool neg, .slice no nn nc, .slice eo en ec] 26)) no nn nc eo en ec r ∧ RBox (w.alloc (.cells #[.bool neg, .slice no nn nc, .slice eo en ec] 26)) w.heap.size neg no nn nc eo en ec ∧ Below w.heap.size w (w.alloc (.cells #[.bool neg, .slice no nn nc, .slice eo en ec] 26)) ∧ r.neg = neg ∧ MayR r) := ⟨h.below hB0, bx, hB0, hg, hm⟩
  have c0 := bx.c0
  have c1 := bx.c1
  have c2 := bx.c2
  have z1 := putN_small hm.num
  have z2 := putN_small hm.den
  obtain ⟨X, hX⟩ : ∃ X, X = putN r.num := ⟨_, rfl⟩
  obtain ⟨Y, hY⟩ : ∃ Y, Y = putN r.den := ⟨_, rfl⟩
  rw [← hX] at z1
  rw [← hY] at z2
  have a1 := str_cons 0 X
  have a2 := str_cons 1 X
  have a3 := str_append (0 :: X) Y
  have a4 := str_append (1 :: X) Y
  have z3 : (str (0 :: X)).size = (str X).size + 1 := by rw [str_size, str_size]; rfl
  have z4 : (str (1 :: X)).size = (str X).size + 1 := by rw [str_size, str_size]; rfl
  have HX : Hid (X = putN r.num ∧ Y = putN r.den) := ⟨hX, hY⟩
  clear bx hB0 h hg hm hX hY
  go_enter Try.func14, Try.ntmps14
  go_wp2_with fail
  refine (rrmay_r _ _ _ _ _ _ _ r _ H.out.1 H.out.2.2.2.1 true ⟨fun _ => H.out.2.2.2.2, fun _ => rfl⟩).mono ?_
  rintro e w1 ⟨rfl, b1⟩
  have bx1 := H.out.2.1.below b1
  have H1 : Hid (RatAt w1 no nn nc eo en ec r ∧ RBox w1 w.heap.size neg no nn nc eo en ec ∧ Below w.heap.size w w1) := ⟨H.out.1.below b1, bx1, chain H.out.2.2.1 b1⟩
  have d0 := bx1.c0
  have d1 := bx1.c1
  clear b1 bx1 c0 c1 c2
  have HN : Hid (r.neg = neg) := H.out.2.2.2.1
  cases neg with
  | false =>
    go_wp2_with fail
    refine (rputNat_ok _ _ _ r.num _ H1.out.1.num H.out.2.2.2.2.num).mono ?_
    rw [← HX.out.1]
    rintro e w2 ⟨rfl, b2⟩
    have bx2 := H1.out.2.1.below b2
    have H2 : Hid (RatAt w2 no nn nc eo en ec r ∧ Below w.heap.size w w2) := ⟨H1.out.1.below b2, chain H1.out.2.2 b2⟩
    have e2 := bx2.c2
    clear b2 bx2 d0 d1
    go_wp2_with fail
    refine (rputNat_ok _ _ _ r.den _ H2.out.1.den H.out.2.2.2.2.den).mono ?_
    rw [← HX.out.2]
    rintro e w3 ⟨rfl, b3⟩
    have H3 : Hid (Below w.heap.size w w3) := chain H2.out.2 b3
    clear b3 e2
    go_wp2_with fail
    go_ret2
    refine ⟨?_, H3.out⟩
    unfold putR
    rw [HN.out, ← HX.out.1, ← HX.out.2]
    rfl
  | true =>
    go_wp2_with fail
    refine (rputNat_ok _ _ _ r.num _ H1.out.1.num H.out.2.2.2.2.num).mono ?_
    rw [← HX.out.1]
    rintro e w2 ⟨rfl, b2⟩
    have bx2 := H1.out.2.1.below b2
    have H2 : Hid (RatAt w2 no nn nc eo en ec r ∧ Below w.heap.size w w2) := ⟨H1.out.1.below b2, chain H1.out.2.2 b2⟩
    have e2 := bx2.c2
    clear b2 bx2 d0 d1
    go_wp2_with fail
    refine (rputNat_ok _ _ _ r.den _ H2.out.1.den H.out.2.2.2.2.den).mono ?_
    rw [← HX.out.2]
    rintro e w3 ⟨rfl, b3⟩
    have H3 : Hid (Below w.heap.size w w3) := chain H2.out.2 b3
    clear b3 e2
    go_wp2_with fail
    go_ret2
    refine ⟨?_, H3.out⟩
    unfold putR
    rw [HN.out, ← HX.out.1, ← HX.out.2]
    rfl

/-- What PutNat tells. -/
def NatPut (xs : List Int) (S : List UInt8) (k : Int) : Prop := (May xs ∧ S = putN xs ∧ k = 0) ∨ (¬ May xs ∧ S = [] ∧ k = 1)
theorem NatPut.ex (xs : List Int) : ∃ S k, NatPut xs S k ∧ S.length ≤ 100 := by
  by_cases h : May xs
  · exact ⟨putN xs, 0, .inl ⟨h, rfl, rfl⟩, by have := putN_small h; rwa [str_size] at this⟩
  · exact ⟨[], 1, .inr ⟨h, rfl, rfl⟩, by simp⟩
theorem putNat_told (ao : Option Addr) (n cap : Nat) (xs : List Int) (S : List UInt8) (k : Int) (w : World) (h : RowAt w ao n cap xs) (hp : NatPut xs S k) :
    Calls Try.prog 11 #[.slice ao n cap] w fun e w' => e = .returned (.tuple #[.string (str S), .int .i64 k]) ∧ Below w.heap.size w w' := by
  rcases hp with ⟨hm, rfl, rfl⟩ | ⟨hm, rfl, rfl⟩
  · exact putNat_ok ao n cap xs w h hm
  · exact putNat_bad ao n cap xs w h hm
theorem rputNat_told (ao : Option Addr) (n cap : Nat) (xs : List Int) (S : List UInt8) (k : Int) (w : World) (h : RowAt w ao n cap xs) (hp : NatPut xs S k) :
    Calls Try.prog 12 #[.slice ao n cap] w fun e w' => e = .returned (.tuple #[.string (str S), .int .i64 k]) ∧ Below w.heap.size w w' := by
  rcases hp with ⟨hm, rfl, rfl⟩ | ⟨hm, rfl, rfl⟩
  · exact rputNat_ok ao n cap xs w h hm
  · exact rputNat_bad ao n cap xs w h hm

/-- What PutRat tells. -/
def RatPut (r : RatL) (S : List UInt8) (k : Int) : Prop := (MayR r ∧ S = putR r ∧ k = 0) ∨ (¬ MayR r ∧ S = [] ∧ k = 1)
theorem RatPut.ex (r : RatL) : ∃ S k, RatPut r S k ∧ S.length ≤ 300 := by
  by_cases h : MayR r
  · exact ⟨putR r, 0, .inl ⟨h, rfl, rfl⟩, putR_small h⟩
  · exact ⟨[], 1, .inr ⟨h, rfl, rfl⟩, by simp⟩
theorem putRat_told (neg : Bool) (no : Option Addr) (nn nc : Nat) (eo : Option Addr) (en ec : Nat) (r : RatL) (S : List UInt8) (k : Int) (w : World) (h : RatAt w no nn nc eo en ec r) (hg : r.neg = neg) (hp : RatPut r S k) :
    Calls Try.prog 13 #[.agg #[.bool neg, .slice no nn nc, .slice eo en ec]] w fun e w' => e = .returned (.tuple #[.string (str S), .int .i64 k]) ∧ Below w.heap.size w w' := by
  rcases hp with ⟨hm, rfl, rfl⟩ | ⟨hm, rfl, rfl⟩
  · exact putRat_ok neg no nn nc eo en ec r w h hg hm
  · exact putRat_bad neg no nn nc eo en ec r w h hg hm
theorem rputRat_told (neg : Bool) (no : Option Addr) (nn nc : Nat) (eo : Option Addr) (en ec : Nat) (r : RatL) (S : List UInt8) (k : Int) (w : World) (h : RatAt w no nn nc eo en ec r) (hg : r.neg = neg) (hp : RatPut r S k) :
    Calls Try.prog 14 #[.agg #[.bool neg, .slice no nn nc, .slice eo en ec]] w fun e w' => e = .returned (.tuple #[.string (str S), .int .i64 k]) ∧ Below w.heap.size w w' := by
  rcases hp with ⟨hm, rfl, rfl⟩ | ⟨hm, rfl, rfl⟩
  · exact rputRat_ok neg no nn nc eo en ec r w h hg hm
  · exact rputRat_bad neg no nn nc eo en ec r w h hg hm
end Go.Proofs.Ytmmbgfbliekkgaa
