/-
  GuardTells, walked.
-/
import Derived.Test.YtfpiepephljmgaaDoorGSame
import Derived.Test.YtfpiepephljmgaaDoorGArg
namespace Go.Proofs.YtfpiepephljmgaaDoor
open Go.ChangeShapes Go.WideShapes Go.ChangeAt Go.RowKit

/-- What Put tells. -/
def putB (f : Frm) : List UInt8 := if 8192 < f.text.length then [] else putF f
def putE (f : Frm) : Int := if 8192 < f.text.length then 71 else 0

theorem put_any (x y : Nat) (T : List UInt8) (w : World) (hT : Tab w) (hx : x < 18446744073709551616) (hy : y < 18446744073709551616) (hl : T.length ≤ 1000000000) (B : List UInt8) (E : Int) (hB : B = putB ⟨x, y, T⟩) (hE : E = putE ⟨x, y, T⟩) :
    Calls Tryd.prog 11 #[.agg #[.int .u64 (x : Int), .int .u64 (y : Int), .string (str T)]] w fun e w' => e = .returned (.tuple #[.string (str B), .int .i64 E]) ∧ Below w.heap.size w w' := by
  subst hB hE
  unfold putB putE
  by_cases h : 8192 < T.length
  · rw [if_pos h, if_pos h]; exact put_cap x y T w h hl
  · rw [if_neg h, if_neg h]; exact put_ok x y T w hT hx hy (by omega)

theorem rput_any (x y : Nat) (T : List UInt8) (w : World) (hT : Tab w) (hx : x < 18446744073709551616) (hy : y < 18446744073709551616) (hl : T.length ≤ 1000000000) (B : List UInt8) (E : Int) (hB : B = putB ⟨x, y, T⟩) (hE : E = putE ⟨x, y, T⟩) :
    Calls Tryd.prog 12 #[.agg #[.int .u64 (x : Int), .int .u64 (y : Int), .string (str T)]] w fun e w' => e = .returned (.tuple #[.string (str B), .int .i64 E]) ∧ Below w.heap.size w w' := by
  subst hB hE
  unfold putB putE
  by_cases h : 8192 < T.length
  · rw [if_pos h, if_pos h]; exact rput_cap x y T w h hl
  · rw [if_neg h, if_neg h]; exact rput_ok x y T w hT hx hy (by omega)

theorem told_ex (s : List UInt8) : ∃ (x y : Nat) (t r : List UInt8) (k : Int), told (firstL s) = .tuple #[.agg #[.int .u64 (x : Int), .int .u64 (y : Int), .string (str t)], .string (str r), .int .i64 k] := by
  cases firstL s with
  | error k => exact ⟨0, 0, [], [], k, rfl⟩
  | ok p => obtain ⟨⟨x, y, t⟩, r⟩ := p; exact ⟨x, y, t, r, 0, rfl⟩

set_option maxRecDepth 100000 in
set_option maxHeartbeats 8000000 in
theorem tell_walk (x y : Int) (T a1 : ByteArray) (a2 : Int) (w : World) (w0 : (Lit.int .u64 x).wf = true ∧ (Lit.int .u64 y).wf = true ∧ T.size ≤ maxLen) (w1 : a1.size ≤ maxLen) (w2 : (Lit.int .u64 a2).wf = true) (hT : Tab w) :
    Calls Tryd.prog 3 #[.agg #[.int .u64 x, .int .u64 y, .string T], .string a1, .int .u64 a2] w fun e w' => e = .returned (.bool true) ∧ Below w.heap.size w w' := by
  obtain ⟨x0, x1⟩ := bounds_u64 w0.1
  obtain ⟨y0, y1⟩ := bounds_u64 w0.2.1
  have t1 := w0.2.2
  obtain ⟨q0, q1⟩ := bounds_u64 w2
  obtain ⟨x, rfl⟩ := Int.eq_ofNat_of_zero_le x0
  obtain ⟨y, rfl⟩ := Int.eq_ofNat_of_zero_le y0
  obtain ⟨ep, rfl⟩ := Int.eq_ofNat_of_zero_le q0
  obtain ⟨t, rfl⟩ := str_of T
  obtain ⟨s, rfl⟩ := str_of a1
  have hsz : (str t).size = t.length := str_size t
  have hsm : (str s).size = s.length := str_size s
  have bx := FBox.new w x y (str t)
  have bW : Below w.heap.size w (w.alloc (.cells #[.int .u64 (x : Int), .int .u64 (y : Int), .string (str t)] 24)) := (Below.refl _ _).alloc (Nat.le_refl _) _
  have HB : Hid (Tab (w.alloc (.cells #[.int .u64 (x : Int), .int .u64 (y : Int), .string (str t)] 24)) ∧ Below w.heap.size w (w.alloc (.cells #[.int .u64 (x : Int), .int .u64 (y : Int), .string (str t)] 24)) ∧ FBox (w.alloc (.cells #[.int .u64 (x : Int), .int .u64 (y : Int), .string (str t)] 24)) w.heap.size x y (str t)) := ⟨hT.below bW hT.pos, bW, bx⟩
  have c0 := bx.c0
  have c1 := bx.c1
  have c2 := bx.c2
  unfold maxLen at w1 t1
  have hm1 : (s.length : Int) ≤ 9223372036854775807 := by omega
  have ht1 : (t.length : Int) ≤ 9223372036854775807 := by omega
  have HN : Hid (x < 18446744073709551616 ∧ y < 18446744073709551616 ∧ ep < 18446744073709551616) := ⟨by omega, by omega, by omega⟩
  clear w0 w1 w2 t1 bW bx hT x0 x1 y0 y1 q0 q1
  by_cases hl : 9000 < t.length
  · have hl2 : (9000 : Int) < (t.length : Int) := by omega
    go_enter Tryd.func3, Tryd.ntmps3
    go_wp2_with (go_at_call 10; refine (shown_any _ HB.out.1).mono ?_; rintro e w3 ⟨rfl, rfl⟩)
    go_ret
    exact ⟨rfl, HB.out.2.1⟩
  · have hl2 : ¬ (9000 : Int) < (t.length : Int) := by omega
    have hl3 : decide ((9000 : Int) < (t.length : Int)) = false := decide_eq_false hl2
    by_cases hm : 3000 < s.length
    · have hm2 : (3000 : Int) < (s.length : Int) := by omega
      go_enter Tryd.func3, Tryd.ntmps3
      go_wp2_with (go_at_call 10; refine (shown_any _ HB.out.1).mono ?_; rintro e w3 ⟨rfl, rfl⟩)
      go_ret
      exact ⟨rfl, HB.out.2.1⟩
    · have hm2 : ¬ (3000 : Int) < (s.length : Int) := by omega
      have hm3 : decide ((3000 : Int) < (s.length : Int)) = false := decide_eq_false hm2
      obtain ⟨P, hP⟩ : ∃ P, P = putB ⟨x, y, t⟩ := ⟨_, rfl⟩
      obtain ⟨E, hE⟩ : ∃ E, E = putE ⟨x, y, t⟩ := ⟨_, rfl⟩
      obtain ⟨X, Y, F, R, K, hto⟩ := told_ex s
      obtain ⟨fs, hfs⟩ : ∃ fs, fs = (allL 1 ep s).map Prod.fst := ⟨_, rfl⟩
      obtain ⟨M, hM⟩ : ∃ M, M = (allL 1 ep s).length := ⟨_, rfl⟩
      obtain ⟨N, hN⟩ : ∃ N, N = (s.length : Int) - ((leftL s (allL 1 ep s)).length : Int) := ⟨_, rfl⟩
      obtain ⟨C, hC⟩ : ∃ C, C = crc s := ⟨_, rfl⟩
      have hMl : M = fs.length := by rw [hM, hfs, List.length_map]
      have hMs : M ≤ 100000 := by
        have := allL_len s.length 1 ep s
        rw [hM, allL]
        omega
      have HP : Hid (P = putB ⟨x, y, t⟩ ∧ E = putE ⟨x, y, t⟩ ∧ told (firstL s) = .tuple #[.agg #[.int .u64 (X : Int), .int .u64 (Y : Int), .string (str F)], .string (str R), .int .i64 K] ∧ fs = (allL 1 ep s).map Prod.fst ∧ M = (allL 1 ep s).length ∧ N = (s.length : Int) - ((leftL s (allL 1 ep s)).length : Int) ∧ C = crc s ∧ M = fs.length ∧ M ≤ 100000 ∧ s.length ≤ 3000 ∧ t.length ≤ 9000) := ⟨hP, hE, hto, hfs, hM, hN, hC, hMl, hMs, by omega, by omega⟩
      clear hP hE hto hfs hM hN hC hMl hMs hl hm
      go_enter Tryd.func3, Tryd.ntmps3
      go_wp2_with fail
      refine (shown_any _ HB.out.1).mono ?_
      rintro e w1 ⟨rfl, rfl⟩
      go_wp2_with fail
      refine (put_any x y t _ HB.out.1 HN.out.1 HN.out.2.1 (by have := HP.out.2.2.2.2.2.2.2.2.2.2; omega) P E HP.out.1 HP.out.2.1).mono ?_
      rintro e w2 ⟨rfl, b2⟩
      have H2 : Hid (Below w.heap.size w w2 ∧ Tab w2 ∧ FBox w2 w.heap.size x y (str t)) := ⟨chain HB.out.2.1 b2, HB.out.1.below b2 HB.out.1.pos, HB.out.2.2.below b2⟩
      clear b2 c0 c1 c2
      have c0 := H2.out.2.2.c0
      have c1 := H2.out.2.2.c1
      have c2 := H2.out.2.2.c2
      go_wp2_with fail
      refine (rput_any x y t _ H2.out.2.1 HN.out.1 HN.out.2.1 (by have := HP.out.2.2.2.2.2.2.2.2.2.2; omega) P E HP.out.1 HP.out.2.1).mono ?_
      rintro e w3 ⟨rfl, b3⟩
      have H3 : Hid (Below w.heap.size w w3 ∧ Tab w3) := ⟨chain H2.out.1 b3, H2.out.2.1.below b3 H2.out.2.1.pos⟩
      clear b3 c0 c1 c2 H2
      go_wp2_with fail
      refine (first_any s _ H3.out.2 (by have := HP.out.2.2.2.2.2.2.2.2.2.1; omega)).mono ?_
      rw [HP.out.2.2.1]
      rintro e w4 ⟨rfl, b4⟩
      have H4 : Hid (Below w.heap.size w (w4.alloc (.cells #[.int .u64 (X : Int), .int .u64 (Y : Int), .string (str F)] 24)) ∧ Tab (w4.alloc (.cells #[.int .u64 (X : Int), .int .u64 (Y : Int), .string (str F)] 24)) ∧ FBox (w4.alloc (.cells #[.int .u64 (X : Int), .int .u64 (Y : Int), .string (str F)] 24)) w4.heap.size X Y (str F)) := ⟨(chain H3.out.1 b4).alloc (chain H3.out.1 b4).size _, (H3.out.2.below b4 H3.out.2.pos).below ((Below.refl _ _).alloc (Nat.le_refl _) _) (H3.out.2.below b4 H3.out.2.pos).pos, FBox.new _ _ _ _⟩
      clear b4 H3
      go_wp2_with fail
      refine (rfirst_any s _ (by have := HP.out.2.2.2.2.2.2.2.2.2.1; omega)).mono ?_
      rw [HP.out.2.2.1]
      rintro e w5 ⟨rfl, b5⟩
      have H5 : Hid (Below w.heap.size w (w5.alloc (.cells #[.int .u64 (X : Int), .int .u64 (Y : Int), .string (str F)] 30)) ∧ Tab (w5.alloc (.cells #[.int .u64 (X : Int), .int .u64 (Y : Int), .string (str F)] 30)) ∧ FBox (w5.alloc (.cells #[.int .u64 (X : Int), .int .u64 (Y : Int), .string (str F)] 30)) w4.heap.size X Y (str F) ∧ RBox (w5.alloc (.cells #[.int .u64 (X : Int), .int .u64 (Y : Int), .string (str F)] 30)) w5.heap.size X Y (str F)) :=
        ⟨(chain H4.out.1 b5).alloc (chain H4.out.1 b5).size _, (H4.out.2.1.below b5 H4.out.2.1.pos).below ((Below.refl _ _).alloc (Nat.le_refl _) _) (H4.out.2.1.below b5 H4.out.2.1.pos).pos, (H4.out.2.2.below b5).alloc _, RBox.new _ _ _ _⟩
      clear b5 H4
      go_wp2_with fail
      refine (callsIn_wide.1 (all_in s ep _ H5.out.2.1 HN.out.2.2 (by have := HP.out.2.2.2.2.2.2.2.2.2.1; omega))).mono ?_
      rw [← HP.out.2.2.2.1, ← HP.out.2.2.2.2.1, ← HP.out.2.2.2.2.2.1]
      rintro e w6 ⟨v, rfl, o6, b6⟩
      have H6 : Hid (Below w.heap.size w w6 ∧ Tab w6 ∧ FBox w6 w4.heap.size X Y (str F) ∧ RBox w6 w5.heap.size X Y (str F) ∧ w6.ownsRow (w5.alloc (.cells #[.int .u64 (X : Int), .int .u64 (Y : Int), .string (str F)] 30)).heap.size 24 3 v M (flatC fs)) := ⟨chain H5.out.1 b6, H5.out.2.1.below b6 H5.out.2.1.pos, H5.out.2.2.1.below b6, H5.out.2.2.2.below b6, o6⟩
      clear b6 o6 H5
      go_wp2_with fail
      refine (rall_any s ep _ HN.out.2.2 (by have := HP.out.2.2.2.2.2.2.2.2.2.1; omega)).mono ?_
      rw [← HP.out.2.2.2.1, ← HP.out.2.2.2.2.1, ← HP.out.2.2.2.2.2.1]
      rintro e w7 ⟨g, cap, rfl, o7, b7⟩
      have H7 : Hid (Below w.heap.size w w7 ∧ Tab w7 ∧ FBox w7 w4.heap.size X Y (str F) ∧ RBox w7 w5.heap.size X Y (str F) ∧ w7.ownsRow (w5.alloc (.cells #[.int .u64 (X : Int), .int .u64 (Y : Int), .string (str F)] 30)).heap.size 24 3 v M (flatC fs) ∧ w7.ownsRow w6.heap.size 30 3 (.slice (some ⟨g, 0, none⟩) M cap) M (flatC fs)) := ⟨chain H6.out.1 b7, H6.out.2.1.below b7 H6.out.2.1.pos, H6.out.2.2.1.below b7, H6.out.2.2.2.1.below b7, ownsRow_below H6.out.2.2.2.2 b7 (Nat.le_refl _), o7⟩
      clear b7 o7 H6
      go_wp2_with fail
      refine (sum_any s _ H7.out.2.1 (by have := HP.out.2.2.2.2.2.2.2.2.2.1; omega)).mono ?_
      rw [← HP.out.2.2.2.2.2.2.1]
      rintro e w8 ⟨rfl, rfl⟩
      go_wp2_with fail
      refine (rsum_any s _ (by have := HP.out.2.2.2.2.2.2.2.2.2.1; omega)).mono ?_
      rw [← HP.out.2.2.2.2.2.2.1]
      rintro e w9 ⟨rfl, rfl⟩
      have c0 := H7.out.2.2.1.c0
      have c1 := H7.out.2.2.1.c1
      have c2 := H7.out.2.2.1.c2
      have d0 := H7.out.2.2.2.1.c0
      have d1 := H7.out.2.2.2.1.c1
      have d2 := H7.out.2.2.2.1.c2
      go_wp2_with fail
      refine (theirs_any v M _ fs _ H7.out.2.2.2.2.1 (by rw [← HP.out.2.2.2.2.2.2.2.1]; exact HP.out.2.2.2.2.2.2.2.2.1)).mono ?_
      rw [← HP.out.2.2.2.2.2.2.2.1]
      rintro e w10 ⟨g', cap', rfl, o10, b10⟩
      have H10 : Hid (Below w.heap.size w w10 ∧ w10.ownsRow _ 30 3 (.slice (some ⟨g', 0, none⟩) M cap') M (flatC fs) ∧ w10.ownsRow _ 30 3 (.slice (some ⟨g, 0, none⟩) M cap) M (flatC fs)) := ⟨chain H7.out.1 b10, o10, ownsRow_below H7.out.2.2.2.2.2 b10 (Nat.le_refl _)⟩
      clear b10 o10 H7 c0 c1 c2 d0 d1 d2
      go_wp2_with fail
      have hs := fun (n1 n2 : Nat) h1 h2 h3 => same_yes g' g cap' cap n1 n2 fs w10 h1 h2 h3
      rw [← HP.out.2.2.2.2.2.2.2.1] at hs
      refine (hs _ _ H10.out.2.1 H10.out.2.2 HP.out.2.2.2.2.2.2.2.2.1).mono ?_
      rintro e w11 ⟨rfl, b11⟩
      have H11 : Hid (Below w.heap.size w w11) := chain H10.out.1 b11
      clear b11 hs H10
      go_wp2
      go_ret
      exact ⟨rfl, H11.out⟩
end Go.Proofs.YtfpiepephljmgaaDoor
