/-
  GuardCut's walk.
-/
import Derived.Test.YtfpiepephljmgaaDoorNoneWalk
import Derived.Test.YtfpiepephljmgaaDoorGArg
namespace Go.Proofs.YtfpiepephljmgaaDoor
open Go.ChangeShapes Go.WideShapes Go.ChangeAt Go.RowKit

theorem cut_rem (a : Int) (n : Nat) (h0 : 0 ≤ a) (_h1 : a ≤ 65535) (hn : 0 < n) : Int.tmod a (n : Int) = ((a.toNat % n : Nat) : Int) ∧ a.toNat % n < n := by
  obtain ⟨A, rfl⟩ := Int.eq_ofNat_of_zero_le h0
  refine ⟨?_, Nat.mod_lt _ hn⟩
  rw [Int.tmod_eq_emod_of_nonneg (by omega)]
  simp

set_option maxRecDepth 100000 in
set_option maxHeartbeats 4000000 in
theorem cut_walk (x y : Int) (T a1 : ByteArray) (a2 : Int) (w : World) (w0 : (Lit.int .u64 x).wf = true ∧ (Lit.int .u64 y).wf = true ∧ T.size ≤ maxLen) (w1 : a1.size ≤ maxLen) (w2 : (Lit.int .u16 a2).wf = true) (hT : Tab w) :
    Calls Tryd.prog 8 #[.agg #[.int .u64 x, .int .u64 y, .string T], .string a1, .int .u16 a2] w fun e w' => e = .returned (.bool true) ∧ Below w.heap.size w w' := by
  obtain ⟨x0, x1⟩ := bounds_u64 w0.1
  obtain ⟨y0, y1⟩ := bounds_u64 w0.2.1
  have t1 := w0.2.2
  obtain ⟨q0, q1⟩ := bounds_u16 w2
  obtain ⟨x, rfl⟩ := Int.eq_ofNat_of_zero_le x0
  obtain ⟨y, rfl⟩ := Int.eq_ofNat_of_zero_le y0
  obtain ⟨t, rfl⟩ := str_of T
  obtain ⟨m, rfl⟩ := str_of a1
  have hsz : (str t).size = t.length := str_size t
  have hsm : (str m).size = m.length := str_size m
  have bx := FBox.new w x y (str t)
  have bW : Below w.heap.size w (w.alloc (.cells #[.int .u64 (x : Int), .int .u64 (y : Int), .string (str t)] 24)) := (Below.refl _ _).alloc (Nat.le_refl _) _
  have HB : Hid (Tab (w.alloc (.cells #[.int .u64 (x : Int), .int .u64 (y : Int), .string (str t)] 24)) ∧ Below w.heap.size w (w.alloc (.cells #[.int .u64 (x : Int), .int .u64 (y : Int), .string (str t)] 24)) ∧ FBox (w.alloc (.cells #[.int .u64 (x : Int), .int .u64 (y : Int), .string (str t)] 24)) w.heap.size x y (str t)) := ⟨hT.below bW hT.pos, bW, bx⟩
  have c0 := bx.c0
  have c1 := bx.c1
  have c2 := bx.c2
  unfold maxLen at w1 t1
  have hm1 : (m.length : Int) ≤ 9223372036854775807 := by omega
  have ht1 : (t.length : Int) ≤ 9223372036854775807 := by omega
  clear w0 w1 w2 t1 bW bx hT
  by_cases hl : 300 < t.length
  · have hl2 : (300 : Int) < (t.length : Int) := by omega
    go_enter Tryd.func8, Tryd.ntmps8
    go_wp2_with (go_at_call 10; refine (shown_any _ HB.out.1).mono ?_; rintro e w3 ⟨rfl, rfl⟩)
    go_ret
    exact ⟨rfl, HB.out.2.1⟩
  · have hl2 : ¬ (300 : Int) < (t.length : Int) := by omega
    have hl3 : decide ((300 : Int) < (t.length : Int)) = false := decide_eq_false hl2
    have hl4 : (t.length : Int) ≤ 300 := by omega
    by_cases hm : 300 < m.length
    · have hm2 : (300 : Int) < (m.length : Int) := by omega
      go_enter Tryd.func8, Tryd.ntmps8
      go_wp2_with (go_at_call 10; refine (shown_any _ HB.out.1).mono ?_; rintro e w3 ⟨rfl, rfl⟩)
      go_ret
      exact ⟨rfl, HB.out.2.1⟩
    · have hm2 : ¬ (300 : Int) < (m.length : Int) := by omega
      have hm3 : decide ((300 : Int) < (m.length : Int)) = false := decide_eq_false hm2
      have hm4 : (m.length : Int) ≤ 300 := by omega
      have hok : (⟨x, y, t⟩ : Frm).ok := ⟨by show x < _; omega, by show y < _; omega, by show t.length ≤ _; omega⟩
      obtain ⟨P, hP⟩ : ∃ P, P = putF ⟨x, y, t⟩ := ⟨_, rfl⟩
      have hPl : P.length = 24 + t.length := by rw [hP]; exact putF_length _
      obtain ⟨R, hR⟩ : ∃ R, R = P ++ m := ⟨_, rfl⟩
      have hRl : R.length = P.length + m.length := by rw [hR, List.length_append]
      have q1' : str P ++ str m = str R := by rw [str_app, hR]
      have z1 : (str P).size = P.length := str_size P
      have z2 : (P.length : Int) ≤ 324 := by omega
      have z3 : (24 : Int) ≤ (P.length : Int) := by omega
      obtain ⟨r1, r2⟩ := cut_rem a2 P.length q0 q1 (by omega)
      obtain ⟨k, hk⟩ : ∃ k, k = a2.toNat % P.length := ⟨_, rfl⟩
      rw [← hk] at r1 r2
      have f1 : firstL R = .ok (⟨x, y, t⟩, m) := by rw [hR, hP]; exact first_put _ _ hok
      have f2 : firstL (P.take k) = .error (if k = 0 then 3 else 60) := by rw [hP]; exact first_cut _ hok k (by rw [← hP]; exact r2)
      have e2 := ext0 P k
      have y7 : ¬ (P.length : Int) = 0 := by omega
      have y5 : k ≤ P.length := by omega
      have y6 : (k : Int) ≤ (P.length : Int) := by omega
      have y8 : (k : Int) < (P.length : Int) := by omega
      have HP : Hid (P = putF ⟨x, y, t⟩ ∧ (⟨x, y, t⟩ : Frm).ok ∧ R.length ≤ 1000 ∧ firstL R = .ok (⟨x, y, t⟩, m) ∧ firstL (P.take k) = .error (if k = 0 then 3 else 60) ∧ P.length ≤ 324) := ⟨hP, hok, by omega, f1, f2, by omega⟩
      clear hP hok hPl hR hRl hk f1 f2 hl hm r2
      go_enter Tryd.func8, Tryd.ntmps8
      go_wp2_with fail
      refine (shown_any _ HB.out.1).mono ?_
      rintro e w1 ⟨rfl, rfl⟩
      go_wp2_with fail
      refine (put_ok x y t _ HB.out.1 HP.out.2.1.1 HP.out.2.1.2.1 HP.out.2.1.2.2).mono ?_
      rw [← HP.out.1]
      rintro e w2 ⟨rfl, b2⟩
      have H2 : Hid (Below w.heap.size w w2 ∧ Tab w2 ∧ FBox w2 w.heap.size x y (str t)) := ⟨chain HB.out.2.1 b2, HB.out.1.below b2 HB.out.1.pos, HB.out.2.2.below b2⟩
      clear b2 c0 c1 c2
      go_wp2_with fail
      refine (first_any R _ H2.out.2.1 (by have := HP.out.2.2.1; omega)).mono ?_
      rw [HP.out.2.2.2.1]
      rintro e w3 ⟨rfl, b3⟩
      simp only [told, Frm.v]
      have bA := chain H2.out.1 b3
      have hA := H2.out.2.2.below b3
      have bB : Below w.heap.size w (w3.alloc (.cells #[.int .u64 (x : Int), .int .u64 (y : Int), .string (str t)] 24)) := bA.alloc bA.size _
      have H3 : Hid (Below w.heap.size w (w3.alloc (.cells #[.int .u64 (x : Int), .int .u64 (y : Int), .string (str t)] 24)) ∧ Tab (w3.alloc (.cells #[.int .u64 (x : Int), .int .u64 (y : Int), .string (str t)] 24)) ∧ FBox (w3.alloc (.cells #[.int .u64 (x : Int), .int .u64 (y : Int), .string (str t)] 24)) w.heap.size x y (str t) ∧ FBox (w3.alloc (.cells #[.int .u64 (x : Int), .int .u64 (y : Int), .string (str t)] 24)) w3.heap.size x y (str t)) := ⟨bB, (H2.out.2.1.below b3 H2.out.2.1.pos).below ((Below.refl _ _).alloc (Nat.le_refl _) _) (H2.out.2.1.below b3 H2.out.2.1.pos).pos, hA.alloc _, FBox.new _ _ _ _⟩
      clear b3 bA hA bB
      go_wp2_with fail
      refine (first_any (P.take k) _ H3.out.2.1 (by have := HP.out.2.2.2.2.2; rw [List.length_take]; omega)).mono ?_
      rw [HP.out.2.2.2.2.1]
      rintro e w4 ⟨rfl, b4⟩
      simp only [told]
      have bA := chain H3.out.1 b4
      have d0 := ((H3.out.2.2.1.below b4).alloc (.cells #[.int .u64 0, .int .u64 0, .string (str [])] 24)).c0
      have d1 := ((H3.out.2.2.1.below b4).alloc (.cells #[.int .u64 0, .int .u64 0, .string (str [])] 24)).c1
      have d2 := ((H3.out.2.2.1.below b4).alloc (.cells #[.int .u64 0, .int .u64 0, .string (str [])] 24)).c2
      have g0 := ((H3.out.2.2.2.below b4).alloc (.cells #[.int .u64 0, .int .u64 0, .string (str [])] 24)).c0
      have g1 := ((H3.out.2.2.2.below b4).alloc (.cells #[.int .u64 0, .int .u64 0, .string (str [])] 24)).c1
      have g2 := ((H3.out.2.2.2.below b4).alloc (.cells #[.int .u64 0, .int .u64 0, .string (str [])] 24)).c2
      have H4 : Hid (Below w.heap.size w (w4.alloc (.cells #[.int .u64 0, .int .u64 0, .string (str [])] 24))) := bA.alloc bA.size _
      clear b4 bA
      by_cases hk0 : k = 0
      · have e0 : ((k : Int) == 0) = true := by rw [beq_iff_eq]; omega
        rw [if_pos hk0]
        clear hk0
        go_wp2
        go_ret
        exact ⟨rfl, H4.out⟩
      · have e0 : ((k : Int) == 0) = false := by rw [beq_eq_false_iff_ne]; omega
        rw [if_neg hk0]
        clear hk0
        go_wp2
        go_ret
        exact ⟨rfl, H4.out⟩
end Go.Proofs.YtfpiepephljmgaaDoor
