/-
  GuardNone's walk.
-/
import Derived.Test.YtfpiepephljmgaaDoorGOne
namespace Go.Proofs.YtfpiepephljmgaaDoor
open Go.RowKit

theorem ret_bool {a b : Bool} (h : a = b) : Ending.returned (.bool a) = .returned (.bool b) := by rw [h]
theorem str_of (a : ByteArray) : ∃ s, a = str s := ⟨a.data.toList, by unfold str; simp⟩

set_option maxRecDepth 100000 in
set_option maxHeartbeats 4000000 in
theorem none_walk (a0 : ByteArray) (w : World) (w0 : a0.size ≤ maxLen) (hT : Tab w) :
    Calls Tryd.prog 9 #[.string a0] w fun e w' => e = .returned (.bool true) ∧ Below w.heap.size w w' := by
  obtain ⟨s, rfl⟩ := str_of a0
  have hsz : (str s).size = s.length := str_size s
  have HT : Hid (Tab w) := hT
  unfold maxLen at w0
  have hm : (s.length : Int) ≤ 9223372036854775807 := by omega
  clear w0 hT
  by_cases hl : 3000 < s.length
  · have hl2 : (3000 : Int) < (s.length : Int) := by omega
    go_enter Tryd.func9, Tryd.ntmps9
    go_wp2_with (go_at_call 10; refine (shown_any _ HT.out).mono ?_; rintro e w3 ⟨rfl, rfl⟩)
    go_ret
    exact ⟨rfl, Below.refl _ _⟩
  · have hl2 : ¬ (3000 : Int) < (s.length : Int) := by omega
    have hl3 : decide ((3000 : Int) < (s.length : Int)) = false := decide_eq_false hl2
    have hl4 : (s.length : Int) ≤ 3000 := by omega
    have HL : Hid (s.length ≤ 3000) := by have h9 : s.length ≤ 3000 := by omega
                                          exact h9
    clear hl
    go_enter Tryd.func9, Tryd.ntmps9
    go_wp2_with fail
    refine (shown_any _ HT.out).mono ?_
    rintro e w1 ⟨rfl, rfl⟩
    go_wp2_with fail
    refine (first_any s _ HT.out (by have := HL.out; omega)).mono ?_
    rintro e w2 ⟨rfl, b2⟩
    have H2 : Hid (Below w1.heap.size w1 w2) := b2
    clear b2
    cases hF : firstL s with
    | error n =>
      obtain ⟨p1, p2, p3⟩ := first_err s n hF
      have HF : Hid (firstL s = .error n) := hF
      simp only [told]
      have hn0 : (n == 0) = false := by rw [beq_eq_false_iff_ne]; exact p1
      by_cases h0 : s = []
      · have hn := p2 h0
        subst hn
        have e0 : ((s.length : Int) == 0) = true := by rw [h0]; rfl
        clear hF p1 p2 p3 h0 hn0
        go_wp2
        go_ret
        exact ⟨rfl, H2.out.alloc H2.out.size _⟩
      · have hp : s.length ≠ 0 := fun e => h0 (List.length_eq_zero_iff.1 e)
        have e0 : ((s.length : Int) == 0) = false := by rw [beq_eq_false_iff_ne]; omega
        by_cases h1 : s.length < 24
        · have hn := p3 h0 h1
          subst hn
          have e1 : (s.length : Int) < 24 := by omega
          clear hF p1 p2 p3 h0 hn0 hp h1
          go_wp2
          go_ret
          exact ⟨rfl, H2.out.alloc H2.out.size _⟩
        · have e1 : ¬ (s.length : Int) < 24 := by omega
          have he : (str []).toList.isEmpty = true := by rw [str_empty]; rfl
          clear hF p1 p2 p3 h0 hp h1
          go_wp2
          go_ret
          exact ⟨rfl, H2.out.alloc H2.out.size _⟩
    | ok p =>
      obtain ⟨f, r⟩ := p
      obtain ⟨x, y, t⟩ := f
      have h1 := first_one s _ _ hF
      obtain ⟨P, hP⟩ : ∃ P, P = putF ⟨x, y, t⟩ := ⟨_, rfl⟩
      rw [← hP] at h1
      have q1 : str P ++ str r = str s := by rw [str_app, h1.1]
      have q2 : ((str s).toList == (str s).toList) = true := by simp
      have hlen : P.length + r.length = s.length := by rw [← h1.1, List.length_append]
      have z1 : (str P).size = P.length := str_size P
      have z2 : (str r).size = r.length := str_size r
      have z3 : (P.length : Int) ≤ 3000 := by have := HL.out; omega
      have z4 : (r.length : Int) ≤ 3000 := by have := HL.out; omega
      have e0 : ((s.length : Int) == 0) = false := by rw [beq_eq_false_iff_ne]; have := h1.2.2; omega
      have e1 : ¬ (s.length : Int) < 24 := by have := h1.2.2; omega
      have HB : Hid (Below w1.heap.size w1 (w2.alloc (.cells #[.int .u64 (x : Int), .int .u64 (y : Int), .string (str t)] 24)) ∧ Tab (w2.alloc (.cells #[.int .u64 (x : Int), .int .u64 (y : Int), .string (str t)] 24)) ∧ (⟨x, y, t⟩ : Frm).ok ∧ P = putF ⟨x, y, t⟩) := ⟨H2.out.alloc H2.out.size _, HT.out.below (H2.out.alloc H2.out.size _) HT.out.pos, h1.2.1, hP⟩
      simp only [told, Frm.v]
      clear hF h1 hP hlen
      go_wp2_with fail
      refine (put_ok x y t _ HB.out.2.1 HB.out.2.2.1.1 HB.out.2.2.1.2.1 HB.out.2.2.1.2.2).mono ?_
      rw [← HB.out.2.2.2]
      rintro e w3 ⟨rfl, b3⟩
      have H3 : Hid (Below w1.heap.size w1 w3) := chain HB.out.1 b3
      clear b3
      go_wp2
      go_ret
      exact ⟨rfl, H3.out⟩
end Go.Proofs.YtfpiepephljmgaaDoor
