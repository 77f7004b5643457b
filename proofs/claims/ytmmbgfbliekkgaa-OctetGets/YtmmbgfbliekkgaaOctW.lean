/-
  The reference's GetRat of layer 6.
-/
import Derived.Test.YtmmbgfbliekkgaaOctU
import Derived.Test.YtmmbgfbliekkgaaJ1
namespace Go.Proofs.Ytmmbgfbliekkgaa
open Go.RowKit

/-- What GetRat tells. -/
def RatTold (r : Except Int (RatL × List UInt8)) (q : RatL) (R : List UInt8) (k : Int) : Prop :=
  match r with
  | .error e => q = rat0 ∧ R = [] ∧ k = e
  | .ok (x, r) => q = x ∧ R = r ∧ k = 0

theorem RatTold.one {r : Except Int (RatL × List UInt8)} {p q : RatL} {R S : List UInt8} {k j : Int} (h : RatTold r p R k) (h2 : RatTold r q S j) : p = q ∧ R = S ∧ k = j := by
  unfold RatTold at h h2
  cases r with
  | error e => exact ⟨h.1.trans h2.1.symm, h.2.1.trans h2.2.1.symm, h.2.2.trans h2.2.2.symm⟩
  | ok p => exact ⟨h.1.trans h2.1.symm, h.2.1.trans h2.2.1.symm, h.2.2.trans h2.2.2.symm⟩

theorem getRat_told (s : List UInt8) (res : Except Int (RatL × List UInt8)) (w : World) (hn : RatIs s res) (hs : s.length ≤ 70000) :
    Calls Try.prog 23 #[.string (str s)] w fun e w' => ∃ (no : Option Addr) (nn nc : Nat) (eo : Option Addr) (en ec : Nat) (q : RatL) (R : List UInt8) (k : Int), e = .returned (.tuple #[.agg #[.bool q.neg, .slice no nn nc, .slice eo en ec], .string (str R), .int .i64 k]) ∧ RatAt w' no nn nc eo en ec q ∧ RatTold res q R k ∧ Below w.heap.size w w' := by
  cases res with
  | error k => exact (getRat_err s k w hn hs).mono fun e w' ⟨h1, h2⟩ => ⟨none, 0, 0, none, 0, 0, rat0, [], k, h1, RatAt.zero _, ⟨rfl, rfl, rfl⟩, h2⟩
  | ok p =>
    obtain ⟨q, r⟩ := p
    exact (getRat_ok s q r w hn hs).mono fun e w' ⟨no, nn, eo, en, h1, h2, h5⟩ => ⟨no, nn, nn, eo, en, en, q, r, 0, h1, h2, ⟨rfl, rfl, rfl⟩, h5⟩

set_option maxRecDepth 100000 in
set_option maxHeartbeats 8000000 in
theorem rgetRat_any (s : List UInt8) (res : Except Int (RatL × List UInt8)) (w : World) (hn : RatIs s res) (hs : s.length ≤ 70000) :
    Calls Try.prog 24 #[.string (str s)] w fun e w' => ∃ (no : Option Addr) (nn nc : Nat) (eo : Option Addr) (en ec : Nat) (q : RatL) (R : List UInt8) (k : Int), e = .returned (.tuple #[.agg #[.bool q.neg, .slice no nn nc, .slice eo en ec], .string (str R), .int .i64 k]) ∧ RatAt w' no nn nc eo en ec q ∧ RatTold res q R k ∧ Below w.heap.size w w' := by
  have hbx := RBox.new w false none 0 0 none 0 0
  have HB : Hid (RBox (w.alloc (.cells #[.bool false, .slice none 0 0, .slice none 0 0] 26)) w.heap.size false none 0 0 none 0 0 ∧ Below w.heap.size w (w.alloc (.cells #[.bool false, .slice none 0 0, .slice none 0 0] 26))) := ⟨hbx, (Below.refl _ _).alloc (Nat.le_refl _) _⟩
  have f0 := hbx.f 0
  have f1 := hbx.f 1
  have f2 := hbx.f 2
  have c0 := hbx.c0
  have c1 := hbx.c1
  have c2 := hbx.c2
  clear hbx
  cases s with
  | nil =>
    have HN : Hid (RatTold res rat0 [] 60) := by
      have h9 : res = .error 60 := hn
      rw [h9]
      exact ⟨rfl, rfl, rfl⟩
    have e0 : (str []).size = 0 := rfl
    clear hn hs
    go_enter Try.func24, Try.ntmps24
    go_wp2
    refine bodyPost_ret (results_g rfl _ _ _ HB.out.1 rfl rfl rfl) rfl ?_
    exact ⟨none, 0, 0, none, 0, 0, rat0, [], 60, rfl, RatAt.zero _, HN.out, HB.out.2⟩
  | cons c t =>
    have hsz : (str (c :: t)).size = t.length + 1 := by rw [str_size]; rfl
    have hz : 0 < (str (c :: t)).size := by rw [str_size]; exact Nat.zero_lt_succ _
    have hz2 : (str (c :: t))[0] = c := rfl
    have hl : t.length ≤ 69999 := by simp at hs; omega
    have g0 : ¬ ((t.length : Int) + 1 = 0) := by omega
    have g1 : (t.length : Int) ≤ 69999 := by omega
    have e1 : (str (c :: t)).extract 1 (t.length + 1) = str t := by
      have h9 := ext_str (c :: t) 1 (t.length + 1)
      rw [List.take_of_length_le (by simp)] at h9
      exact h9
    have HL : Hid (t.length ≤ 69999) := hl
    clear hs hl
    by_cases hc : 1 < c.toNat
    · have hc1 : (1 : Int) < (c.toNat : Int) := by omega
      have HN : Hid (RatTold res rat0 [] 62) := by
        unfold RatIs at hn
        simp only [if_pos hc] at hn
        rw [hn]
        exact ⟨rfl, rfl, rfl⟩
      clear hn hc
      go_enter Try.func24, Try.ntmps24
      go_wp2
      refine bodyPost_ret (results_g rfl _ _ _ HB.out.1 rfl rfl rfl) rfl ?_
      exact ⟨none, 0, 0, none, 0, 0, rat0, [], 62, rfl, RatAt.zero _, HN.out, HB.out.2⟩
    · have hc1 : ¬ (1 : Int) < (c.toNat : Int) := by omega
      obtain ⟨g, hg⟩ : ∃ g, g = (c == 1) := ⟨_, rfl⟩
      have hcg := eq_one c (by omega)
      rw [← hg] at hcg
      have HN : Hid (RatIs (c :: t) res ∧ ¬ 1 < c.toNat ∧ g = (c == 1)) := ⟨hn, hc, hg⟩
      clear hn hc hg
      go_enter Try.func24, Try.ntmps24
      go_wp2_with fail
      refine (rgetNat_any t _ (by have := HL.out; omega)).mono ?_
      rintro e w1 ⟨ao, m, ca, xs, R1, k1, rfl, ro1, t1, b1⟩
      have bx1 := HB.out.1.below b1
      have H1 : Hid (RowAt w1 ao m ca xs ∧ NatTold (natL t) xs R1 k1 ∧ Below w.heap.size w w1 ∧ RBox w1 w.heap.size false none 0 0 none 0 0) := ⟨ro1, t1, chain HB.out.2 b1, bx1⟩
      clear f0 f1 f2 c0 c1 c2
      have f0 := bx1.f 0
      have f1 := bx1.f 1
      have f2 := bx1.f 2
      have c0 := bx1.c0
      have c1 := bx1.c1
      have c2 := bx1.c2
      clear ro1 b1 bx1
      cases hnt : natL t with
      | error kk =>
        rw [hnt] at t1
        have hk1 : ¬ k1 = 0 := by rw [t1.2.2]; exact natL_err hnt
        have HF : Hid (RatTold res rat0 [] k1) := by
          have h8 := HN.out.1
          unfold RatIs at h8
          simp only [if_neg HN.out.2.1, hnt] at h8
          rw [h8]
          exact ⟨rfl, rfl, t1.2.2⟩
        clear hnt t1
        go_wp2
        refine bodyPost_ret (results_g rfl _ _ _ (H1.out.2.2.2.set false none 0 0 none 0 0) rfl rfl rfl) rfl ?_
        exact ⟨none, 0, 0, none, 0, 0, rat0, [], k1, rfl, RatAt.zero _, HF.out, below_set H1.out.2.2.1 (Nat.le_refl _) _ _ _⟩
      | ok p1 =>
        obtain ⟨x, r1⟩ := p1
        rw [hnt] at t1
        obtain ⟨rfl, rfl, rfl⟩ := t1
        have HT : Hid (natL t = .ok (xs, R1) ∧ R1.length ≤ t.length) := ⟨hnt, (natL_one _ _ _ hnt).2.2.2⟩
        clear hnt
        go_wp2_with fail
        refine (rgetNat_any R1 _ (by have := HL.out; have := HT.out.2; omega)).mono ?_
        rintro e w2 ⟨bo, m2, cb, ys, R2, k2, rfl, ro2, t2, b2⟩
        have bx2 := H1.out.2.2.2.below b2
        have H2 : Hid (RatAt w2 ao m ca bo m2 cb ⟨g, xs, ys⟩ ∧ Below w.heap.size w w2 ∧ RBox w2 w.heap.size false none 0 0 none 0 0) := ⟨⟨H1.out.1.below b2, ro2⟩, chain H1.out.2.2.1 b2, bx2⟩
        clear f0 f1 f2 c0 c1 c2
        have f0 := bx2.f 0
        have f1 := bx2.f 1
        have f2 := bx2.f 2
        have c0 := bx2.c0
        have c1 := bx2.c1
        have c2 := bx2.c2
        clear ro2 b2 bx2
        cases hnt : natL R1 with
        | error kk =>
          rw [hnt] at t2
          have hk2 : ¬ k2 = 0 := by rw [t2.2.2]; exact natL_err hnt
          have HF : Hid (RatTold res rat0 [] k2) := by
            have h8 := HN.out.1
            unfold RatIs at h8
            simp only [if_neg HN.out.2.1, HT.out.1, hnt] at h8
            rw [h8]
            exact ⟨rfl, rfl, t2.2.2⟩
          clear hnt t2
          go_wp2
          refine bodyPost_ret (results_g rfl _ _ _ (H2.out.2.2.set false none 0 0 none 0 0) rfl rfl rfl) rfl ?_
          exact ⟨none, 0, 0, none, 0, 0, rat0, [], k2, rfl, RatAt.zero _, HF.out, below_set H2.out.2.1 (Nat.le_refl _) _ _ _⟩
        | ok p2 =>
          obtain ⟨y, r2⟩ := p2
          rw [hnt] at t2
          obtain ⟨rfl, rfl, rfl⟩ := t2
          have hB3 : Below w2.heap.size w2 (w2.alloc (.cells #[.bool g, .slice ao m ca, .slice bo m2 cb] 26)) := (Below.refl _ _).alloc (Nat.le_refl _) _
          have bx3 := RBox.new w2 g ao m ca bo m2 cb
          have d0 := bx3.c0
          have d1 := bx3.c1
          have d2 := bx3.c2
          obtain ⟨b, hb⟩ := mayR_ex ⟨g, xs, ys⟩
          have H3 : Hid (RatAt (w2.alloc (.cells #[.bool g, .slice ao m ca, .slice bo m2 cb] 26)) ao m ca bo m2 cb ⟨g, xs, ys⟩ ∧ Below w.heap.size w (w2.alloc (.cells #[.bool g, .slice ao m ca, .slice bo m2 cb] 26)) ∧ RBox (w2.alloc (.cells #[.bool g, .slice ao m ca, .slice bo m2 cb] 26)) w.heap.size false none 0 0 none 0 0 ∧ RBox (w2.alloc (.cells #[.bool g, .slice ao m ca, .slice bo m2 cb] 26)) w2.heap.size g ao m ca bo m2 cb ∧ (b = true ↔ MayR ⟨g, xs, ys⟩)) := ⟨H2.out.1.below hB3, chain H2.out.2.1 hB3, H2.out.2.2.alloc _, bx3, hb⟩
          have HR : Hid ((MayR ⟨g, xs, ys⟩ → res = .ok (⟨g, xs, ys⟩, R2)) ∧ (¬ MayR ⟨g, xs, ys⟩ → res = .error 62)) := by
            have h8 := HN.out.1
            unfold RatIs at h8
            simp only [if_neg HN.out.2.1, HT.out.1, hnt] at h8
            rw [← HN.out.2.2] at h8
            exact h8
          clear hnt hB3 bx3 hb
          go_wp2_with fail
          refine (rrmay_r g ao m ca bo m2 cb ⟨g, xs, ys⟩ _ H3.out.1 rfl b H3.out.2.2.2.2).mono ?_
          rintro e w4 ⟨rfl, b4⟩
          have bx4 := H3.out.2.2.1.below b4
          have by4 := H3.out.2.2.2.1.below b4
          have H4 : Hid (RatAt w4 ao m ca bo m2 cb ⟨g, xs, ys⟩ ∧ Below w.heap.size w w4 ∧ RBox w4 w.heap.size false none 0 0 none 0 0) := ⟨H3.out.1.below b4, chain H3.out.2.1 b4, bx4⟩
          have HBB : Hid (b = true ↔ MayR ⟨g, xs, ys⟩) := H3.out.2.2.2.2
          clear f0 f1 f2 c0 c1 c2 d0 d1 d2
          have f0 := bx4.f 0
          have f1 := bx4.f 1
          have f2 := bx4.f 2
          have c0 := bx4.c0
          have c1 := bx4.c1
          have c2 := bx4.c2
          have d0 := by4.c0
          have d1 := by4.c1
          have d2 := by4.c2
          clear b4 bx4 by4 H3
          cases b with
          | false =>
            have HF : Hid (RatTold res rat0 [] 62) := by
              rw [HR.out.2 (fun e => by have := HBB.out.2 e; cases this)]
              exact ⟨rfl, rfl, rfl⟩
            go_wp2
            refine bodyPost_ret (results_g rfl _ _ _ (H4.out.2.2.set false none 0 0 none 0 0) rfl rfl rfl) rfl ?_
            exact ⟨none, 0, 0, none, 0, 0, rat0, [], 62, rfl, RatAt.zero _, HF.out, below_set H4.out.2.1 (Nat.le_refl _) _ _ _⟩
          | true =>
            have HF : Hid (RatTold res ⟨g, xs, ys⟩ R2 0) := by
              rw [HR.out.1 (HBB.out.1 rfl)]
              exact ⟨rfl, rfl, rfl⟩
            go_wp2
            refine bodyPost_ret (results_g rfl _ _ _ (H4.out.2.2.set g ao m ca bo m2 cb) rfl rfl rfl) rfl ?_
            exact ⟨ao, m, ca, bo, m2, cb, ⟨g, xs, ys⟩, R2, 0, rfl, H4.out.1.setR H4.out.2.2 _ _ _, HF.out, below_set H4.out.2.1 (Nat.le_refl _) _ _ _⟩
end Go.Proofs.Ytmmbgfbliekkgaa
