/-
  The walk of the law of Monic: its steps.
-/
import Derived.Test.YtbdldijgcmgfaaaGreatMonicW
namespace Go.Proofs.YtbdldijgcmgfaaaGreat
open Go.RowKit

set_option maxRecDepth 100000 in
set_option maxHeartbeats 8000000 in
theorem monic_walk (d : Int) (no : Option Addr) (nn nc : Nat) (mo : Option Addr) (mn mc : Nat) (w : World) (h0 : 0 ≤ d) (h1 : d ≤ 255) (h : SmallAt w no nn mo mn) :
    Calls Tryz.prog 7 #[.int .u8 d, .agg #[.slice no nn nc, .slice mo mn mc]] w fun e w' => e = .returned (.bool true) ∧ Below w.heap.size w w' := by
  obtain ⟨o, hmod, ho⟩ := rem3_ex d h0 h1
  have b1 := bel1 w (.cells #[.slice no nn nc, .slice mo mn mc] 50)
  have H : Hid (SmallAt (w.alloc (.cells #[.slice no nn nc, .slice mo mn mc] 50)) no nn mo mn ∧ SBx (w.alloc (.cells #[.slice no nn nc, .slice mo mn mc] 50)) w.heap.size no nn nc mo mn mc ∧ Below w.heap.size w (w.alloc (.cells #[.slice no nn nc, .slice mo mn mc] 50)) ∧ Ord o) := ⟨h.below b1, heap_alloc_new w _, b1, ho⟩
  have x0 := H.out.2.1.c0
  have x1 := H.out.2.1.c1
  clear h b1 ho h0 h1
  go_enter Tryz.func7, Tryz.ntmps7
  go_wp2_with fail
  refine (made_b o _ _ _ _ _ _ _ H.out.2.2.2 H.out.1).mono ?_
  rintro e w1 ⟨po, pn, pc, ps, p, rfl, a1, a2, q0⟩
  have hpm := a1.most'
  have H1 : Hid (PolyAt w1 po pn pc ps p ∧ Made o p ∧ Below w.heap.size w w1 ∧ Ord o ∧ pn ≤ 1000000) := ⟨a1, a2, chain H.out.2.2.1 q0, H.out.2.2.2, by have := a1.len; have := a2.len; omega⟩
  clear a1 a2 q0 x0 x1 hmod
  go_wp2_with fail
  refine (monic_b o _ _ _ _ _ _ H1.out.1 H1.out.2.2.2.2).mono ?_
  rintro e w2 ⟨lm, nm, cm, pm, m, k, rfl, g1, g2, q0⟩
  have hmm := g1.most'
  cases p with
  | nil =>
    obtain ⟨rfl, rfl⟩ := g2.nil (H1.out.2.1.may H1.out.2.2.2.1) rfl
    have hp0 : pn = 0 := H1.out.1.len.symm
    have hm0 : nm = 0 := g1.len.symm
    subst hp0 hm0
    have H2 : Hid (Below w.heap.size w w2) := chain H1.out.2.2.1 q0
    clear g1 g2 q0 hmm hpm
    go_wp2_with fail
    refine (shown_b _).mono ?_
    rintro e w3 ⟨rfl, q0⟩
    have H3 : Hid (Below w.heap.size w w3) := chain H2.out q0
    clear q0
    go_wp2_with fail
    go_ret
    exact ⟨rfl, H3.out⟩
  | cons t l =>
    obtain ⟨rfl, hM⟩ := monic_made H1.out.2.2.2.1 H1.out.2.1 g2
    have hnm : nm = pn := by rw [← g1.len, ← H1.out.1.len]; exact hM.len
    subst hnm
    have hpos : 0 < nm := by rw [← H1.out.1.len]; exact Nat.zero_lt_succ _
    have hpi : (0 : Int) < (nm : Int) := by omega
    have hpz : ¬ (nm : Int) = 0 := by omega
    have H2 : Hid (PolyAt w2 po nm pc ps (t :: l) ∧ PolyAt w2 lm nm cm pm m ∧ Mc o t l m ∧ Below w.heap.size w w2 ∧ 0 < nm) := ⟨H1.out.1.below q0, g1, hM, chain H1.out.2.2.1 q0, hpos⟩
    clear g1 g2 q0 hM hpos hmm
    go_wp2_with fail
    refine (shown_b _).mono ?_
    rintro e w3 ⟨rfl, q0⟩
    have H3 : Hid (PolyAt w3 po nm pc ps (t :: l) ∧ PolyAt w3 lm nm cm pm m ∧ Below w.heap.size w w3) := ⟨H2.out.1.below q0, H2.out.2.1.below q0, chain H2.out.2.2.2.1 q0⟩
    clear q0
    obtain ⟨bk, off, y, x, rfl, hpj, hxj, hat, hel, hblt⟩ := H3.out.1.elem H2.out.2.2.2.2
    obtain ⟨neg, no', nn', nc', eo, en, ec, pa, pb, pc', pd⟩ := y
    obtain ⟨e0, e1, e2, _, _, _, _⟩ := hel
    dsimp only at e0 e1 e2
    rw [Nat.zero_mul, Nat.add_zero] at e0 e1 e2
    have hx : t = x := by simpa using hxj
    subst hx
    have HX : Hid (TermAt w3 ⟨neg, no', nn', nc', eo, en, ec, 0, 0, 0, 0⟩ ⟨t.c, mo0⟩) := ⟨hat.rat, hat.neg, rfl⟩
    clear hpj hxj hat hblt
    go_wp2_with fail
    refine (timesP_b o _ _ _ _ _ ⟨neg, no', nn', nc', eo, en, ec, 0, 0, 0, 0⟩ ⟨t.c, mo0⟩ _ H3.out.2.1 HX.out (by have := H1.out.2.2.2.2; omega)).mono ?_
    rintro e w4 ⟨lq, nq, cq, pq, q, k, rfl, g1, g2, q0⟩
    obtain ⟨rfl, rfl⟩ := H2.out.2.2.1.back g2
    have H4 : Hid (PolyAt w4 (some ⟨bk, off, none⟩) nm pc ps (t :: l) ∧ PolyAt w4 lm nm cm pm m ∧ PolyAt w4 lq nq cq pq (t :: l) ∧ Below w.heap.size w w4) := ⟨H3.out.1.below q0, H3.out.2.1.below q0, g1, chain H3.out.2.2 q0⟩
    clear g1 g2 q0 e0 e1 e2
    go_wp2_with fail
    refine (monic_b o _ _ _ _ _ _ H4.out.2.1 (by have := H1.out.2.2.2.2; omega)).mono ?_
    rintro e w5 ⟨lr, nr, cr, pr, rl, k, rfl, g1, g2, q0⟩
    obtain ⟨rfl, rfl⟩ := H2.out.2.2.1.again g2
    have H5 : Hid (PolyAt w5 (some ⟨bk, off, none⟩) nm pc ps (t :: l) ∧ PolyAt w5 lm nm cm pm rl ∧ PolyAt w5 lq nq cq pq (t :: l) ∧ PolyAt w5 lr nr cr pr rl ∧ Below w.heap.size w w5) := ⟨H4.out.1.below q0, H4.out.2.1.below q0, H4.out.2.2.1.below q0, g1, chain H4.out.2.2.2 q0⟩
    clear g1 g2 q0
    obtain ⟨bm, om, y, x, rfl, hpj, hxj, hat, hel, hblt⟩ := H5.out.2.1.elem H2.out.2.2.2.2
    obtain ⟨yneg, yno, ynn, ync, yeo, yen, yec, ya, yb, yc', yd⟩ := y
    have hel0 := hel
    obtain ⟨e0, e1, e2, _, _, _, _⟩ := hel
    dsimp only at e0 e1 e2
    rw [Nat.zero_mul, Nat.add_zero] at e0 e1 e2
    have HY : Hid (TermAt w5 ⟨yneg, yno, ynn, ync, yeo, yen, yec, ya, yb, yc', yd⟩ x ∧ Is x.c 1 1 ∧ (w5.cell? ⟨bm, om, none⟩ = some (.bool yneg) ∧ w5.cell? ⟨bm, om + 1, none⟩ = some (.slice yno ynn ync) ∧ w5.cell? ⟨bm, om + 2, none⟩ = some (.slice yeo yen yec)) ∧ bm < w5.heap.size) := by
      obtain ⟨y, r, h1, h2⟩ := H2.out.2.2.1.head
      rw [h1] at hxj
      have hx : y = x := by simpa using hxj
      subst hx
      exact ⟨hat, h2, ⟨e0, e1, e2⟩, hblt⟩
    clear hpj hxj hat hblt hel0
    have HS : Hid (∀ W, Below w5.heap.size w5 W → W.cell? ⟨bm, om, none⟩ = some (.bool yneg) ∧ W.cell? ⟨bm, om + 1, none⟩ = some (.slice yno ynn ync) ∧ W.cell? ⟨bm, om + 2, none⟩ = some (.slice yeo yen yec)) := fun W hW =>
      ⟨(hW.cell (p := ⟨bm, om, none⟩) HY.out.2.2.2).trans HY.out.2.2.1.1, (hW.cell (p := ⟨bm, om + 1, none⟩) HY.out.2.2.2).trans HY.out.2.2.1.2.1, (hW.cell (p := ⟨bm, om + 2, none⟩) HY.out.2.2.2).trans HY.out.2.2.1.2.2⟩
    have bz : Below w5.heap.size w5 w5.drew := (Below.refl _ _).drew
    go_wp2_with fail
    have hpos2 : 0 < nm := H2.out.2.2.2.2
    have hpos3 : (0 : Int) < (nm : Int) := by omega
    go_region_held3 (fun W => W.cell? ⟨bm, om, none⟩ = some (.bool yneg) ∧ W.cell? ⟨bm, om + 1, none⟩ = some (.slice yno ynn ync) ∧ W.cell? ⟨bm, om + 2, none⟩ = some (.slice yeo yen yec))
      (first | exact HS.out _ bz)
      (first
        | (go_at_call 31; refine (rof_r 1 _ (by omega) (by omega)).mono ?_; rintro e w6 ⟨zn, zo, znn, znc, zeo, zen, zec, rz, rfl, q1, q2, q3, q4⟩; have bz := chain bz q4; have HZ : Hid (RatAt w6 zo znn znc zeo zen zec rz ∧ rz.neg = zn ∧ x.c = rz) := ⟨q2, q1, HY.out.2.1.one q3 rfl⟩; clear q1 q2 q3 q4)
        | (go_at_call 30; refine (rsame_r _ _ _ _ _ _ _ _ _ _ _ _ _ _ x.c rz _ (HY.out.1.rat.below bz) HZ.out.1 HY.out.1.neg HZ.out.2.1 true (yes_iff HZ.out.2.2)).mono ?_; rintro e w7 ⟨rfl, q0⟩; have bz := chain bz q0; clear q0)
        | (go_at_call_of 14 (Value.slice lq nq cq); refine (rsame_b _ _ _ _ _ _ _ _ _ _ _ (H5.out.1.below bz) (H5.out.2.2.1.below bz) true (yes_iff rfl)).mono ?_; rintro e w8 ⟨rfl, q0⟩; have bz := chain bz q0; clear q0)
        | (go_at_call_of 14 (Value.slice lr nr cr); refine (rsame_b _ _ _ _ _ _ _ _ _ _ _ (H5.out.2.2.2.1.below bz) (H5.out.2.1.below bz) true (yes_iff rfl)).mono ?_; rintro e w9 ⟨rfl, q0⟩; have bz := chain bz q0; clear q0))
    all_goals
      have HW : Hid (Below w.heap.size w _) := chain H5.out.2.2.2.2 bz
      clear bz
      go_wp2_with fail
      go_ret
      exact ⟨rfl, HW.out⟩
end Go.Proofs.YtbdldijgcmgfaaaGreat
