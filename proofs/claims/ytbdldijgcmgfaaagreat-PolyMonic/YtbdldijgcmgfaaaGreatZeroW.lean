/-
  The walk of the law of nothing and of one.
-/
import Derived.Test.YtbdldijgcmgfaaaGreatJU1
import Derived.Test.YtbdldijgcmgfaaaGreatPolyCameT
import Derived.Test.YtbdldijgcmgfaaaGreatJX1
import Derived.Test.YtbdldijgcmgfaaaGreatJW1
namespace Go.Proofs.YtbdldijgcmgfaaaGreat
open Go.RowKit

theorem rem3_ex (d : Int) (h0 : 0 ≤ d) (h1 : d ≤ 255) : ∃ D, (wrap64 d).tmod 3 = D ∧ Ord D := by
  have hw : wrap64 d = d := by unfold wrap64; omega
  rw [hw, Int.tmod_eq_emod_of_nonneg h0]
  exact ⟨_, rfl, by omega, by omega⟩

/-- Nothing is added. -/
theorem add_none {o : Int} {p out : List TL} {k : Int} (ho : Ord o) (hp : Made o p) (h : AddP o [p, [], []] out k) : out = p ∧ k = 0 := by
  have hf : ([p, [], []] : List (List TL)).flatten = p := by simp
  have hl := hp.len
  obtain ⟨q, h1, h2, h3, _, h5⟩ := add_small (K := 1280) ho (fun r hr => by
    simp at hr
    rcases hr with rfl | rfl
    · exact ⟨hp.int, by omega⟩
    · exact ⟨IntP.nil _ _, by simp⟩) (by omega) (by rw [hf]; omega) h
  rw [hf] at h2 h3
  obtain rfl := IntP.one ho h1 hp.int h2
  exact h5 (by omega)
theorem add_nil {o : Int} {out : List TL} {k : Int} (ho : Ord o) (h : AddP o [] out k) : out = [] ∧ k = 0 := by
  obtain ⟨q, h1, h2, h3, _, h5⟩ := add_small (K := 1) ho (fun r hr => by simp at hr) (by omega) (by simp) h
  have hq : q = [] := List.length_eq_zero_iff.1 (by simpa using h3)
  subst hq
  exact h5 (by simp)
theorem mul_nil {o : Int} {p out : List TL} {k : Int} (ho : Ord o) (hp : Made o p) (h : MulP o p [] out k) : out = [] ∧ k = 0 := by
  obtain ⟨r, _, _, b3, _, b5, _⟩ := mul_small (K := 1280) (L := 1) ho hp.int (IntP.nil o 1) (by have := hp.len; omega) (by simp) (fun x _ t ht => by simp at ht) (by omega) (by omega) (by simp) (by omega) (by omega) h
  have hq : r = [] := List.length_eq_zero_iff.1 (by simpa using b3)
  subst hq
  exact b5 (by simp)
theorem times_zero {o : Int} {p out : List TL} {r : RatL} {m : Mo} {k : Int} (hp : MayP o p) (hr : Is r 0 1) (hm : MayM m) (h : TimesIs o p ⟨r, m⟩ out k) : out = [] ∧ k = 0 :=
  (h.ok ⟨hp, hr.may, hm⟩).zero hr.whole1.1
theorem TimR.self {o : Int} {K : Nat} {t : TL} (h1 : t.c.top = 1) (h0 : t.m = mo0) : ∀ {p q : List TL}, (∀ x ∈ p, IT K x) → TimR t p q → q = p
  | [], [], _, _ => rfl
  | x :: p, y :: q, hp, h => by
    have hx := hp x (.head _)
    have hc := h.1.c
    rw [h1, Int.mul_one] at hc
    have e1 : y.c = x.c := hc.one hx.is rfl
    have e2 : y.m = x.m := by rw [h.1.m, h0, addM_zero]
    have e3 : y = x := by cases x; cases y; simp_all
    rw [e3, TimR.self (o := o) h1 h0 (fun z hz => hp z (.tail _ hz)) h.2]
  | [], _ :: _, _, h => h.elim
  | _ :: _, [], _, h => h.elim
theorem times_one {o : Int} {p out : List TL} {r : RatL} {k : Int} (ho : Ord o) (hp : Made o p) (hr : Is r 1 1) (h : TimesIs o p ⟨r, mo0⟩ out k) : out = p ∧ k = 0 := by
  have hit : IT 1 ⟨r, mo0⟩ := ⟨hr.re, by show r.top.natAbs ≤ 1; rw [hr.whole1.1]; decide, Mn.may_zero⟩
  obtain ⟨hk, hq⟩ := (h.ok ⟨hp.may ho, hr.may, Mn.may_zero⟩).small (K := 1280) hit (by show r.top ≠ 0; rw [hr.whole1.1]; decide) (by omega) (by omega) (fun x hx => ⟨hp.int.it x hx, by show MayM (addM x.m mo0); rw [addM_zero]; exact (hp.int.it x hx).m⟩)
  exact ⟨hq.self (o := o) hr.whole1.1 rfl hp.int.it, hk⟩

theorem PolyAt.cut {W : World} {lo : Option Addr} {n cap : Nat} {ps : List TP} {ls : List TL} (h : PolyAt W lo n cap ps ls) : PolyAt W lo 0 cap [] [] :=
  ⟨rfl, Nat.zero_le _, h.most, h.bare, 0, 0, fun e => absurd e (by omega), rfl, fun e => by simp at e, fun i p e => by simp at e, fun i p t e => by simp at e⟩
theorem ListAt.nil (W : World) : ListAt W none 0 [] := ⟨rfl, by omega, fun i hi => absurd hi (by omega)⟩

set_option maxRecDepth 100000 in
set_option maxHeartbeats 8000000 in
theorem zero_walk (d : Int) (no : Option Addr) (nn nc : Nat) (mo : Option Addr) (mn mc : Nat) (w : World) (h0 : 0 ≤ d) (h1 : d ≤ 255) (h : SmallAt w no nn mo mn) :
    Calls Tryz.prog 9 #[.int .u8 d, .agg #[.slice no nn nc, .slice mo mn mc]] w fun e w' => e = .returned (.bool true) ∧ Below w.heap.size w w' := by
  obtain ⟨o, hmod, ho⟩ := rem3_ex d h0 h1
  have b1 := bel1 w (.cells #[.slice no nn nc, .slice mo mn mc] 50)
  have H : Hid (SmallAt (w.alloc (.cells #[.slice no nn nc, .slice mo mn mc] 50)) no nn mo mn ∧ SBx (w.alloc (.cells #[.slice no nn nc, .slice mo mn mc] 50)) w.heap.size no nn nc mo mn mc ∧ Below w.heap.size w (w.alloc (.cells #[.slice no nn nc, .slice mo mn mc] 50)) ∧ Ord o) := ⟨h.below b1, heap_alloc_new w _, b1, ho⟩
  have x0 := H.out.2.1.c0
  have x1 := H.out.2.1.c1
  clear h b1 ho h0 h1
  go_enter Tryz.func9, Tryz.ntmps9
  go_wp2_with fail
  refine (made_b o _ _ _ _ _ _ _ H.out.2.2.2 H.out.1).mono ?_
  rintro e w1 ⟨po, pn, pc, ps, p, rfl, a1, a2, q0⟩
  have hnc : pn ≤ pc := a1.fits
  have hbare := a1.bare
  have H1 : Hid (PolyAt w1 po pn pc ps p ∧ Made o p ∧ Below w.heap.size w w1 ∧ Ord o) := ⟨a1, a2, chain H.out.2.2.1 q0, H.out.2.2.2⟩
  clear a1 a2 q0 x0 x1 hmod
  cases po with
  | none =>
    have hc0 := hbare rfl
    subst hc0
    have hn0 : pn = 0 := by omega
    subst hn0
    clear hbare hnc
    go_wp2_with fail
    have HA : Hid (ListAt (w1.alloc (.cells #[.slice none 0 0, .slice none 0 0, .slice none 0 0] 23)) (some ⟨w1.heap.size, 0, none⟩) 3 [p, [], []] ∧ PolyAt (w1.alloc (.cells #[.slice none 0 0, .slice none 0 0, .slice none 0 0] 23)) none 0 0 ps p ∧ Below w.heap.size w (w1.alloc (.cells #[.slice none 0 0, .slice none 0 0, .slice none 0 0] 23))) :=
      ⟨list3 (heap_alloc_new _ _) (H1.out.1.below (bel1 _ _)) (PolyAt.nil _) (H1.out.1.below (bel1 _ _)).cut, H1.out.1.below (bel1 _ _), chain H1.out.2.2.1 (bel1 _ _)⟩
    refine (add_b o _ _ _ [p, [], []] _ HA.out.1 (by have := H1.out.2.1.len; simp; omega)).mono ?_
    rintro e w2 ⟨ao, an, ac, ap, a, k, rfl, g1, g2, q0⟩
    obtain ⟨rfl, rfl⟩ := add_none H1.out.2.2.2 H1.out.2.1 g2
    have H2 : Hid (PolyAt w2 none 0 0 ps a ∧ PolyAt w2 ao an ac ap a ∧ Below w.heap.size w w2) := ⟨HA.out.2.1.below q0, g1, chain HA.out.2.2 q0⟩
    clear g1 g2 q0
    go_wp2_with fail
    refine (mulP_b o _ _ _ _ _ _ _ _ _ _ _ H2.out.1 (PolyAt.nil _)).mono ?_
    rintro e w3 ⟨bo, bn, bc, bp, b, k, rfl, g1, g2, q0⟩
    obtain ⟨rfl, rfl⟩ := mul_nil H1.out.2.2.2 H1.out.2.1 g2
    have hbn := g1.len
    simp only [List.length_nil] at hbn
    subst hbn
    have H3 : Hid (PolyAt w3 none 0 0 ps a ∧ PolyAt w3 ao an ac ap a ∧ Below w.heap.size w w3) := ⟨H2.out.1.below q0, H2.out.2.1.below q0, chain H2.out.2.2 q0⟩
    clear g1 g2 q0
    go_wp2_with fail
    refine (one_b 0 3 0 0 0 _ (by omega) (by omega)).mono ?_
    rintro e w4 ⟨tq, r, rfl, t1, i1, q0⟩
    have H4 : Hid (PolyAt w4 none 0 0 ps a ∧ PolyAt w4 ao an ac ap a ∧ Below w.heap.size w w4 ∧ TermAt w4 tq ⟨r, ⟨3, 0, 0, 0⟩⟩ ∧ Is r 0 1) := ⟨H3.out.1.below q0, H3.out.2.1.below q0, chain H3.out.2.2 q0, t1, i1⟩
    clear t1 i1 q0
    go_wp2_with fail
    refine (timesP_b o _ _ _ _ _ tq _ _ H4.out.1 H4.out.2.2.2.1 (by have := H1.out.2.1.len; have := H1.out.1.len; omega)).mono ?_
    rintro e w5 ⟨co, cn, cc, cp, c, k, rfl, g1, g2, q0⟩
    obtain ⟨rfl, rfl⟩ := times_zero (H1.out.2.1.may H1.out.2.2.2) H4.out.2.2.2.2 ⟨⟨by decide, by decide⟩, ⟨by decide, by decide⟩, ⟨by decide, by decide⟩, ⟨by decide, by decide⟩⟩ g2
    have hcn := g1.len
    simp only [List.length_nil] at hcn
    subst hcn
    have H5 : Hid (PolyAt w5 none 0 0 ps a ∧ PolyAt w5 ao an ac ap a ∧ Below w.heap.size w w5) := ⟨H4.out.1.below q0, H4.out.2.1.below q0, chain H4.out.2.2.1 q0⟩
    clear g1 g2 q0
    go_wp2_with fail
    refine (one_b 1 0 0 0 0 _ (by omega) (by omega)).mono ?_
    rintro e w6 ⟨tv, rv, rfl, t1, i1, q0⟩
    have H6 : Hid (PolyAt w6 none 0 0 ps a ∧ PolyAt w6 ao an ac ap a ∧ Below w.heap.size w w6 ∧ TermAt w6 tv ⟨rv, mo0⟩ ∧ Is rv 1 1) := ⟨H5.out.1.below q0, H5.out.2.1.below q0, chain H5.out.2.2 q0, t1, i1⟩
    clear t1 i1 q0
    go_wp2_with fail
    refine (timesP_b o _ _ _ _ _ tv _ _ H6.out.1 H6.out.2.2.2.1 (by have := H1.out.2.1.len; have := H1.out.1.len; omega)).mono ?_
    rintro e w7 ⟨do', dn, dc, dp, dl, k, rfl, g1, g2, q0⟩
    obtain ⟨rfl, rfl⟩ := times_one H1.out.2.2.2 H1.out.2.1 H6.out.2.2.2.2 g2
    have H7 : Hid (PolyAt w7 none 0 0 ps dl ∧ PolyAt w7 ao an ac ap dl ∧ PolyAt w7 do' dn dc dp dl ∧ Below w.heap.size w w7) := ⟨H6.out.1.below q0, H6.out.2.1.below q0, g1, chain H6.out.2.2.1 q0⟩
    clear g1 g2 q0
    go_wp2_with fail
    refine (add_b o _ _ _ [] _ (ListAt.nil _) (by simp)).mono ?_
    rintro e w8 ⟨mo', mn', mc', mp, ml, k, rfl, g1, g2, q0⟩
    obtain ⟨rfl, rfl⟩ := add_nil H1.out.2.2.2 g2
    have hmn := g1.len
    simp only [List.length_nil] at hmn
    subst hmn
    have H8 : Hid (PolyAt w8 none 0 0 ps dl ∧ PolyAt w8 ao an ac ap dl ∧ PolyAt w8 do' dn dc dp dl ∧ Below w.heap.size w w8) := ⟨H7.out.1.below q0, H7.out.2.1.below q0, H7.out.2.2.1.below q0, chain H7.out.2.2.2 q0⟩
    clear g1 g2 q0
    go_wp2_with fail
    refine (rsame_b _ _ _ _ _ _ _ _ _ _ _ H8.out.2.1 H8.out.1 true (yes_iff rfl)).mono ?_
    rintro e w9 ⟨rfl, q0⟩
    have H9 : Hid (PolyAt w9 none 0 0 ps dl ∧ PolyAt w9 do' dn dc dp dl ∧ Below w.heap.size w w9) := ⟨H8.out.1.below q0, H8.out.2.2.1.below q0, chain H8.out.2.2.2 q0⟩
    clear q0
    go_wp2_with fail
    refine (rsame_b _ _ _ _ _ _ _ _ _ _ _ H9.out.2.1 H9.out.1 true (yes_iff rfl)).mono ?_
    rintro e w10 ⟨rfl, q0⟩
    have HX : Hid (Below w.heap.size w w10) := chain H9.out.2.2 q0
    clear q0
    go_wp2_with fail
    refine (shown_b _).mono ?_
    rintro e w11 ⟨rfl, q0⟩
    have HY : Hid (Below w.heap.size w w11) := chain HX.out q0
    clear q0
    go_wp2_with fail
    go_ret
    exact ⟨rfl, HY.out⟩
  | some ad =>
    have hpc : (0 : Int) ≤ (pc : Int) := by omega
    clear hbare hnc
    go_wp2_with fail
    have HA : Hid (ListAt (w1.alloc (.cells #[.slice (some ad) pn pc, .slice none 0 0, .slice (some ad) 0 pc] 23)) (some ⟨w1.heap.size, 0, none⟩) 3 [p, [], []] ∧ PolyAt (w1.alloc (.cells #[.slice (some ad) pn pc, .slice none 0 0, .slice (some ad) 0 pc] 23)) (some ad) pn pc ps p ∧ Below w.heap.size w (w1.alloc (.cells #[.slice (some ad) pn pc, .slice none 0 0, .slice (some ad) 0 pc] 23))) :=
      ⟨list3 (heap_alloc_new _ _) (H1.out.1.below (bel1 _ _)) (PolyAt.nil _) (H1.out.1.below (bel1 _ _)).cut, H1.out.1.below (bel1 _ _), chain H1.out.2.2.1 (bel1 _ _)⟩
    refine (add_b o _ _ _ [p, [], []] _ HA.out.1 (by have := H1.out.2.1.len; simp; omega)).mono ?_
    rintro e w2 ⟨ao, an, ac, ap, a, k, rfl, g1, g2, q0⟩
    obtain ⟨rfl, rfl⟩ := add_none H1.out.2.2.2 H1.out.2.1 g2
    have H2 : Hid (PolyAt w2 (some ad) pn pc ps a ∧ PolyAt w2 ao an ac ap a ∧ Below w.heap.size w w2) := ⟨HA.out.2.1.below q0, g1, chain HA.out.2.2 q0⟩
    clear g1 g2 q0
    go_wp2_with fail
    refine (mulP_b o _ _ _ _ _ _ _ _ _ _ _ H2.out.1 (PolyAt.nil _)).mono ?_
    rintro e w3 ⟨bo, bn, bc, bp, b, k, rfl, g1, g2, q0⟩
    obtain ⟨rfl, rfl⟩ := mul_nil H1.out.2.2.2 H1.out.2.1 g2
    have hbn := g1.len
    simp only [List.length_nil] at hbn
    subst hbn
    have H3 : Hid (PolyAt w3 (some ad) pn pc ps a ∧ PolyAt w3 ao an ac ap a ∧ Below w.heap.size w w3) := ⟨H2.out.1.below q0, H2.out.2.1.below q0, chain H2.out.2.2 q0⟩
    clear g1 g2 q0
    go_wp2_with fail
    refine (one_b 0 3 0 0 0 _ (by omega) (by omega)).mono ?_
    rintro e w4 ⟨tq, r, rfl, t1, i1, q0⟩
    have H4 : Hid (PolyAt w4 (some ad) pn pc ps a ∧ PolyAt w4 ao an ac ap a ∧ Below w.heap.size w w4 ∧ TermAt w4 tq ⟨r, ⟨3, 0, 0, 0⟩⟩ ∧ Is r 0 1) := ⟨H3.out.1.below q0, H3.out.2.1.below q0, chain H3.out.2.2 q0, t1, i1⟩
    clear t1 i1 q0
    go_wp2_with fail
    refine (timesP_b o _ _ _ _ _ tq _ _ H4.out.1 H4.out.2.2.2.1 (by have := H1.out.2.1.len; have := H1.out.1.len; omega)).mono ?_
    rintro e w5 ⟨co, cn, cc, cp, c, k, rfl, g1, g2, q0⟩
    obtain ⟨rfl, rfl⟩ := times_zero (H1.out.2.1.may H1.out.2.2.2) H4.out.2.2.2.2 ⟨⟨by decide, by decide⟩, ⟨by decide, by decide⟩, ⟨by decide, by decide⟩, ⟨by decide, by decide⟩⟩ g2
    have hcn := g1.len
    simp only [List.length_nil] at hcn
    subst hcn
    have H5 : Hid (PolyAt w5 (some ad) pn pc ps a ∧ PolyAt w5 ao an ac ap a ∧ Below w.heap.size w w5) := ⟨H4.out.1.below q0, H4.out.2.1.below q0, chain H4.out.2.2.1 q0⟩
    clear g1 g2 q0
    go_wp2_with fail
    refine (one_b 1 0 0 0 0 _ (by omega) (by omega)).mono ?_
    rintro e w6 ⟨tv, rv, rfl, t1, i1, q0⟩
    have H6 : Hid (PolyAt w6 (some ad) pn pc ps a ∧ PolyAt w6 ao an ac ap a ∧ Below w.heap.size w w6 ∧ TermAt w6 tv ⟨rv, mo0⟩ ∧ Is rv 1 1) := ⟨H5.out.1.below q0, H5.out.2.1.below q0, chain H5.out.2.2 q0, t1, i1⟩
    clear t1 i1 q0
    go_wp2_with fail
    refine (timesP_b o _ _ _ _ _ tv _ _ H6.out.1 H6.out.2.2.2.1 (by have := H1.out.2.1.len; have := H1.out.1.len; omega)).mono ?_
    rintro e w7 ⟨do', dn, dc, dp, dl, k, rfl, g1, g2, q0⟩
    obtain ⟨rfl, rfl⟩ := times_one H1.out.2.2.2 H1.out.2.1 H6.out.2.2.2.2 g2
    have H7 : Hid (PolyAt w7 (some ad) pn pc ps dl ∧ PolyAt w7 ao an ac ap dl ∧ PolyAt w7 do' dn dc dp dl ∧ Below w.heap.size w w7) := ⟨H6.out.1.below q0, H6.out.2.1.below q0, g1, chain H6.out.2.2.1 q0⟩
    clear g1 g2 q0
    go_wp2_with fail
    refine (add_b o _ _ _ [] _ (ListAt.nil _) (by simp)).mono ?_
    rintro e w8 ⟨mo', mn', mc', mp, ml, k, rfl, g1, g2, q0⟩
    obtain ⟨rfl, rfl⟩ := add_nil H1.out.2.2.2 g2
    have hmn := g1.len
    simp only [List.length_nil] at hmn
    subst hmn
    have H8 : Hid (PolyAt w8 (some ad) pn pc ps dl ∧ PolyAt w8 ao an ac ap dl ∧ PolyAt w8 do' dn dc dp dl ∧ Below w.heap.size w w8) := ⟨H7.out.1.below q0, H7.out.2.1.below q0, H7.out.2.2.1.below q0, chain H7.out.2.2.2 q0⟩
    clear g1 g2 q0
    go_wp2_with fail
    refine (rsame_b _ _ _ _ _ _ _ _ _ _ _ H8.out.2.1 H8.out.1 true (yes_iff rfl)).mono ?_
    rintro e w9 ⟨rfl, q0⟩
    have H9 : Hid (PolyAt w9 (some ad) pn pc ps dl ∧ PolyAt w9 do' dn dc dp dl ∧ Below w.heap.size w w9) := ⟨H8.out.1.below q0, H8.out.2.2.1.below q0, chain H8.out.2.2.2 q0⟩
    clear q0
    go_wp2_with fail
    refine (rsame_b _ _ _ _ _ _ _ _ _ _ _ H9.out.2.1 H9.out.1 true (yes_iff rfl)).mono ?_
    rintro e w10 ⟨rfl, q0⟩
    have HX : Hid (Below w.heap.size w w10) := chain H9.out.2.2 q0
    clear q0
    go_wp2_with fail
    refine (shown_b _).mono ?_
    rintro e w11 ⟨rfl, q0⟩
    have HY : Hid (Below w.heap.size w w11) := chain HX.out q0
    clear q0
    go_wp2_with fail
    go_ret
    exact ⟨rfl, HY.out⟩
end Go.Proofs.YtbdldijgcmgfaaaGreat
