/-
  The walk of the law that it is one polynomial, however its terms stand.
-/
import Derived.Test.YtbdldijgcmgfaaaGreatOneM
import Derived.Test.YtbdldijgcmgfaaaGreatPolyCameS
import Derived.Test.YtbdldijgcmgfaaaGreatJV1
import Derived.Test.YtbdldijgcmgfaaaGreatJU1
import Derived.RegionTactic
import Derived.Deep.RegionHeld3
namespace Go.Proofs.YtbdldijgcmgfaaaGreat
open Go.RowKit

/-- The terms so far. -/
structure OnSt (w1 wr : World) (v : Value) (p : List TL) (N : Nat) (qs : List TP) (ms : List TL) : Prop where
  bel : Below w1.heap.size w1 wr
  own : TermsOwn wr w1.heap.size v qs ms
  form : ∃ g cap, v = .slice (some ⟨g, 0, none⟩) qs.length cap
  it : ∀ t ∈ ms, IT 1280 t
  coef : ∀ m, Go.Proofs.YtbdldijgcmgfaaaGreat.coef ms m = Go.Proofs.YtbdldijgcmgfaaaGreat.coef p m
  len : qs.length ≤ N
theorem OnSt.below {w1 wr w' : World} {v : Value} {p : List TL} {N : Nat} {qs : List TP} {ms : List TL} (h : OnSt w1 wr v p N qs ms) (hb : Below wr.heap.size wr w') : OnSt w1 w' v p N qs ms := ⟨chain h.bel hb, h.own.below hb, h.form, h.it, h.coef, h.len⟩
theorem TermsOwn.fz {w : World} {base g n cap : Nat} {ps : List TP} {ls : List TL} (h : TermsOwn w base (.slice (some ⟨g, 0, none⟩) n cap) ps ls) (k : Nat) : w.frozen? ⟨g, k, none⟩ = false := by
  rcases h.own.row.2 with ⟨e, _⟩ | ⟨g', cap', cur, e, _, hb, _⟩
  · cases e
  · simp only [Value.slice.injEq, Option.some.injEq, Addr.mk.injEq, and_true] at e
    obtain ⟨e0, _, _⟩ := e
    subst e0
    simp [World.frozen?, hb]
theorem TermsOwn.el {w : World} {base g n cap : Nat} {ps : List TP} {ls : List TL} (h : TermsOwn w base (.slice (some ⟨g, 0, none⟩) n cap) ps ls) {i : Nat} (hi : i < ps.length) : ∃ p t, ps[i]? = some p ∧ ls[i]? = some t ∧ TermAt w p t ∧ ElemAt w g (i * 7) p := by
  have hp : ps[i]? = some (ps[i]'hi) := List.getElem?_eq_getElem _
  have ht : ls[i]? = some (ls[i]'(by rw [← h.len]; exact hi)) := List.getElem?_eq_getElem _
  have hc := h.at.cells i _ hp
  rw [Nat.zero_add] at hc
  exact ⟨_, _, hp, ht, h.each i _ _ hp ht, .of hc⟩
theorem remk_ex (d : Int) (n : Nat) (h0 : 0 ≤ d) (h1 : d ≤ 255) (hn : 0 < n) : ∃ k : Nat, (wrap64 d).tmod (n : Int) = (k : Int) ∧ k < n := by
  have hw : wrap64 d = d := by unfold wrap64; omega
  rw [hw, Int.tmod_eq_emod_of_nonneg h0]
  have h2 := Int.emod_nonneg d (show (n : Int) ≠ 0 by omega)
  have h3 := Int.emod_lt_of_pos d (show (0 : Int) < (n : Int) by omega)
  exact ⟨(d % (n : Int)).toNat, by omega, by omega⟩

theorem OnSt.swap {w1 wr : World} {g L cap : Nat} {p : List TL} {N : Nat} {qs : List TP} {ms : List TL} {k : Nat} {A B : TP} {ta tb : TL} (h : OnSt w1 wr (.slice (some ⟨g, 0, none⟩) L cap) p N qs ms) (hA : qs[0]? = some A) (hta : ms[0]? = some ta) (ata : TermAt wr A ta) (hB : qs[k]? = some B) (htb : ms[k]? = some tb) (atb : TermAt wr B tb) :
    OnSt w1 (setAt (setAt wr g 0 B) g (k * 7) A).drew (.slice (some ⟨g, 0, none⟩) L cap) p N ((qs.set 0 B).set k A) ((ms.set 0 tb).set k ta) := by
  have h0 : 0 < qs.length := (List.getElem?_eq_some_iff.1 hA).1
  have hk : k < qs.length := (List.getElem?_eq_some_iff.1 hB).1
  have hcl : CleanB wr 39 g := h.own.own.clean g rfl
  have hg1 := setAt_grown wr g 0 B
  have own1 := h.own.set (i := 0) (p := B) (t := tb) h0 atb
  rw [Nat.zero_mul] at own1
  have ata1 : TermAt (setAt wr g 0 B) A ta := ata.grown hg1 (fun x hx => by cases hx; exact hcl)
  have own2 := own1.set (i := k) (p := A) (t := ta) (by rw [List.length_set]; exact hk) ata1
  have hg2 := setAt_grown (setAt wr g 0 B) g (k * 7) A
  have hge : w1.heap.size ≤ g := (h.own.own.row.lt g rfl).1
  have b1 := h.bel.grown hg1 h.bel.size (fun x hx => by cases hx; exact hge)
  have b2 := b1.grown hg2 b1.size (fun x hx => by cases hx; exact hge)
  have hd : Below (setAt (setAt wr g 0 B) g (k * 7) A).heap.size (setAt (setAt wr g 0 B) g (k * 7) A) (setAt (setAt wr g 0 B) g (k * 7) A).drew := (Below.refl _ _).drew
  obtain ⟨g', cap', e⟩ := h.form
  refine OnSt.below ⟨b2, own2, ⟨g', cap', by rw [List.length_set, List.length_set]; exact e⟩, fun t ht => ?_, fun m => (coef_swap hta htb m).trans (h.coef m), by rw [List.length_set, List.length_set]; exact h.len⟩ hd
  rcases mem_set2 ht with hm | rfl | rfl
  · exact h.it t hm
  · exact h.it _ (List.mem_of_getElem? hta)
  · exact h.it _ (List.mem_of_getElem? htb)
theorem OnSt.put {w1 wr w' : World} {g L cap g2 cap2 : Nat} {p : List TL} {N : Nat} {qs : List TP} {ms : List TL} {a b : TP} {r s : RatL} {m0 : Mo} {n : Int} (h : OnSt w1 wr (.slice (some ⟨g, 0, none⟩) L cap) p N qs ms) (hL : qs.length = L) (hr : Is r n 1) (hs : Is s (-n) 1) (h0 : 0 ≤ n) (h1 : n ≤ 255) (hm : MayM m0) (ha : TermAt wr a ⟨r, m0⟩) (hb : TermAt wr b ⟨s, m0⟩) (ho : OwnS w' w1.heap.size 39 7 (.slice (some ⟨g2, 0, none⟩) (L + 2) cap2) (L + 2) (tcells qs ++ tcells [a, b])) (hg : wr.grownBy w' (some g)) :
    OnSt w1 w' (.slice (some ⟨g2, 0, none⟩) (L + 2) cap2) p (N + 2) (qs ++ [a, b]) (ms ++ [⟨r, m0⟩, ⟨s, m0⟩]) := by
  refine ⟨h.bel.grown hg h.bel.size (fun k hk => by cases hk; exact (h.own.own.row.lt g rfl).1), h.own.put (qs := [a, b]) (ms := [⟨r, m0⟩, ⟨s, m0⟩]) rfl ?_ (by rw [hL]; exact ho) hg, ⟨g2, cap2, by rw [List.length_append, hL]; rfl⟩, fun t ht => ?_, fun m => (coef_pair hr hs m).trans (h.coef m), by rw [List.length_append]; have := h.len; simp; omega⟩
  · intro i x t hx ht
    match i, hx, ht with
    | 0, hx, ht => simp at hx ht; subst hx ht; exact ha
    | 1, hx, ht => simp at hx ht; subst hx ht; exact hb
  · rcases List.mem_append.1 ht with ht | ht
    · exact h.it t ht
    · simp at ht
      rcases ht with rfl | rfl
      · exact ⟨hr.re, by show r.top.natAbs ≤ 1280; rw [hr.whole1.1]; omega, hm⟩
      · exact ⟨hs.re, by show s.top.natAbs ≤ 1280; rw [hs.whole1.1]; omega, hm⟩

set_option maxRecDepth 100000 in
set_option maxHeartbeats 16000000 in
theorem one_walk (d : Int) (no : Option Addr) (nn nc : Nat) (mo : Option Addr) (mn mc : Nat) (so : Option Addr) (sn sc : Nat) (zs : List Int) (w : World) (h0 : 0 ≤ d) (h1 : d ≤ 255) (h : SmallAt w no nn mo mn) (hz : IsRow .u8 w so sn sc zs) (hsm : (sn : Int) ≤ 9223372036854775807) :
    Calls Tryz.prog 6 #[.int .u8 d, .agg #[.slice no nn nc, .slice mo mn mc], .slice so sn sc] w fun e w' => e = .returned (.bool true) ∧ Below w.heap.size w w' := by
  obtain ⟨i0, hi0, hz0, hz1, hz2⟩ := info_parts info39
  obtain ⟨o, hmod, ho⟩ := rem3_ex d h0 h1
  have b1 := bel1 w (.cells #[.slice no nn nc, .slice mo mn mc] 50)
  have H : Hid (SmallAt (w.alloc (.cells #[.slice no nn nc, .slice mo mn mc] 50)) no nn mo mn ∧ SBx (w.alloc (.cells #[.slice no nn nc, .slice mo mn mc] 50)) w.heap.size no nn nc mo mn mc ∧ Below w.heap.size w (w.alloc (.cells #[.slice no nn nc, .slice mo mn mc] 50)) ∧ Ord o ∧ IsRow .u8 w so sn sc zs) := ⟨h.below b1, heap_alloc_new w _, b1, ho, hz⟩
  have x0 := H.out.2.1.c0
  have x1 := H.out.2.1.c1
  clear h b1 ho h0 h1 hz
  by_cases hlong : 100 < sn
  · have hl : (100 : Int) < (sn : Int) := by omega
    go_enter Tryz.func6, Tryz.ntmps6
    go_wp2_with fail
    refine (shown_b _).mono ?_
    rintro e w4 ⟨rfl, q0⟩
    have H4 : Hid (Below w.heap.size w w4) := chain H.out.2.2.1 q0
    clear q0
    go_wp2_with fail
    go_ret
    exact ⟨rfl, H4.out⟩
  · have hl : ¬ (100 : Int) < (sn : Int) := by omega
    have HL : Hid (sn ≤ 100) := by show sn ≤ 100; omega
    clear hlong
    go_enter Tryz.func6, Tryz.ntmps6
    go_wp2_with fail
    refine (shown_b _).mono ?_
    rintro e w4 ⟨rfl, q0⟩
    have H4 : Hid (SmallAt w4 no nn mo mn ∧ SBx w4 w.heap.size no nn nc mo mn mc ∧ Below w.heap.size w w4) := ⟨H.out.1.below q0, H.out.2.1.below q0, chain H.out.2.2.1 q0⟩
    clear q0 x0 x1 hl
    have x0 := H4.out.2.1.c0
    have x1 := H4.out.2.1.c1
    go_wp2_with fail
    refine (made_b o _ _ _ _ _ _ _ H.out.2.2.2.1 H4.out.1).mono ?_
    rintro e w1 ⟨po, pn, pc, ps, p, rfl, a1, a2, q0⟩
    have H1 : Hid (PolyAt w1 po pn pc ps p ∧ Made o p ∧ Below w.heap.size w w1 ∧ Ord o) := ⟨a1, a2, chain H4.out.2.2 q0, H.out.2.2.2.1⟩
    have HA : Hid (PolyAt (w1.alloc (.cells #[] 39)) po pn pc ps p ∧ TermsOwn (w1.alloc (.cells #[] 39)) w1.heap.size (.slice (some ⟨w1.heap.size, 0, none⟩) 0 0) [] [] ∧ Below w1.heap.size w1 (w1.alloc (.cells #[] 39))) := ⟨a1.below (bel1 _ _), TermsOwn.made w1 _ (Nat.le_refl _), bel1 _ _⟩
    have hnum := a1.num
    have hnc : pn ≤ pc := a1.fits
    have hbare := a1.bare
    have HN : Hid (pn ≤ 10) := by have := a1.len; have := a2.len; show pn ≤ 10; omega
    clear a1 a2 q0 x0 x1 hmod
    go_upto_region 5 with fail
    go_cut [9] from 14 to 103 (fun s9 wx => ∃ qs, Hid (OnSt w1 wx s9 p 10 qs p))
    case first =>
      cases po with
      | none =>
        have hc0 := hbare rfl
        subst hc0
        have hn0 : pn = 0 := by omega
        subst hn0
        have hr := (append_types 22 23 22 39 i0 hi0 Tryz.underlying22 Tryz.underlying23 (.slice (some ⟨w1.heap.size, 0, none⟩) 0 0) (.slice none 0 0) (w1.alloc (.cells #[] 39))).trans (run_append_owned_none (P := Tryz.prog) (w := w1.alloc (.cells #[] 39)) w1.heap.size 22 22 39 i0 7 Tryz.underlying22 hi0 (.slice (some ⟨w1.heap.size, 0, none⟩) 0 0) _ _ HA.out.2.1.own.row)
        clear hbare hnc hnum
        go_wp2_with (at_builtin; refine Lib.wpList_append_run _ rfl _ _ _ _ rfl _ _ rfl rfl _ _ hr ?_)
        clear hr
        go_meet
        have hp0 : p = [] := List.length_eq_zero_iff.1 H1.out.1.len
        subst hp0
        exact ⟨[], HA.out.2.2, HA.out.2.1, ⟨_, _, rfl⟩, fun t h => by simp at h, fun m => rfl, by simp⟩
      | some ad =>
        have hl7 : (tcells ps).length = pn * 7 := by rw [tcells_length, hnum]
        obtain ⟨v2, w3, hr0, ho2, hg, hv2⟩ := run_append_owns (P := Tryz.prog) (w1.alloc (.cells #[] 39)) w1.heap.size 22 22 39 i0 _ 7 88 Tryz.underlying22 hi0 hz0 hz1 hz2 rfl (by omega) zero39 (.slice (some ⟨w1.heap.size, 0, none⟩) 0 0) 0 [] HA.out.2.1.own ad pn pc (tcells ps) hl7 HA.out.1.news (tcells_onecell _) (tcells_clean _) (by have := HN.out; unfold maxLen; omega) (by have := HN.out; omega) HA.out.2.2.size
        have hr := (append_types 22 23 22 39 i0 hi0 Tryz.underlying22 Tryz.underlying23 (.slice (some ⟨w1.heap.size, 0, none⟩) 0 0) (.slice (some ad) pn pc) (w1.alloc (.cells #[] 39))).trans hr0
        have S0 : Hid (OnSt w1 w3 v2 p 10 ps p) := by
          have hl : 0 + pn = ps.length := by rw [hnum]; omega
          rw [hl] at ho2
          obtain ⟨bb, offb, _, h2⟩ := HA.out.1.at'
          have hown := HA.out.2.1.put (qs := ps) (ms := p) h2.len h2.each (by rw [show tcells ([] : List TP) = [] from rfl]; simpa using ho2) hg
          have hown2 : TermsOwn w3 w1.heap.size v2 ps p := by simpa using hown
          obtain ⟨g, cap, e, _⟩ := hown2.form (fun e => by have := (hv2.1 e).1; cases this)
          exact ⟨HA.out.2.2.grown hg HA.out.2.2.size (fun k hk => by cases hk; exact Nat.le_refl _), hown2, ⟨g, cap, e⟩, H1.out.2.1.int.it, fun m => rfl, by rw [hnum]; exact HN.out⟩
        clear hl7 hr0 ho2 hg hv2 hbare hnc hnum
        go_wp2_with (at_builtin; refine Lib.wpList_append_run _ rfl _ _ _ _ rfl _ _ rfl rfl _ _ hr ?_)
        clear hr
        go_meet
        exact ⟨ps, S0.out⟩
    case rest =>
      rename World => wx
      rename Value => u9
      obtain ⟨qs0, hX⟩ := hcut
      clear hbare hnc hnum
      go_wp2_with fail
      go_loopg [9, 10] sn (fun g vv i wr => ∃ (j : Nat) (qs : List TP) (ms : List TL), j ≤ sn ∧ sn - j ≤ g ∧ i = .int .i64 j ∧ Hid (OnSt w1 wr vv p (10 + 2 * j) qs ms))
      case atStart => exact ⟨0, _, _, by omega, by omega, rfl, hX.out⟩
      case round =>
        obtain ⟨j, qs, ms, hj, hjr, rfl, hT⟩ := hrel
        rename World => wr
        obtain ⟨g, cap, rfl⟩ := hT.out.form
        obtain ⟨L, hL⟩ : ∃ L, L = qs.length := ⟨_, rfl⟩
        have HL2 : Hid (L = qs.length ∧ L ≤ 210) := ⟨hL, by have := hT.out.len; have := HL.out; omega⟩
        rw [← hL] at hT
        rw [← hL]
        clear hL
        have hj0 : (0 : Int) ≤ (j : Int) := by omega
        by_cases hlt : j < sn ∧ 0 < L
        · have hja : (j : Int) < (sn : Int) := by omega
          have hlp : 0 < L := hlt.2
          have hlq : (0 : Int) < (L : Int) := by omega
          obtain ⟨sb, sof, zd, rfl, hsc, hzw, hsb⟩ := isRow_cell H.out.2.2.2.2 hlt.1
          have hzb := bounds_u8 hzw
          obtain ⟨k, hk, hkL⟩ := remk_ex zd L hzb.1 hzb.2 hlp
          have hkz : (0 : Int) ≤ (k : Int) := by omega
          have hkl : (k : Int) < (L : Int) := by omega
          have bw : Hid (Below w.heap.size w wr) := H1.out.2.2.1.trans (hT.out.bel.mono H1.out.2.2.1.size)
          have hsc2 : wr.cell? ⟨sb, sof + j, none⟩ = some (.int .u8 zd) := (bw.out.cell (p := ⟨sb, sof + j, none⟩) hsb).trans hsc
          obtain ⟨⟨ag, ao, an, ac, aeo, aen, aec, aa, ab, ac', ad'⟩, ta, hpa, hta, hata, hea⟩ := hT.out.own.el (i := 0) (by rw [← HL2.out.1]; exact hlp)
          obtain ⟨⟨bg, bo, bn, bc, beo, ben, bec, ba, bb, bc', bd'⟩, tb, hpb, htb, hatb, heb⟩ := hT.out.own.el (i := k) (by rw [← HL2.out.1]; exact hkL)
          obtain ⟨e0, e1, e2, e3, e4, e5, e6⟩ := hea
          obtain ⟨k0, k1, k2, k3, k4, k5, k6⟩ := heb
          dsimp only at e0 e1 e2 e3 e4 e5 e6 k0 k1 k2 k3 k4 k5 k6
          rw [Nat.zero_mul] at e0 e1 e2 e3 e4 e5 e6
          simp only [Nat.zero_add] at e1 e2 e3 e4 e5 e6
          have f0 := hT.out.own.fz 0
          have f1 := hT.out.own.fz 1
          have f2 := hT.out.own.fz 2
          have f3 := hT.out.own.fz 3
          have f4 := hT.out.own.fz 4
          have f5 := hT.out.own.fz 5
          have f6 := hT.out.own.fz 6
          have g0 := hT.out.own.fz (k * 7)
          have g1 := hT.out.own.fz (k * 7 + 1)
          have g2 := hT.out.own.fz (k * 7 + 2)
          have g3 := hT.out.own.fz (k * 7 + 3)
          have g4 := hT.out.own.fz (k * 7 + 4)
          have g5 := hT.out.own.fz (k * 7 + 5)
          have g6 := hT.out.own.fz (k * 7 + 6)
          have HK : Hid (qs[0]? = some ⟨ag, ao, an, ac, aeo, aen, aec, aa, ab, ac', ad'⟩ ∧ ms[0]? = some ta ∧ TermAt wr ⟨ag, ao, an, ac, aeo, aen, aec, aa, ab, ac', ad'⟩ ta ∧ qs[k]? = some ⟨bg, bo, bn, bc, beo, ben, bec, ba, bb, bc', bd'⟩ ∧ ms[k]? = some tb ∧ TermAt wr ⟨bg, bo, bn, bc, beo, ben, bec, ba, bb, bc', bd'⟩ tb ∧ j < sn ∧ sn - j ≤ _ ∧ k < L ∧ 0 < L ∧ (0 ≤ zd ∧ zd ≤ 255) ∧ sb < w.heap.size ∧ w.cell? ⟨sb, sof + j, none⟩ = some (.int .u8 zd)) := ⟨hpa, hta, hata, hpb, htb, hatb, hlt.1, hjr, hkL, hlp, hzb, hsb, hsc⟩
          clear hpa hta hata hpb htb hatb hlt hjr hkL hzb hsb hsc hzw hj
          go_upto_region 10 with fail
          go_cut [0] from 31 to 85 (fun s0 wy => s0 = .int .u8 d ∧ Hid (OnSt w1 wy (.slice (some ⟨g, 0, none⟩) L cap) p (10 + 2 * j) ((qs.set 0 ⟨bg, bo, bn, bc, beo, ben, bec, ba, bb, bc', bd'⟩).set k ⟨ag, ao, an, ac, aeo, aen, aec, aa, ab, ac', ad'⟩) ((ms.set 0 tb).set k ta)))
          case first =>
            by_cases hk0 : k = 0
            · subst hk0
              simp only [Nat.zero_mul, Nat.zero_add] at k0 k1 k2 k3 k4 k5 k6 g0 g1 g2 g3 g4 g5 g6
              clear k0 k1 k2 k3 k4 k5 k6 g0 g1 g2 g3 g4 g5 g6
              go_region
              go_wp2_with fail
              go_meet
              have hsw : OnSt w1 _ (.slice (some ⟨g, 0, none⟩) L cap) p (10 + 2 * j) ((qs.set 0 ⟨ag, ao, an, ac, aeo, aen, aec, aa, ab, ac', ad'⟩).set 0 ⟨ag, ao, an, ac, aeo, aen, aec, aa, ab, ac', ad'⟩) ((ms.set 0 ta).set 0 ta) := hT.out.swap (k := 0) HK.out.1 HK.out.2.1 HK.out.2.2.1 HK.out.1 HK.out.2.1 HK.out.2.2.1
              rw [List.set_set, List.set_set] at hsw
              simp only [setAt, Nat.zero_mul, Nat.zero_add] at hsw
              refine ⟨rfl, ?_⟩
              rw [List.set_set, List.set_set]
              exact hsw
            · have n0 : ¬ k * 7 = 0 := by omega
              have n1 : ¬ k * 7 = 1 := by omega
              have n2 : ¬ k * 7 = 2 := by omega
              have n3 : ¬ k * 7 = 3 := by omega
              have n4 : ¬ k * 7 = 4 := by omega
              have n5 : ¬ k * 7 = 5 := by omega
              have n6 : ¬ k * 7 = 6 := by omega
              have m0 : ¬ 0 = k * 7 := by omega
              have m1 : ¬ 1 = k * 7 := by omega
              have m2 : ¬ 2 = k * 7 := by omega
              have m3 : ¬ 3 = k * 7 := by omega
              have m4 : ¬ 4 = k * 7 := by omega
              have m5 : ¬ 5 = k * 7 := by omega
              have m6 : ¬ 6 = k * 7 := by omega
              go_region
              go_wp2_with fail
              go_meet
              have hsw := hT.out.swap (k := k) HK.out.1 HK.out.2.1 HK.out.2.2.1 HK.out.2.2.2.1 HK.out.2.2.2.2.1 HK.out.2.2.2.2.2.1
              simp only [setAt, Nat.zero_add] at hsw
              exact ⟨rfl, hsw⟩
          case rest =>
            rename World => wy
            obtain ⟨rfl, hY⟩ := hcut
            clear e0 e1 e2 e3 e4 e5 e6 k0 k1 k2 k3 k4 k5 k6 f0 f1 f2 f3 f4 f5 f6 g0 g1 g2 g3 g4 g5 g6 hsc2 hk hkz hkl
            obtain ⟨qs', hqs⟩ : ∃ x, x = (qs.set 0 ⟨bg, bo, bn, bc, beo, ben, bec, ba, bb, bc', bd'⟩).set k ⟨ag, ao, an, ac, aeo, aen, aec, aa, ab, ac', ad'⟩ := ⟨_, rfl⟩
            obtain ⟨ms', hms⟩ : ∃ x, x = (ms.set 0 tb).set k ta := ⟨_, rfl⟩
            have HQ : Hid (qs'.length = L) := by show qs'.length = L; rw [hqs, List.length_set, List.length_set]; exact HL2.out.1.symm
            rw [← hqs, ← hms] at hY
            clear hqs hms
            obtain ⟨⟨ag, ao, an, ac, aeo, aen, aec, aa, ab, ac', ad'⟩, ta, hpa, hta, hata, hea⟩ := hY.out.own.el (i := 0) (by rw [HQ.out]; exact hlp)
            rw [Nat.zero_mul] at hea
            have HE : Hid (ElemAt wy g 0 ⟨ag, ao, an, ac, aeo, aen, aec, aa, ab, ac', ad'⟩ ∧ qs'[0]? = some ⟨ag, ao, an, ac, aeo, aen, aec, aa, ab, ac', ad'⟩ ∧ MayM ⟨aa, ab, ac', ad'⟩) := by
              refine ⟨hea, hpa, ?_⟩
              have h9 := (hY.out.it ta (List.mem_of_getElem? hta)).m
              rw [hata.mo] at h9
              exact h9
            clear hpa hta hata hea
            have HSw : Hid (∀ W, Below w1.heap.size w1 W → W.cell? ⟨sb, sof + j, none⟩ = some (.int .u8 zd)) := fun W hW =>
              ((H1.out.2.2.1.trans (hW.mono H1.out.2.2.1.size)).cell (p := ⟨sb, sof + j, none⟩) HK.out.2.2.2.2.2.2.2.2.2.2.2.1).trans HK.out.2.2.2.2.2.2.2.2.2.2.2.2
            have HS : Hid (∀ W, Below wy.heap.size wy W → W.cell? ⟨sb, sof + j, none⟩ = some (.int .u8 zd) ∧ W.cell? ⟨g, 3, none⟩ = some (.int .i64 aa) ∧ W.cell? ⟨g, 4, none⟩ = some (.int .i64 ab) ∧ W.cell? ⟨g, 5, none⟩ = some (.int .i64 ac') ∧ W.cell? ⟨g, 6, none⟩ = some (.int .i64 ad')) := fun W hW => by
              have hlt : g < wy.heap.size := (hY.out.own.own.row.lt g rfl).2
              have h9 := HE.out.1.below hlt hW
              exact ⟨HSw.out W (chain hY.out.bel hW), h9.c3, h9.c4, h9.c5, h9.c6⟩
            have hwz : IntKind.i64.wrap zd = zd := by (have h9 := HK.out.2.2.2.2.2.2.2.2.2.2.1); rw [IntKind.wrap_i64]; omega
            have hwn : IntKind.i64.wrap (-zd) = -zd := by (have h9 := HK.out.2.2.2.2.2.2.2.2.2.2.1); rw [IntKind.wrap_i64]; omega
            have bz : Below wy.heap.size wy wy.drew := (Below.refl _ _).drew
            go_upto_region 11 with fail
            go_region_held3 (fun W => W.cell? ⟨sb, sof + j, none⟩ = some (.int .u8 zd) ∧ W.cell? ⟨g, 3, none⟩ = some (.int .i64 aa) ∧ W.cell? ⟨g, 4, none⟩ = some (.int .i64 ab) ∧ W.cell? ⟨g, 5, none⟩ = some (.int .i64 ac') ∧ W.cell? ⟨g, 6, none⟩ = some (.int .i64 ad'))
              (first | exact HS6.out | exact HS.out _ bz | exact HS.out _ (chain bz (bel1 _ _)))
              (first
                | (go_at_call_of 29 (Value.int IntKind.i64 zd); refine (one_b zd aa ab ac' ad' _ (by have := HK.out.2.2.2.2.2.2.2.2.2.2.1; omega) (by have := HK.out.2.2.2.2.2.2.2.2.2.2.1; omega)).mono ?_; rintro e w5 ⟨⟨pg, po1, pn1, pc1, peo, pen, pec, pa, pb, pcc, pd⟩, r1, rfl, t1, i1, q0⟩; have bz := chain bz q0; have G1 : Hid (TermAt w5 ⟨pg, po1, pn1, pc1, peo, pen, pec, pa, pb, pcc, pd⟩ ⟨r1, ⟨aa, ab, ac', ad'⟩⟩ ∧ Is r1 zd 1) := ⟨t1, i1⟩; clear t1 i1 q0)
                | (go_at_call_of 29 (Value.int IntKind.i64 (-zd)); refine (one_b (-zd) aa ab ac' ad' _ (by have := HK.out.2.2.2.2.2.2.2.2.2.2.1; omega) (by have := HK.out.2.2.2.2.2.2.2.2.2.2.1; omega)).mono ?_; rintro e w6 ⟨⟨yg, yo1, yn1, yc1, yeo, yen, yec, ya, yb, ycc, yd⟩, r2, rfl, t2, i2, q0⟩; have bz := chain bz q0; have G2 : Hid (OnSt w1 (w6.alloc (.cells #[.bool pg, .slice po1 pn1 pc1, .slice peo pen pec, .int .i64 pa, .int .i64 pb, .int .i64 pcc, .int .i64 pd, .bool yg, .slice yo1 yn1 yc1, .slice yeo yen yec, .int .i64 ya, .int .i64 yb, .int .i64 ycc, .int .i64 yd] 39)) (.slice (some ⟨g, 0, none⟩) L cap) p (10 + 2 * j) qs' ms' ∧ TermAt (w6.alloc (.cells #[.bool pg, .slice po1 pn1 pc1, .slice peo pen pec, .int .i64 pa, .int .i64 pb, .int .i64 pcc, .int .i64 pd, .bool yg, .slice yo1 yn1 yc1, .slice yeo yen yec, .int .i64 ya, .int .i64 yb, .int .i64 ycc, .int .i64 yd] 39)) ⟨pg, po1, pn1, pc1, peo, pen, pec, pa, pb, pcc, pd⟩ ⟨r1, ⟨aa, ab, ac', ad'⟩⟩ ∧ TermAt (w6.alloc (.cells #[.bool pg, .slice po1 pn1 pc1, .slice peo pen pec, .int .i64 pa, .int .i64 pb, .int .i64 pcc, .int .i64 pd, .bool yg, .slice yo1 yn1 yc1, .slice yeo yen yec, .int .i64 ya, .int .i64 yb, .int .i64 ycc, .int .i64 yd] 39)) ⟨yg, yo1, yn1, yc1, yeo, yen, yec, ya, yb, ycc, yd⟩ ⟨r2, ⟨aa, ab, ac', ad'⟩⟩ ∧ Is r2 (-zd) 1) := ⟨(hY.out.below bz).below (bel1 _ _), (G1.out.1.below q0).below (bel1 _ _), t2.below (bel1 _ _), i2⟩; clear t2 i2 q0)
                | (refine step_append_kept _ (by rfl) _ _ _ (by rfl) w1.heap.size 39 i0 _ 7 88 Tryz.underlying22 hi0 hz0 hz1 hz2 rfl (by omega) zero39 g L cap (tcells qs') (by rfl) (by have h := G2.out.1.own.own; rw [HQ.out] at h; exact h) ⟨w6.heap.size, 0, none⟩ 2 2 (tcells [⟨pg, po1, pn1, pc1, peo, pen, pec, pa, pb, pcc, pd⟩, ⟨yg, yo1, yn1, yc1, yeo, yen, yec, ya, yb, ycc, yd⟩]) (by rfl) (by rfl) (World.news_of_block (heap_alloc_new w6 _)) (tcells_onecell _) (tcells_clean _) (by omega) (by have := HL2.out.2; unfold maxLen; omega) (by have := HL2.out.2; omega) G2.out.1.bel.size ?_; intro g2 cap2 w7 hown hgrow hkeep; have H6 : Hid (OnSt w1 w7 (.slice (some ⟨g2, 0, none⟩) (L + 2) cap2) p (10 + 2 * j + 2) (qs' ++ [⟨pg, po1, pn1, pc1, peo, pen, pec, pa, pb, pcc, pd⟩, ⟨yg, yo1, yn1, yc1, yeo, yen, yec, ya, yb, ycc, yd⟩]) (ms' ++ [⟨r1, ⟨aa, ab, ac', ad'⟩⟩, ⟨r2, ⟨aa, ab, ac', ad'⟩⟩])) := G2.out.1.put HQ.out G1.out.2 G2.out.2.2.2 HK.out.2.2.2.2.2.2.2.2.2.2.1.1 HK.out.2.2.2.2.2.2.2.2.2.2.1.2 HE.out.2.2 G2.out.2.1 G2.out.2.2.1 hown hgrow; have HS6 : Hid (w7.cell? ⟨sb, sof + j, none⟩ = some (.int .u8 zd) ∧ w7.cell? ⟨g, 3, none⟩ = some (.int .i64 aa) ∧ w7.cell? ⟨g, 4, none⟩ = some (.int .i64 ab) ∧ w7.cell? ⟨g, 5, none⟩ = some (.int .i64 ac') ∧ w7.cell? ⟨g, 6, none⟩ = some (.int .i64 ad')) := ⟨HSw.out _ H6.out.bel, by (have h9 := hkeep 3 _ (tcells_at qs' 0 3 _ (.int .i64 aa) HE.out.2.1 rfl); simpa [Addr.add] using h9), by (have h9 := hkeep 4 _ (tcells_at qs' 0 4 _ (.int .i64 ab) HE.out.2.1 rfl); simpa [Addr.add] using h9), by (have h9 := hkeep 5 _ (tcells_at qs' 0 5 _ (.int .i64 ac') HE.out.2.1 rfl); simpa [Addr.add] using h9), by (have h9 := hkeep 6 _ (tcells_at qs' 0 6 _ (.int .i64 ad') HE.out.2.1 rfl); simpa [Addr.add] using h9)⟩; clear hown hgrow hkeep))
            clear bz hwz hwn
            go_wp2
            go_roundg (sn - (j + 1))
            case measure => have := HK.out.2.2.2.2.2.2.1; have := HK.out.2.2.2.2.2.2.2.1; omega
            case rel => exact ⟨j + 1, _, _, by have := HK.out.2.2.2.2.2.2.1; omega, Nat.le_refl _, congrArg (Value.int .i64) (show (j : Int) + 1 = ((j + 1 : Nat) : Int) from by omega), H6.out⟩
        · have HQ : Hid (PolyAt wr (some ⟨g, 0, none⟩) L cap qs ms ∧ PolyAt wr po pn pc ps p ∧ Below w.heap.size w wr) := by
            obtain ⟨lo9, cap9, e9, hp9, _⟩ := hT.out.own.poly
            rw [← HL2.out.1] at e9 hp9
            simp only [Value.slice.injEq] at e9
            obtain ⟨f1, _, f2⟩ := e9
            subst f1 f2
            exact ⟨hp9, H1.out.1.below hT.out.bel, H1.out.2.2.1.trans (hT.out.bel.mono H1.out.2.2.1.size)⟩
          by_cases ha : j < sn
          · have ha' : (j : Int) < (sn : Int) := by omega
            have hl0 : L = 0 := by omega
            subst hl0
            clear hlt ha hj hjr
            go_wp2_with fail
            refine (make_b o _ _ _ _ _ _ HQ.out.1 (by have := HL2.out.2; omega)).mono ?_
            rintro e w7 ⟨xo, xn, xc, xp, x, kx, rfl, g1, g2, q0⟩
            obtain ⟨rfl, rfl⟩ := make_same H1.out.2.2.2 H1.out.2.1 hT.out.it hT.out.coef (by have := HQ.out.1.len; have := HL2.out.2; omega) g2
            have H7 : Hid (PolyAt w7 po pn pc ps x ∧ PolyAt w7 xo xn xc xp x ∧ Below w.heap.size w w7) := ⟨HQ.out.2.1.below q0, g1, chain HQ.out.2.2 q0⟩
            clear g1 g2 q0
            go_wp2_with fail
            refine (rsame_b _ _ _ _ _ _ _ _ _ _ _ H7.out.1 H7.out.2.1 true (yes_iff rfl)).mono ?_
            rintro e w8 ⟨rfl, q0⟩
            have H8 : Hid (PolyAt w8 xo xn xc xp x ∧ Below w.heap.size w w8) := ⟨H7.out.2.1.below q0, chain H7.out.2.2 q0⟩
            clear q0
            go_wp2_with fail
            refine (may_b o _ _ _ _ _ _ H8.out.1 true (yes_iff (H1.out.2.1.may H1.out.2.2.2))).mono ?_
            rintro e w9 ⟨rfl, q0⟩
            have H9 : Hid (Below w.heap.size w w9) := chain H8.out.2 q0
            clear q0
            go_wp2_with fail
            go_ret
            exact ⟨rfl, H9.out⟩
          · have ha' : ¬ (j : Int) < (sn : Int) := by omega
            clear hlt ha hj hjr
            go_wp2_with fail
            refine (make_b o _ _ _ _ _ _ HQ.out.1 (by have := HL2.out.2; omega)).mono ?_
            rintro e w7 ⟨xo, xn, xc, xp, x, kx, rfl, g1, g2, q0⟩
            obtain ⟨rfl, rfl⟩ := make_same H1.out.2.2.2 H1.out.2.1 hT.out.it hT.out.coef (by have := HQ.out.1.len; have := HL2.out.2; omega) g2
            have H7 : Hid (PolyAt w7 po pn pc ps x ∧ PolyAt w7 xo xn xc xp x ∧ Below w.heap.size w w7) := ⟨HQ.out.2.1.below q0, g1, chain HQ.out.2.2 q0⟩
            clear g1 g2 q0
            go_wp2_with fail
            refine (rsame_b _ _ _ _ _ _ _ _ _ _ _ H7.out.1 H7.out.2.1 true (yes_iff rfl)).mono ?_
            rintro e w8 ⟨rfl, q0⟩
            have H8 : Hid (PolyAt w8 xo xn xc xp x ∧ Below w.heap.size w w8) := ⟨H7.out.2.1.below q0, chain H7.out.2.2 q0⟩
            clear q0
            go_wp2_with fail
            refine (may_b o _ _ _ _ _ _ H8.out.1 true (yes_iff (H1.out.2.1.may H1.out.2.2.2))).mono ?_
            rintro e w9 ⟨rfl, q0⟩
            have H9 : Hid (Below w.heap.size w w9) := chain H8.out.2 q0
            clear q0
            go_wp2_with fail
            go_ret
            exact ⟨rfl, H9.out⟩
end Go.Proofs.YtbdldijgcmgfaaaGreat
