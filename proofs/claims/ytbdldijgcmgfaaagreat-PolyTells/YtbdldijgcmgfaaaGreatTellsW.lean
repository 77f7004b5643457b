/-
  The walk of the law that Add, Times, Mul and Monic are the document's.
-/
import Derived.Test.YtbdldijgcmgfaaaGreatPolyCameT
import Derived.Test.YtbdldijgcmgfaaaGreatJU1
import Derived.Test.YtbdldijgcmgfaaaGreatJV1
import Derived.Test.YtbdldijgcmgfaaaGreatJW1
import Derived.Test.YtbdldijgcmgfaaaGreatJX1
namespace Go.Proofs.YtbdldijgcmgfaaaGreat
open Go.RowKit

/-- What the law reads. -/
structure TlSt (w W : World) (po : Option Addr) (pn pc : Nat) (ps : List TP) (p : List TL) (qo : Option Addr) (qn qc : Nat) (qs : List TP) (q : List TL) (ro : Option Addr) (rn rc : Nat) (rs : List TP) (r : List TL) (tp : TP) (t : TL) : Prop where
  p : PolyAt W po pn pc ps p
  q : PolyAt W qo qn qc qs q
  r : PolyAt W ro rn rc rs r
  t : TermAt W tp t
  box : MBx W w.heap.size tp
  bel : Below w.heap.size w W
theorem TlSt.below {w W W' : World} {po : Option Addr} {pn pc : Nat} {ps : List TP} {p : List TL} {qo : Option Addr} {qn qc : Nat} {qs : List TP} {q : List TL} {ro : Option Addr} {rn rc : Nat} {rs : List TP} {r : List TL} {tp : TP} {t : TL} (h : TlSt w W po pn pc ps p qo qn qc qs q ro rn rc rs r tp t) (hb : Below W.heap.size W W') : TlSt w W' po pn pc ps p qo qn qc qs q ro rn rc rs r tp t :=
  ⟨h.p.below hb, h.q.below hb, h.r.below hb, h.t.below hb, h.box.below hb, chain h.bel hb⟩

set_option maxRecDepth 100000 in
set_option maxHeartbeats 8000000 in
theorem tells_walk (o : Int) (po : Option Addr) (pn pc : Nat) (ps : List TP) (p : List TL) (qo : Option Addr) (qn qc : Nat) (qs : List TP) (q : List TL) (ro : Option Addr) (rn rc : Nat) (rs : List TP) (r : List TL) (tp : TP) (t : TL) (w : World) (hp : PolyAt w po pn pc ps p) (hq : PolyAt w qo qn qc qs q) (hr : PolyAt w ro rn rc rs r) (ht : TermAt w tp t) :
    Calls Tryz.prog 4 #[.int .i64 o, .slice po pn pc, .slice qo qn qc, .slice ro rn rc, .agg #[.bool tp.neg, .slice tp.no tp.nn tp.nc, .slice tp.eo tp.en tp.ec, .int .i64 tp.a, .int .i64 tp.b, .int .i64 tp.c, .int .i64 tp.d]] w fun e w' => e = .returned (.bool true) ∧ Below w.heap.size w w' := by
  obtain ⟨tg, tno, tnn, tnc, teo, ten, tec, ta, tb, tc, td⟩ := tp
  dsimp only
  have b1 := bel1 w (.cells #[.bool tg, .slice tno tnn tnc, .slice teo ten tec, .int .i64 ta, .int .i64 tb, .int .i64 tc, .int .i64 td] 39)
  have H : Hid (TlSt w (w.alloc (.cells #[.bool tg, .slice tno tnn tnc, .slice teo ten tec, .int .i64 ta, .int .i64 tb, .int .i64 tc, .int .i64 td] 39)) po pn pc ps p qo qn qc qs q ro rn rc rs r ⟨tg, tno, tnn, tnc, teo, ten, tec, ta, tb, tc, td⟩ t) := ⟨hp.below b1, hq.below b1, hr.below b1, ht.below b1, MBx.new w ⟨tg, tno, tnn, tnc, teo, ten, tec, ta, tb, tc, td⟩, b1⟩
  clear hp hq hr ht b1
  go_enter Tryz.func4, Tryz.ntmps4
  go_wp2_with fail
  refine (heavy_b _ _ _ _ _ _ H.out.p).mono ?_
  rintro e w1 ⟨b1, rfl, hh, q0⟩
  have H1 : Hid (TlSt w w1 po pn pc ps p qo qn qc qs q ro rn rc rs r ⟨tg, tno, tnn, tnc, teo, ten, tec, ta, tb, tc, td⟩ t) := H.out.below q0
  have N1 : Hid (b1 = false → pn ≤ 80) := hh
  clear hh q0
  cases b1 with
  | true =>
    go_wp2_with fail
    refine (shown_b _).mono ?_
    rintro e ws ⟨rfl, q0⟩
    have HS : Hid (Below w.heap.size w ws) := chain H1.out.bel q0
    clear q0
    go_wp2_with fail
    go_ret
    exact ⟨rfl, HS.out⟩
  | false =>
    have M1 : Hid (pn ≤ 80) := N1.out rfl
    clear N1
    go_wp2_with fail
    refine (heavy_b _ _ _ _ _ _ H1.out.q).mono ?_
    rintro e w2 ⟨b2, rfl, hh, q0⟩
    have H2 : Hid (TlSt w w2 po pn pc ps p qo qn qc qs q ro rn rc rs r ⟨tg, tno, tnn, tnc, teo, ten, tec, ta, tb, tc, td⟩ t) := H1.out.below q0
    have N2 : Hid (b2 = false → qn ≤ 80) := hh
    clear hh q0
    cases b2 with
    | true =>
      go_wp2_with fail
      refine (shown_b _).mono ?_
      rintro e ws ⟨rfl, q0⟩
      have HS : Hid (Below w.heap.size w ws) := chain H2.out.bel q0
      clear q0
      go_wp2_with fail
      go_ret
      exact ⟨rfl, HS.out⟩
    | false =>
      have M2 : Hid (qn ≤ 80) := N2.out rfl
      clear N2
      go_wp2_with fail
      refine (heavy_b _ _ _ _ _ _ H2.out.r).mono ?_
      rintro e w3 ⟨b3, rfl, hh, q0⟩
      have H3 : Hid (TlSt w w3 po pn pc ps p qo qn qc qs q ro rn rc rs r ⟨tg, tno, tnn, tnc, teo, ten, tec, ta, tb, tc, td⟩ t) := H2.out.below q0
      have N3 : Hid (b3 = false → rn ≤ 80) := hh
      clear hh q0
      cases b3 with
      | true =>
        go_wp2_with fail
        refine (shown_b _).mono ?_
        rintro e ws ⟨rfl, q0⟩
        have HS : Hid (Below w.heap.size w ws) := chain H3.out.bel q0
        clear q0
        go_wp2_with fail
        go_ret
        exact ⟨rfl, HS.out⟩
      | false =>
        have M3 : Hid (rn ≤ 80) := N3.out rfl
        clear N3
        obtain ⟨c0, c1, c2, c3, c4, c5, c6⟩ := H3.out.box.el
        dsimp only at c0 c1 c2 c3 c4 c5 c6
        have HA : Hid (TlSt w (w3.alloc (.cells #[.bool tg, .slice tno tnn tnc, .slice teo ten tec, .int .i64 ta, .int .i64 tb, .int .i64 tc, .int .i64 td] 39)) po pn pc ps p qo qn qc qs q ro rn rc rs r ⟨tg, tno, tnn, tnc, teo, ten, tec, ta, tb, tc, td⟩ t ∧ PolyAt (w3.alloc (.cells #[.bool tg, .slice tno tnn tnc, .slice teo ten tec, .int .i64 ta, .int .i64 tb, .int .i64 tc, .int .i64 td] 39)) (some ⟨w3.heap.size, 0, none⟩) 1 1 [⟨tg, tno, tnn, tnc, teo, ten, tec, ta, tb, tc, td⟩] [t]) := ⟨H3.out.below (bel1 _ _), poly1 (heap_alloc_new _ _) (H3.out.t.below (bel1 _ _))⟩
        go_wp2_with fail
        refine (heavy_b _ _ _ _ _ _ HA.out.2).mono ?_
        rintro e w4 ⟨b4, rfl, _, q0⟩
        have H4 : Hid (TlSt w w4 po pn pc ps p qo qn qc qs q ro rn rc rs r ⟨tg, tno, tnn, tnc, teo, ten, tec, ta, tb, tc, td⟩ t) := HA.out.1.below q0
        clear q0 c0 c1 c2 c3 c4 c5 c6
        cases b4 with
        | true =>
          go_wp2_with fail
          refine (shown_b _).mono ?_
          rintro e ws ⟨rfl, q0⟩
          have HS : Hid (Below w.heap.size w ws) := chain H4.out.bel q0
          clear q0
          go_wp2_with fail
          go_ret
          exact ⟨rfl, HS.out⟩
        | false =>
          go_wp2_with fail
          refine (shown_b _).mono ?_
          rintro e w5 ⟨rfl, q0⟩
          have H5 : Hid (TlSt w w5 po pn pc ps p qo qn qc qs q ro rn rc rs r ⟨tg, tno, tnn, tnc, teo, ten, tec, ta, tb, tc, td⟩ t) := H4.out.below q0
          clear q0
          have HL : Hid (TlSt w (w5.alloc (.cells #[.slice po pn pc, .slice qo qn qc, .slice ro rn rc] 23)) po pn pc ps p qo qn qc qs q ro rn rc rs r ⟨tg, tno, tnn, tnc, teo, ten, tec, ta, tb, tc, td⟩ t ∧ ListAt (w5.alloc (.cells #[.slice po pn pc, .slice qo qn qc, .slice ro rn rc] 23)) (some ⟨w5.heap.size, 0, none⟩) 3 [p, q, r] ∧ ([p, q, r] : List (List TL)).flatten.length ≤ 240) := by
            refine ⟨H5.out.below (bel1 _ _), list3 (heap_alloc_new _ _) (H5.out.p.below (bel1 _ _)) (H5.out.q.below (bel1 _ _)) (H5.out.r.below (bel1 _ _)), ?_⟩
            have h1 := H5.out.p.len
            have h2 := H5.out.q.len
            have h3 := H5.out.r.len
            have h4 := M1.out
            have h5 := M2.out
            have h6 := M3.out
            simp
            omega
          go_wp2_with fail
          refine (add_b o _ _ _ _ _ HL.out.2.1 (by have := HL.out.2.2; omega)).mono ?_
          rintro e w6 ⟨xao, xan, xac, xap, lxa, kxa, rfl, a1, a2, q0⟩
          have H6 : Hid (TlSt w w6 po pn pc ps p qo qn qc qs q ro rn rc rs r ⟨tg, tno, tnn, tnc, teo, ten, tec, ta, tb, tc, td⟩ t ∧ PolyAt w6 xao xan xac xap lxa ∧ AddP o [p, q, r] lxa kxa) := ⟨HL.out.1.below q0, a1, a2⟩
          clear a1 a2 q0
          have HL2 : Hid (TlSt w (w6.alloc (.cells #[.slice po pn pc, .slice qo qn qc, .slice ro rn rc] 23)) po pn pc ps p qo qn qc qs q ro rn rc rs r ⟨tg, tno, tnn, tnc, teo, ten, tec, ta, tb, tc, td⟩ t ∧ ListAt (w6.alloc (.cells #[.slice po pn pc, .slice qo qn qc, .slice ro rn rc] 23)) (some ⟨w6.heap.size, 0, none⟩) 3 [p, q, r] ∧ ([p, q, r] : List (List TL)).flatten.length ≤ 240) := ⟨H6.out.1.below (bel1 _ _), list3 (heap_alloc_new _ _) (H6.out.1.p.below (bel1 _ _)) (H6.out.1.q.below (bel1 _ _)) (H6.out.1.r.below (bel1 _ _)), HL.out.2.2⟩
          have HK2 : Hid (PolyAt (w6.alloc (.cells #[.slice po pn pc, .slice qo qn qc, .slice ro rn rc] 23)) xao xan xac xap lxa) := H6.out.2.1.below (bel1 _ _)
          go_wp2_with fail
          refine (radd_b o _ _ _ _ _ HL2.out.2.1 (by have := HL2.out.2.2; omega)).mono ?_
          rintro e w7 ⟨yao, yan, yac, yap, lya, kya, rfl, a1, a2, q0⟩
          obtain ⟨rfl, rfl⟩ := H6.out.2.2.one a2
          have H7 : Hid (TlSt w w7 po pn pc ps p qo qn qc qs q ro rn rc rs r ⟨tg, tno, tnn, tnc, teo, ten, tec, ta, tb, tc, td⟩ t ∧ PolyAt w7 xao xan xac xap lxa ∧ PolyAt w7 yao yan yac yap lxa) := ⟨HL2.out.1.below q0, HK2.out.below q0, a1⟩
          clear a1 a2 q0
          obtain ⟨c0, c1, c2, c3, c4, c5, c6⟩ := H7.out.1.box.el
          dsimp only at c0 c1 c2 c3 c4 c5 c6
          go_wp2_with fail
          refine (timesP_b o _ _ _ _ _ ⟨tg, tno, tnn, tnc, teo, ten, tec, ta, tb, tc, td⟩ t _ H7.out.1.p H7.out.1.t (by have := M1.out; omega)).mono ?_
          rintro e w8 ⟨xco, xcn, xcc, xcp, lxc, kxc, rfl, a1, a2, q0⟩
          have H8 : Hid (TlSt w w8 po pn pc ps p qo qn qc qs q ro rn rc rs r ⟨tg, tno, tnn, tnc, teo, ten, tec, ta, tb, tc, td⟩ t ∧ PolyAt w8 xao xan xac xap lxa ∧ PolyAt w8 yao yan yac yap lxa ∧ PolyAt w8 xco xcn xcc xcp lxc ∧ TimesIs o p t lxc kxc) := ⟨H7.out.1.below q0, H7.out.2.1.below q0, H7.out.2.2.below q0, a1, a2⟩
          clear a1 a2 q0 c0 c1 c2 c3 c4 c5 c6
          obtain ⟨c0, c1, c2, c3, c4, c5, c6⟩ := H8.out.1.box.el
          dsimp only at c0 c1 c2 c3 c4 c5 c6
          go_wp2_with fail
          refine (rtimesP_b o _ _ _ _ _ ⟨tg, tno, tnn, tnc, teo, ten, tec, ta, tb, tc, td⟩ t _ H8.out.1.p H8.out.1.t).mono ?_
          rintro e w9 ⟨yco, ycn, ycc, ycp, lyc, kyc, rfl, a1, a2, q0⟩
          obtain ⟨rfl, rfl⟩ := H8.out.2.2.2.2.one a2
          have H9 : Hid (TlSt w w9 po pn pc ps p qo qn qc qs q ro rn rc rs r ⟨tg, tno, tnn, tnc, teo, ten, tec, ta, tb, tc, td⟩ t ∧ PolyAt w9 xao xan xac xap lxa ∧ PolyAt w9 yao yan yac yap lxa ∧ PolyAt w9 xco xcn xcc xcp lxc ∧ PolyAt w9 yco ycn ycc ycp lxc) := ⟨H8.out.1.below q0, H8.out.2.1.below q0, H8.out.2.2.1.below q0, H8.out.2.2.2.1.below q0, a1⟩
          clear a1 a2 q0 c0 c1 c2 c3 c4 c5 c6
          go_wp2_with fail
          refine (mulP_b o _ _ _ _ _ _ _ _ _ _ _ H9.out.1.p H9.out.1.q).mono ?_
          rintro e w10 ⟨xmo, xmn, xmc, xmp, lxm, kxm, rfl, a1, a2, q0⟩
          have H10 : Hid (TlSt w w10 po pn pc ps p qo qn qc qs q ro rn rc rs r ⟨tg, tno, tnn, tnc, teo, ten, tec, ta, tb, tc, td⟩ t ∧ PolyAt w10 xao xan xac xap lxa ∧ PolyAt w10 yao yan yac yap lxa ∧ PolyAt w10 xco xcn xcc xcp lxc ∧ PolyAt w10 yco ycn ycc ycp lxc ∧ PolyAt w10 xmo xmn xmc xmp lxm ∧ MulP o p q lxm kxm) := ⟨H9.out.1.below q0, H9.out.2.1.below q0, H9.out.2.2.1.below q0, H9.out.2.2.2.1.below q0, H9.out.2.2.2.2.below q0, a1, a2⟩
          clear a1 a2 q0
          go_wp2_with fail
          refine (rmulP_b o _ _ _ _ _ _ _ _ _ _ _ H10.out.1.p H10.out.1.q).mono ?_
          rintro e w11 ⟨ymo, ymn, ymc, ymp, lym, kym, rfl, a1, a2, q0⟩
          obtain ⟨rfl, rfl⟩ := H10.out.2.2.2.2.2.2.one a2
          have H11 : Hid (TlSt w w11 po pn pc ps p qo qn qc qs q ro rn rc rs r ⟨tg, tno, tnn, tnc, teo, ten, tec, ta, tb, tc, td⟩ t ∧ PolyAt w11 xao xan xac xap lxa ∧ PolyAt w11 yao yan yac yap lxa ∧ PolyAt w11 xco xcn xcc xcp lxc ∧ PolyAt w11 yco ycn ycc ycp lxc ∧ PolyAt w11 xmo xmn xmc xmp lxm ∧ PolyAt w11 ymo ymn ymc ymp lxm) := ⟨H10.out.1.below q0, H10.out.2.1.below q0, H10.out.2.2.1.below q0, H10.out.2.2.2.1.below q0, H10.out.2.2.2.2.1.below q0, H10.out.2.2.2.2.2.1.below q0, a1⟩
          clear a1 a2 q0
          go_wp2_with fail
          refine (monic_b o _ _ _ _ _ _ H11.out.1.p (by have := M1.out; omega)).mono ?_
          rintro e w12 ⟨xzo, xzn, xzc, xzp, lxz, kxz, rfl, a1, a2, q0⟩
          have H12 : Hid (TlSt w w12 po pn pc ps p qo qn qc qs q ro rn rc rs r ⟨tg, tno, tnn, tnc, teo, ten, tec, ta, tb, tc, td⟩ t ∧ PolyAt w12 xao xan xac xap lxa ∧ PolyAt w12 yao yan yac yap lxa ∧ PolyAt w12 xco xcn xcc xcp lxc ∧ PolyAt w12 yco ycn ycc ycp lxc ∧ PolyAt w12 xmo xmn xmc xmp lxm ∧ PolyAt w12 ymo ymn ymc ymp lxm ∧ PolyAt w12 xzo xzn xzc xzp lxz ∧ MonicIs o p lxz kxz) := ⟨H11.out.1.below q0, H11.out.2.1.below q0, H11.out.2.2.1.below q0, H11.out.2.2.2.1.below q0, H11.out.2.2.2.2.1.below q0, H11.out.2.2.2.2.2.1.below q0, H11.out.2.2.2.2.2.2.below q0, a1, a2⟩
          clear a1 a2 q0
          go_wp2_with fail
          refine (rmonic_b o _ _ _ _ _ _ H12.out.1.p).mono ?_
          rintro e w13 ⟨yzo, yzn, yzc, yzp, lyz, kyz, rfl, a1, a2, q0⟩
          obtain ⟨rfl, rfl⟩ := H12.out.2.2.2.2.2.2.2.2.one a2
          have H13 : Hid (TlSt w w13 po pn pc ps p qo qn qc qs q ro rn rc rs r ⟨tg, tno, tnn, tnc, teo, ten, tec, ta, tb, tc, td⟩ t ∧ PolyAt w13 xao xan xac xap lxa ∧ PolyAt w13 yao yan yac yap lxa ∧ PolyAt w13 xco xcn xcc xcp lxc ∧ PolyAt w13 yco ycn ycc ycp lxc ∧ PolyAt w13 xmo xmn xmc xmp lxm ∧ PolyAt w13 ymo ymn ymc ymp lxm ∧ PolyAt w13 xzo xzn xzc xzp lxz ∧ PolyAt w13 yzo yzn yzc yzp lxz) := ⟨H12.out.1.below q0, H12.out.2.1.below q0, H12.out.2.2.1.below q0, H12.out.2.2.2.1.below q0, H12.out.2.2.2.2.1.below q0, H12.out.2.2.2.2.2.1.below q0, H12.out.2.2.2.2.2.2.1.below q0, H12.out.2.2.2.2.2.2.2.1.below q0, a1⟩
          clear a1 a2 q0
          go_wp2_with fail
          refine (rsame_b _ _ _ _ _ _ _ _ _ _ _ H13.out.2.1 H13.out.2.2.1 true (yes_iff rfl)).mono ?_
          rintro e w14 ⟨rfl, q0⟩
          have H14 : Hid (TlSt w w14 po pn pc ps p qo qn qc qs q ro rn rc rs r ⟨tg, tno, tnn, tnc, teo, ten, tec, ta, tb, tc, td⟩ t ∧ PolyAt w14 xao xan xac xap lxa ∧ PolyAt w14 yao yan yac yap lxa ∧ PolyAt w14 xco xcn xcc xcp lxc ∧ PolyAt w14 yco ycn ycc ycp lxc ∧ PolyAt w14 xmo xmn xmc xmp lxm ∧ PolyAt w14 ymo ymn ymc ymp lxm ∧ PolyAt w14 xzo xzn xzc xzp lxz ∧ PolyAt w14 yzo yzn yzc yzp lxz) := ⟨H13.out.1.below q0, H13.out.2.1.below q0, H13.out.2.2.1.below q0, H13.out.2.2.2.1.below q0, H13.out.2.2.2.2.1.below q0, H13.out.2.2.2.2.2.1.below q0, H13.out.2.2.2.2.2.2.1.below q0, H13.out.2.2.2.2.2.2.2.1.below q0, H13.out.2.2.2.2.2.2.2.2.below q0⟩
          clear q0
          go_wp2_with fail
          refine (rsame_b _ _ _ _ _ _ _ _ _ _ _ H14.out.2.2.2.1 H14.out.2.2.2.2.1 true (yes_iff rfl)).mono ?_
          rintro e w15 ⟨rfl, q0⟩
          have H15 : Hid (TlSt w w15 po pn pc ps p qo qn qc qs q ro rn rc rs r ⟨tg, tno, tnn, tnc, teo, ten, tec, ta, tb, tc, td⟩ t ∧ PolyAt w15 xao xan xac xap lxa ∧ PolyAt w15 yao yan yac yap lxa ∧ PolyAt w15 xco xcn xcc xcp lxc ∧ PolyAt w15 yco ycn ycc ycp lxc ∧ PolyAt w15 xmo xmn xmc xmp lxm ∧ PolyAt w15 ymo ymn ymc ymp lxm ∧ PolyAt w15 xzo xzn xzc xzp lxz ∧ PolyAt w15 yzo yzn yzc yzp lxz) := ⟨H14.out.1.below q0, H14.out.2.1.below q0, H14.out.2.2.1.below q0, H14.out.2.2.2.1.below q0, H14.out.2.2.2.2.1.below q0, H14.out.2.2.2.2.2.1.below q0, H14.out.2.2.2.2.2.2.1.below q0, H14.out.2.2.2.2.2.2.2.1.below q0, H14.out.2.2.2.2.2.2.2.2.below q0⟩
          clear q0
          go_wp2_with fail
          refine (rsame_b _ _ _ _ _ _ _ _ _ _ _ H15.out.2.2.2.2.2.1 H15.out.2.2.2.2.2.2.1 true (yes_iff rfl)).mono ?_
          rintro e w16 ⟨rfl, q0⟩
          have H16 : Hid (TlSt w w16 po pn pc ps p qo qn qc qs q ro rn rc rs r ⟨tg, tno, tnn, tnc, teo, ten, tec, ta, tb, tc, td⟩ t ∧ PolyAt w16 xao xan xac xap lxa ∧ PolyAt w16 yao yan yac yap lxa ∧ PolyAt w16 xco xcn xcc xcp lxc ∧ PolyAt w16 yco ycn ycc ycp lxc ∧ PolyAt w16 xmo xmn xmc xmp lxm ∧ PolyAt w16 ymo ymn ymc ymp lxm ∧ PolyAt w16 xzo xzn xzc xzp lxz ∧ PolyAt w16 yzo yzn yzc yzp lxz) := ⟨H15.out.1.below q0, H15.out.2.1.below q0, H15.out.2.2.1.below q0, H15.out.2.2.2.1.below q0, H15.out.2.2.2.2.1.below q0, H15.out.2.2.2.2.2.1.below q0, H15.out.2.2.2.2.2.2.1.below q0, H15.out.2.2.2.2.2.2.2.1.below q0, H15.out.2.2.2.2.2.2.2.2.below q0⟩
          clear q0
          go_wp2_with fail
          refine (rsame_b _ _ _ _ _ _ _ _ _ _ _ H16.out.2.2.2.2.2.2.2.1 H16.out.2.2.2.2.2.2.2.2 true (yes_iff rfl)).mono ?_
          rintro e w17 ⟨rfl, q0⟩
          have H17 : Hid (TlSt w w17 po pn pc ps p qo qn qc qs q ro rn rc rs r ⟨tg, tno, tnn, tnc, teo, ten, tec, ta, tb, tc, td⟩ t ∧ PolyAt w17 xao xan xac xap lxa ∧ PolyAt w17 yao yan yac yap lxa ∧ PolyAt w17 xco xcn xcc xcp lxc ∧ PolyAt w17 yco ycn ycc ycp lxc ∧ PolyAt w17 xmo xmn xmc xmp lxm ∧ PolyAt w17 ymo ymn ymc ymp lxm ∧ PolyAt w17 xzo xzn xzc xzp lxz ∧ PolyAt w17 yzo yzn yzc yzp lxz) := ⟨H16.out.1.below q0, H16.out.2.1.below q0, H16.out.2.2.1.below q0, H16.out.2.2.2.1.below q0, H16.out.2.2.2.2.1.below q0, H16.out.2.2.2.2.2.1.below q0, H16.out.2.2.2.2.2.2.1.below q0, H16.out.2.2.2.2.2.2.2.1.below q0, H16.out.2.2.2.2.2.2.2.2.below q0⟩
          clear q0
          go_wp2_with fail
          go_ret
          exact ⟨by simp, H17.out.1.bel⟩
end Go.Proofs.YtbdldijgcmgfaaaGreat
