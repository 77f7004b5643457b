/-
  RatioMakes, walked.
-/
import Derived.Test.YtnkjfandknndkaaM1
import Derived.Test.YtnkjfandknndkaaK1
namespace Go.Proofs.Ytnkjfandknndkaa
open Go.RowKit

theorem gtr_no {n : Nat} (h : ¬ 20 < n) : ¬ (20 : Int) < (n : Int) := by omega
theorem gtr_yes {n : Nat} (h : 20 < n) : (20 : Int) < (n : Int) := by omega

set_option maxRecDepth 100000 in
set_option maxHeartbeats 4000000 in
/-- One of the three is too long. -/
theorem makes_long (g : Bool) (ao : Option Addr) (al ac : Nat) (bo : Option Addr) (bl bc : Nat) (n : Int) (lo : Option Addr) (ln lc : Nat) (w : World)
    (h : 20 < al ∨ 20 < bl ∨ 20 < ln) :
    Calls Try.prog 3 #[.bool g, .slice ao al ac, .slice bo bl bc, .int .i64 n, .slice lo ln lc] w fun e w' => e = .returned (.bool true) ∧ Below w.heap.size w w' := by
  by_cases h1 : 20 < al
  · have h1' := gtr_yes h1
    clear h
    go_enter Try.func3, Try.ntmps3
    go_wp2_with fail
    refine (shown_r _).mono ?_
    rintro e w1 ⟨rfl, b1⟩
    have B : Hid (Below w.heap.size w w1) := b1
    clear b1
    go_wp2
    go_ret
    exact ⟨rfl, B.out⟩
  · have h1' := gtr_no h1
    by_cases h2 : 20 < bl
    · have h2' := gtr_yes h2
      clear h
      go_enter Try.func3, Try.ntmps3
      go_wp2_with fail
      refine (shown_r _).mono ?_
      rintro e w1 ⟨rfl, b1⟩
      have B : Hid (Below w.heap.size w w1) := b1
      clear b1
      go_wp2
      go_ret
      exact ⟨rfl, B.out⟩
    · have h2' := gtr_no h2
      have h3 : 20 < ln := by omega
      have h3' := gtr_yes h3
      clear h
      go_enter Try.func3, Try.ntmps3
      go_wp2_with fail
      refine (shown_r _).mono ?_
      rintro e w1 ⟨rfl, b1⟩
      have B : Hid (Below w.heap.size w w1) := b1
      clear b1
      go_wp2
      go_ret
      exact ⟨rfl, B.out⟩

set_option maxRecDepth 100000 in
set_option maxHeartbeats 16000000 in
theorem makes_walk (g : Bool) (ao : Option Addr) (al ac : Nat) (bo : Option Addr) (bl bc : Nat) (xs ys : List Int) (n : Int) (lo : Option Addr) (ln lc b off : Nat) (ps : List RP) (rs : List RatL) (w : World)
    (hx : RowAt w ao al ac xs) (hy : RowAt w bo bl bc ys) (n0 : -9223372036854775808 ≤ n) (n1 : n ≤ 9223372036854775807) (hl : RatsAt w b off ps rs) (hn : ps.length = ln) (hlo : 0 < ln → lo = some ⟨b, off, none⟩) :
    Calls Try.prog 3 #[.bool g, .slice ao al ac, .slice bo bl bc, .int .i64 n, .slice lo ln lc] w fun e w' => e = .returned (.bool true) ∧ Below w.heap.size w w' := by
  by_cases h : 20 < al ∨ 20 < bl ∨ 20 < ln
  · exact makes_long g ao al ac bo bl bc n lo ln lc w h
  have h1' := gtr_no (show ¬ 20 < al by omega)
  have h2' := gtr_no (show ¬ 20 < bl by omega)
  have h3' := gtr_no (show ¬ 20 < ln by omega)
  have HI : Hid (RowAt w ao al ac xs ∧ RowAt w bo bl bc ys ∧ (-9223372036854775808 ≤ n ∧ n ≤ 9223372036854775807) ∧ RatsAt w b off ps rs ∧ ps.length = ln ∧ (0 < ln → lo = some ⟨b, off, none⟩) ∧ ln ≤ 20) := ⟨hx, hy, ⟨n0, n1⟩, hl, hn, hlo, by omega⟩
  clear hx hy n0 n1 hl hn hlo h
  go_enter Try.func3, Try.ntmps3
  go_wp2_with fail
  refine (shown_r _).mono ?_
  rintro e w1 ⟨rfl, b1⟩
  have HB : Hid (Below w.heap.size w w1) := b1
  clear b1
  go_wp2_with fail
  go_loopg [11] ln (fun m i wr => ∃ j : Nat, j ≤ ln ∧ ln - j ≤ m ∧ i = .int .i64 j ∧ Hid (Below w.heap.size w wr))
  case atStart => exact ⟨0, Nat.zero_le _, by omega, rfl, HB.out⟩
  case round =>
    obtain ⟨j, hj, hjr, rfl, hO⟩ := hrel
    by_cases h0 : j < ln
    · have hlen : ps.length = ln := HI.out.2.2.2.2.1
      obtain ⟨p, hpa⟩ : ∃ a, ps[j]? = some a := ⟨ps[j]'(by omega), List.getElem?_eq_getElem (by omega)⟩
      obtain ⟨ra, hra⟩ : ∃ a, rs[j]? = some a := ⟨rs[j]'(by have := HI.out.2.2.2.1.len; omega), List.getElem?_eq_getElem (by have := HI.out.2.2.2.1.len; omega)⟩
      obtain ⟨hcs, hat, hneg⟩ := (HI.out.2.2.2.1.below hO.out).each j p ra hpa hra
      obtain ⟨pg, po, pn, pc, qo, qn, qc⟩ := p
      have e0 : wr.cell? ⟨b, off + j * 3, none⟩ = some (.bool pg) := hcs 0 _ rfl
      have e1 : wr.cell? ⟨b, off + j * 3 + 1, none⟩ = some (.slice po pn pc) := hcs 1 _ rfl
      have e2 : wr.cell? ⟨b, off + j * 3 + 2, none⟩ = some (.slice qo qn qc) := hcs 2 _ rfl
      have hls := HI.out.2.2.2.2.2.1 (by omega)
      subst hls
      have hjn : (j : Int) < (ln : Int) := by omega
      have HM : Hid ((pn : Int) ≤ 9223372036854775807 ∧ (qn : Int) ≤ 9223372036854775807 ∧ j < ln ∧ ln - j ≤ _) := ⟨nn_most hat.num, nn_most hat.den, h0, hjr⟩
      clear hcs hat hneg hpa hra hlen hj hjr h0
      by_cases hh : 20 < pn ∨ 20 < qn
      · have HH : Hid (20 < pn ∨ 20 < qn) := hh
        clear hh
        go_wp2_with fail
        refine (heavy_r _ _ _ _ _ _ _ _ HM.out.1 HM.out.2.1 true (yes_iff HH.out)).mono ?_
        rintro e w2 ⟨rfl, b2⟩
        have B2 : Hid (Below w.heap.size w w2) := chain hO.out b2
        clear b2
        go_wp2_with fail
        refine (shown_r _).mono ?_
        rintro e w3 ⟨rfl, b3⟩
        have B3 : Hid (Below w.heap.size w w3) := chain B2.out b3
        clear b3
        go_wp2
        go_ret
        exact ⟨rfl, B3.out⟩
      · have HH : Hid (¬ (20 < pn ∨ 20 < qn)) := hh
        clear hh
        go_wp2_with fail
        refine (heavy_r _ _ _ _ _ _ _ _ HM.out.1 HM.out.2.1 false (no_iff HH.out)).mono ?_
        rintro e w2 ⟨rfl, b2⟩
        have B2 : Hid (Below w.heap.size w w2) := chain hO.out b2
        clear b2
        go_wp2
        go_roundg (ln - (j + 1))
        case measure => have := HM.out.2.2.1; have := HM.out.2.2.2; omega
        case rel => exact ⟨j + 1, by have := HM.out.2.2.1; omega, Nat.le_refl _, by go_num, B2.out⟩
    · have hjn : j = ln := by omega
      subst hjn
      clear hj hjr h0
      go_wp2_with fail
      refine (make_any g _ _ _ _ _ _ xs ys _ (HI.out.1.below hO.out) (HI.out.2.1.below hO.out)).mono ?_
      rintro e w2 ⟨xg, xo, xn, xc, xeo, xen, xec, x, k, rfl, q1, q2, q3, q4⟩
      have bx := RBox.new w2 xg xo xn xc xeo xen xec
      have a1 : Below w2.heap.size w2 (w2.alloc (.cells #[.bool xg, .slice xo xn xc, .slice xeo xen xec] 28)) := (Below.refl _ _).alloc (Nat.le_refl _) _
      have X : Hid (RatAt _ xo xn xc xeo xen xec x ∧ x.neg = xg ∧ MakeOut g xs ys x k ∧ RBox _ w2.heap.size xg xo xn xc xeo xen xec ∧ Below w.heap.size w _) := ⟨q2.below a1, q1, q3, bx, chain (chain hO.out q4) a1⟩
      clear q1 q2 q3 q4 bx a1
      go_wp2_with fail
      refine (rmake_any g _ _ _ _ _ _ xs ys _ (HI.out.1.below X.out.2.2.2.2) (HI.out.2.1.below X.out.2.2.2.2)).mono ?_
      rintro e w3 ⟨yg, yo, yn, yc, yeo, yen, yec, y, l, rfl, q1, q2, q3, q4⟩
      obtain ⟨hxy, hkl⟩ := X.out.2.2.1.one q3
      subst hkl
      have bx := RBox.new w3 yg yo yn yc yeo yen yec
      have a1 : Below w3.heap.size w3 (w3.alloc (.cells #[.bool yg, .slice yo yn yc, .slice yeo yen yec] 28)) := (Below.refl _ _).alloc (Nat.le_refl _) _
      have Y : Hid (RatAt _ xo xn xc xeo xen xec x ∧ RatAt _ yo yn yc yeo yen yec y ∧ x.neg = xg ∧ y.neg = yg ∧ x = y ∧ RBox _ w2.heap.size xg xo xn xc xeo xen xec ∧ RBox _ w3.heap.size yg yo yn yc yeo yen yec ∧ Below w.heap.size w _) := ⟨(X.out.1.below q4).below a1, q2.below a1, X.out.2.1, q1, hxy, (X.out.2.2.2.1.below q4).below a1, bx, chain (chain X.out.2.2.2.2 q4) a1⟩
      clear q1 q2 q3 q4 bx a1 hxy
      go_wp2_with fail
      refine (sumR_any _ _ _ b off ps rs _ (HI.out.2.2.2.1.below Y.out.2.2.2.2.2.2.2) HI.out.2.2.2.2.1 HI.out.2.2.2.2.2.1 (by have := HI.out.2.2.2.2.2.2; omega)).mono ?_
      rintro e w4 ⟨sg', so, sn, sc, seo, sen, sec, s, i, t0, rfl, q1, q2, q3, q5, q4⟩
      have bx := RBox.new w4 sg' so sn sc seo sen sec
      have a1 : Below w4.heap.size w4 (w4.alloc (.cells #[.bool sg', .slice so sn sc, .slice seo sen sec] 28)) := (Below.refl _ _).alloc (Nat.le_refl _) _
      have S : Hid (RatAt _ xo xn xc xeo xen xec x ∧ RatAt _ yo yn yc yeo yen yec y ∧ RBox _ w2.heap.size xg xo xn xc xeo xen xec ∧ RBox _ w3.heap.size yg yo yn yc yeo yen yec ∧ Below w.heap.size w _ ∧ RatAt _ so sn sc seo sen sec s ∧ RBox _ w4.heap.size sg' so sn sc seo sen sec ∧ s.neg = sg' ∧ Is t0 0 1 ∧ SumR rs t0 s i) := ⟨(Y.out.1.below q4).below a1, (Y.out.2.1.below q4).below a1, (Y.out.2.2.2.2.2.1.below q4).below a1, (Y.out.2.2.2.2.2.2.1.below q4).below a1, chain (chain Y.out.2.2.2.2.2.2.2 q4) a1, q2.below a1, bx, q1, q3, q5⟩
      clear q1 q2 q3 q4 q5 bx a1
      go_wp2_with fail
      refine (rsumR_any _ _ _ b off ps rs _ (HI.out.2.2.2.1.below S.out.2.2.2.2.1) HI.out.2.2.2.2.1 HI.out.2.2.2.2.2.1 (by have := HI.out.2.2.2.2.2.2; omega)).mono ?_
      rintro e w5 ⟨tg, to', tn, tc, teo, ten, tec, t, i', t1, rfl, q1, q2, q3, q5, q4⟩
      have h01 : t0 = t1 := S.out.2.2.2.2.2.2.2.2.1.one q3 rfl
      subst h01
      obtain ⟨hst, hii⟩ := S.out.2.2.2.2.2.2.2.2.2.one q5
      subst hii
      have bd := RBox.new w5 tg to' tn tc teo ten tec
      have a1 : Below w5.heap.size w5 (w5.alloc (.cells #[.bool tg, .slice to' tn tc, .slice teo ten tec] 28)) := (Below.refl _ _).alloc (Nat.le_refl _) _
      have ba := (S.out.2.2.1.below q4).below a1
      have bb := (S.out.2.2.2.1.below q4).below a1
      have bc' := (S.out.2.2.2.2.2.2.1.below q4).below a1
      have c0 := ba.c0
      have c1 := ba.c1
      have c2 := ba.c2
      have d0 := bb.c0
      have d1 := bb.c1
      have d2 := bb.c2
      have e0 := bc'.c0
      have e1 := bc'.c1
      have e2 := bc'.c2
      have f0 := bd.c0
      have f1 := bd.c1
      have f2 := bd.c2
      have hA := ba.lt
      have hB := bb.lt
      have hC := bc'.lt
      have hD := bd.lt
      have T : Hid (RatAt (w5.alloc (.cells #[.bool tg, .slice to' tn tc, .slice teo ten tec] 28)) xo xn xc xeo xen xec x ∧ RatAt (w5.alloc (.cells #[.bool tg, .slice to' tn tc, .slice teo ten tec] 28)) yo yn yc yeo yen yec y ∧ RatAt (w5.alloc (.cells #[.bool tg, .slice to' tn tc, .slice teo ten tec] 28)) so sn sc seo sen sec s ∧ RatAt (w5.alloc (.cells #[.bool tg, .slice to' tn tc, .slice teo ten tec] 28)) to' tn tc teo ten tec t ∧ Below w.heap.size w (w5.alloc (.cells #[.bool tg, .slice to' tn tc, .slice teo ten tec] 28))) := ⟨(S.out.1.below q4).below a1, (S.out.2.1.below q4).below a1, (S.out.2.2.2.2.2.1.below q4).below a1, q2.below a1, chain (chain S.out.2.2.2.2.1 q4) a1⟩
      have HG : Hid (x.neg = xg ∧ y.neg = yg ∧ s.neg = sg' ∧ t.neg = tg) := ⟨Y.out.2.2.1, Y.out.2.2.2.1, S.out.2.2.2.2.2.2.2.1, q1⟩
      have HE : Hid (x = y ∧ s = t) := ⟨Y.out.2.2.2.2.1, hst⟩
      have HR : Hid (-9223372036854775808 ≤ n ∧ n ≤ 9223372036854775807) := HI.out.2.2.1
      clear q1 q2 q3 q4 q5 bd ba bb bc' a1 hst S Y X hO
      go_wp2_with fail
      refine (rsame_r _ _ _ _ _ _ _ _ _ _ _ _ _ _ x y _ T.out.1 T.out.2.1 HG.out.1 HG.out.2.1 true (yes_iff HE.out.1)).mono ?_
      rintro e v1 ⟨rfl, bz⟩
      have A1 : Hid (RatAt v1 so sn sc seo sen sec s ∧ RatAt v1 to' tn tc teo ten tec t ∧ Below w.heap.size w v1) := ⟨T.out.2.2.1.below bz, T.out.2.2.2.1.below bz, chain T.out.2.2.2.2 bz⟩
      have B1 : Hid (Below _ _ v1) := bz
      clear bz
      go_wp2_with fail
      refine (of_r _ _ HR.out.1 HR.out.2).mono ?_
      rintro e v2 ⟨eg, eo, en, ec, eeo, een, eec, u, rfl, g1, g2, g3, q⟩
      have A2 : Hid (RatAt v2 so sn sc seo sen sec s ∧ RatAt v2 to' tn tc teo ten tec t ∧ Below w.heap.size w v2 ∧ u.neg = eg ∧ RatAt v2 eo en ec eeo een eec u ∧ Is u n 1) := ⟨A1.out.1.below q, A1.out.2.1.below q, chain A1.out.2.2 q, g1, g2, g3⟩
      have B2 : Hid (Below _ _ v2) := chain B1.out q
      clear q g1 g2 g3
      go_wp2_with fail
      refine (rof_r _ _ HR.out.1 HR.out.2).mono ?_
      rintro e v3 ⟨hg, ho, hn, hc, heo, hen, hec, v, rfl, g1, g2, g3, q⟩
      have A3 : Hid (RatAt v3 so sn sc seo sen sec s ∧ RatAt v3 to' tn tc teo ten tec t ∧ Below w.heap.size w v3 ∧ v.neg = hg ∧ RatAt v3 ho hn hc heo hen hec v ∧ u = v ∧ RatAt v3 eo en ec eeo een eec u) := ⟨A2.out.1.below q, A2.out.2.1.below q, chain A2.out.2.2.1 q, g1, g2, A2.out.2.2.2.2.2.one g3 rfl, A2.out.2.2.2.2.1.below q⟩
      have B3 : Hid (Below _ _ v3) := chain B2.out q
      clear q g1 g2 g3
      go_wp2_with fail
      refine (rsame_r _ _ _ _ _ _ _ _ _ _ _ _ _ _ u v _ A3.out.2.2.2.2.2.2 A3.out.2.2.2.2.1 A2.out.2.2.2.1 A3.out.2.2.2.1 true (yes_iff A3.out.2.2.2.2.2.1)).mono ?_
      rintro e v4 ⟨rfl, q⟩
      have A4 : Hid (RatAt v4 so sn sc seo sen sec s ∧ RatAt v4 to' tn tc teo ten tec t ∧ Below w.heap.size w v4) := ⟨A3.out.1.below q, A3.out.2.1.below q, chain A3.out.2.2.1 q⟩
      have hb := chain B3.out q
      have k0 := (hb.cell (p := ⟨w4.heap.size, 0, none⟩) hC).trans e0
      have k1 := (hb.cell (p := ⟨w4.heap.size, 1, none⟩) hC).trans e1
      have k2 := (hb.cell (p := ⟨w4.heap.size, 2, none⟩) hC).trans e2
      have m0 := (hb.cell (p := ⟨w5.heap.size, 0, none⟩) hD).trans f0
      have m1 := (hb.cell (p := ⟨w5.heap.size, 1, none⟩) hD).trans f1
      have m2 := (hb.cell (p := ⟨w5.heap.size, 2, none⟩) hD).trans f2
      clear q hb
      go_wp2_with fail
      refine (rsame_r _ _ _ _ _ _ _ _ _ _ _ _ _ _ s t _ A4.out.1 A4.out.2.1 HG.out.2.2.1 HG.out.2.2.2 true (yes_iff HE.out.2)).mono ?_
      rintro e v5 ⟨rfl, q⟩
      have HF : Hid (Below w.heap.size w v5) := chain A4.out.2.2 q
      clear q
      go_wp2
      go_ret
      exact ⟨rfl, HF.out⟩
end Go.Proofs.Ytnkjfandknndkaa
