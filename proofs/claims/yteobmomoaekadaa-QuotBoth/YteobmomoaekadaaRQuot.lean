/-
  The reference's Small, Gcd and Lcm of layer 3; the statements' held and shown.
-/
import Derived.Test.YteobmomoaekadaaRDiv
import Derived.Test.YteobmomoaekadaaRNat
namespace Go.Proofs.Yteobmomoaekadaa
open Go.RowKit

set_option maxHeartbeats 1000000 in
theorem rqsmall_any (ao : Option Addr) (na ca : Nat) (xs : List Int) (n : Int) (w : World) (ha : RowAt w ao na ca xs) (hn0 : 0 ≤ n) (hn1 : n < BB) :
    Calls Try.prog 14 #[.slice ao na ca, .int .u64 n] w fun e w' => ∃ qo qn qc q rv k, e = .returned (.tuple #[.slice qo qn qc, .int .u64 rv, .int .i64 k]) ∧ RowAt w' qo qn qc q ∧ SmallOut xs n q rv k ∧ Below w.heap.size w w' := by
  have HA : Hid (RowAt w ao na ca xs) := ha
  have HN : Hid (0 ≤ n ∧ n < BB) := ⟨hn0, hn1⟩
  clear ha hn0 hn1
  go_enter Try.func14, Try.ntmps14
  go_wp2_with fail
  refine (rof_any n _ HN.out.1 HN.out.2).mono ?_
  rintro e w1 ⟨bo, bn, bc, bs, rfl, d1, d2, d3, d4⟩
  have D1 : Hid (RowAt w1 bo bn bc bs) := d1
  have D2 : Hid (Num bs n) := d2
  have D4 : Hid (Below w.heap.size w w1) := d4
  clear d1 d2 d3 d4
  go_wp2_with fail
  refine (rqdiv_any _ _ _ _ _ _ xs bs _ (HA.out.below D4.out) D1.out).mono ?_
  rintro e w2 ⟨qo, qn, qc, q, ro, rn, rc, r, k, rfl, f1, f2, f3, f4⟩
  have F1 : Hid (RowAt w2 qo qn qc q) := f1
  have F2 : Hid (RowAt w2 ro rn rc r) := f2
  have F3 : Hid (SmallOut xs n q (lim r 0) k) := .of D2.out HN.out.2 f3
  have F5 : Hid (k ≠ 0 → rn = 0) := fun hk => by
    have hbb := Big_BB
    have my : May bs := D2.out.may.2 (by have := HN.out.2; omega)
    have h0 : r = [] := by
      by_cases o : May xs
      · by_cases z : val bs = 0
        · exact (f3.is_zero ⟨o, my⟩ z).2.2
        · exact absurd (f3.is_fine ⟨o, my⟩ z).1 hk
      · exact (f3.is_arg (fun c => o c.1)).2.2
    have := f2.len
    rw [h0] at this
    exact this.symm
  have F4 : Hid (Below w.heap.size w w2) := chain D4.out f4
  clear f1 f2 f3 f4
  by_cases hr : rn = 0
  · have HR : Hid (lim r 0 = 0) := by
      have h := F2.out.len
      rw [hr] at h
      rw [List.length_eq_zero_iff.1 h]
      rfl
    subst hr
    by_cases hk : k = 0
    · subst hk
      go_wp2_with fail
      go_ret3
      exact ⟨qo, qn, qc, q, 0, 0, rfl, F1.out, by have h := F3.out; rw [HR.out] at h; exact h, F4.out⟩
    · have hkb : (k == 0) = false := by rw [beq_eq_false_iff_ne]; exact hk
      go_wp2_with fail
      go_ret3
      exact ⟨qo, qn, qc, q, 0, k, rfl, F1.out, by have h := F3.out; rw [HR.out] at h; exact h, F4.out⟩
  · have hk0 : k = 0 := by
      rcases Decidable.em (k = 0) with e | e
      · exact e
      · exact absurd (F5.out e) hr
    subst hk0
    have hrb : ((rn : Int) == 0) = false := by rw [beq_eq_false_iff_ne]; omega
    have hrp : (0 : Int) < (rn : Int) := by omega
    obtain ⟨rb, roff, rfl, hrlt, hrc⟩ := F2.out.cells (by intro e; have h := F2.out.len; rw [e] at h; simp at h; omega)
    have hr0 := hrc 0 (by have := F2.out.len; omega)
    rw [← lim_nat, Nat.add_zero, show ((0 : Nat) : Int) = 0 from rfl] at hr0
    obtain ⟨rv, hrv⟩ : ∃ v, v = lim r 0 := ⟨_, rfl⟩
    rw [← hrv] at hr0
    have HRV : Hid (rv = lim r 0) := hrv
    clear hrc hrv
    go_wp2_with fail
    go_quiet (fail)
    go_wp2_with fail
    go_ret3
    exact ⟨qo, qn, qc, q, rv, 0, rfl, F1.out.drewN _, by rw [HRV.out]; exact F3.out, below_drewN F4.out _⟩

set_option maxRecDepth 100000 in
set_option maxHeartbeats 2000000 in
theorem rqgcd_any (ao bo : Option Addr) (na ca nb cb : Nat) (xs ys : List Int) (w : World) (ha : RowAt w ao na ca xs) (hb : RowAt w bo nb cb ys) :
    Calls Try.prog 17 #[.slice ao na ca, .slice bo nb cb] w fun e w' => ∃ ro m cap r k, e = .returned (.tuple #[.slice ro m cap, .int .i64 k]) ∧ RowAt w' ro m cap r ∧ Out (May xs ∧ May ys) False (gcdI (val xs) (val ys)) r k ∧ Below w.heap.size w w' := by
  have HA : Hid (RowAt w ao na ca xs) := ha
  have HB : Hid (RowAt w bo nb cb ys) := hb
  have la := ha.len
  have lb := hb.len
  clear ha hb
  by_cases hx : May xs
  · have HX : Hid (May xs) := hx
    clear hx
    by_cases hy : May ys
    · have HY : Hid (May ys) := hy
      clear hy la lb
      obtain ⟨g, hg⟩ : ∃ g, gcdI (val xs) (val ys) = g := ⟨_, rfl⟩
      rw [hg]
      have hgB : g < Big := by rw [← hg]; exact gcdI_lt (val_bd HA.out.limbs).1 (val_bd HB.out.limbs).1 (HX.out.lt HA.out.limbs) (HY.out.lt HB.out.limbs)
      have HGB : Hid (g < Big) := hgB
      have H0 : Hid (RowAt w ao na ca xs ∧ RowAt w bo nb cb ys ∧ May xs ∧ May ys ∧ gcdI (val xs) (val ys) = g ∧ Below w.heap.size w w) := ⟨HA.out, HB.out, HX.out, HY.out, hg, Below.refl _ _⟩
      clear hg hgB
      go_enter Try.func17, Try.ntmps17
      go_wp2_with fail
      refine (rmay_val _ _ _ xs _ HA.out true (yes_iff HX.out)).mono ?_
      rintro e w1 ⟨rfl, rfl⟩
      go_wp2_with fail
      refine (rmay_val _ _ _ ys _ HB.out true (yes_iff HY.out)).mono ?_
      rintro e w1 ⟨rfl, rfl⟩
      go_wp2_with fail
      obtain ⟨P, hP⟩ : ∃ P : Prop, P = (May xs ∧ May ys) := ⟨_, rfl⟩
      have HP : Hid P := by rw [hP]; exact ⟨HX.out, HY.out⟩
      have HPE : Hid (P = (May xs ∧ May ys)) := hP
      clear hP HX HY HA HB
      go_loopg [0, 1] ((val ys).toNat) (fun k s0 s1 wr => ∃ (ao bo : Option Addr) (na ca nb cb : Nat) (xs ys : List Int), s0 = .slice ao na ca ∧ s1 = .slice bo nb cb ∧ (val ys).toNat ≤ k ∧ (RowAt wr ao na ca xs ∧ RowAt wr bo nb cb ys ∧ May xs ∧ May ys ∧ gcdI (val xs) (val ys) = g ∧ Below w.heap.size w wr))
      case atStart => exact ⟨ao, bo, na, ca, nb, cb, xs, ys, rfl, rfl, Nat.le_refl _, H0.out⟩
      case round =>
        clear H0
        obtain ⟨co, do_, nc, cc, nd, cd, us, vs, rfl, rfl, hk, ha, hb, hx, hy, hg, hbel⟩ := hrel
        have HA : Hid (RowAt wr co nc cc us) := ha
        have HB : Hid (RowAt wr do_ nd cd vs) := hb
        have HX : Hid (May us) := hx
        have HY : Hid (May vs) := hy
        have HG : Hid (gcdI (val us) (val vs) = g) := hg
        have HBL : Hid (Below w.heap.size w wr) := hbel
        have hu0 := (val_bd ha.limbs).1
        have hv0 := (val_bd hb.limbs).1
        have lv := val_zero hb.limbs hy hb.len
        have HK : Hid ((val vs).toNat ≤ gk) := hk
        have HUV : Hid (0 ≤ val us ∧ 0 ≤ val vs) := ⟨hu0, hv0⟩
        have hnd8 : nd ≤ 8 := by have := hy.1; have := hb.len; omega
        clear ha hb hx hy hg hbel hk hu0 hv0
        by_cases hz : nd = 0
        · have HE : Hid (val us = g) := by
            have h := HG.out
            rw [lv.1 hz, gcdI_zero HUV.out.1] at h
            exact h
          subst hz
          clear lv
          go_wp2_with fail
          go_ret2
          refine ⟨co, nc, cc, us, 0, rfl, HA.out, ?_, HBL.out⟩
          rw [← HPE.out]
          exact .fine us HP.out (fun f => f) HGB.out (by rw [← HE.out]; exact num_self HA.out.limbs HX.out)
        · have HVP : Hid (0 < val vs) := by
            have h := HUV.out.2
            have : val vs ≠ 0 := fun e => hz (lv.2 e)
            show 0 < val vs
            omega
          have hdp : (0 : Int) < (nd : Int) := by omega
          clear lv
          go_wp2_with fail
          refine (rqdiv_any _ _ _ _ _ _ us vs _ HA.out HB.out).mono ?_
          rintro e w2 ⟨qo, qn, qc, q, ro, rn, rc, r, k, rfl, f1, f2, f3, f4⟩
          have f5 := f3.is_fine ⟨HX.out, HY.out⟩ (by have := HVP.out; omega)
          have F2 : Hid (RowAt w2 ro rn rc r) := f2
          have hm0 := Int.emod_nonneg (val us) (show val vs ≠ 0 by have := HVP.out; omega)
          have hm1 := Int.emod_lt_of_pos (val us) HVP.out
          have F5 : Hid (Num r (val us % val vs)) := f5.2.2
          have F6 : Hid (May r) := f5.2.2.may.2 (by have := HY.out.lt HB.out.limbs; omega)
          have F4 : Hid (Below wr.heap.size wr w2) := f4
          have FJ : Hid (gcdI (val vs) (val r) = g) := by
            show gcdI (val vs) (val r) = g
            rw [f5.2.2.val, ← gcdI_step HUV.out.1 HUV.out.2]; exact HG.out
          have FM : Hid ((val r).toNat < gk) := by
            have := HK.out
            have := HVP.out
            show (val r).toNat < gk
            rw [f5.2.2.val]
            omega
          clear f1 f2 f3 f4 f5 hm0 hm1
          go_wp2_with fail
          go_roundg ((val r).toNat)
          case measure => exact FM.out
          case rel => exact ⟨do_, ro, nd, cd, rn, rc, vs, r, rfl, rfl, Nat.le_refl _, HB.out.below F4.out, F2.out, HY.out, F6.out, FJ.out, HBL.out.trans (F4.out.mono HBL.out.size)⟩
    · have HY : Hid (¬ May ys) := hy
      clear hy la lb
      go_enter Try.func17, Try.ntmps17
      go_wp2_with fail
      refine (rmay_val _ _ _ xs _ HA.out true (yes_iff HX.out)).mono ?_
      rintro e w1 ⟨rfl, rfl⟩
      go_wp2_with fail
      refine (rmay_val _ _ _ ys _ HB.out false (no_iff HY.out)).mono ?_
      rintro e w1 ⟨rfl, rfl⟩
      go_wp2_with fail
      go_ret2
      exact ⟨none, 0, 0, [], 1, rfl, RowAt.nil _, .arg (fun h => HY.out h.2), Below.refl _ _⟩
  · have HX : Hid (¬ May xs) := hx
    clear hx la lb
    go_enter Try.func17, Try.ntmps17
    go_wp2_with fail
    refine (rmay_val _ _ _ xs _ HA.out false (no_iff HX.out)).mono ?_
    rintro e w1 ⟨rfl, rfl⟩
    go_wp2_with fail
    go_ret2
    exact ⟨none, 0, 0, [], 1, rfl, RowAt.nil _, .arg (fun h => HX.out h.1), Below.refl _ _⟩

set_option maxHeartbeats 1000000 in
theorem rqlcm_any (ao bo : Option Addr) (na ca nb cb : Nat) (xs ys : List Int) (w : World) (ha : RowAt w ao na ca xs) (hb : RowAt w bo nb cb ys) :
    Calls Try.prog 19 #[.slice ao na ca, .slice bo nb cb] w fun e w' => ∃ ro m cap r k, e = .returned (.tuple #[.slice ro m cap, .int .i64 k]) ∧ RowAt w' ro m cap r ∧ Out (May xs ∧ May ys) False (lcmI (val xs) (val ys)) r k ∧ Below w.heap.size w w' := by
  have HA : Hid (RowAt w ao na ca xs) := ha
  have HB : Hid (RowAt w bo nb cb ys) := hb
  have la := ha.len
  have lb := hb.len
  by_cases ok : May xs ∧ May ys
  · have HX : Hid (May xs) := ok.1
    have HY : Hid (May ys) := ok.2
    have hna : na ≤ 8 := by have := ok.1.1; omega
    have hnb : nb ≤ 8 := by have := ok.2.1; omega
    have hz := val_zero hb.limbs ok.2 lb
    have hzx := val_zero ha.limbs ok.1 la
    have hgB : gcdI (val xs) (val ys) < Big := gcdI_lt (val_bd HA.out.limbs).1 (val_bd HB.out.limbs).1 (HX.out.lt HA.out.limbs) (HY.out.lt HB.out.limbs)
    have HGB : Hid (gcdI (val xs) (val ys) < Big) := hgB
    clear ha hb la lb ok hgB
    go_enter Try.func19, Try.ntmps19
    go_wp2_with fail
    refine (rqgcd_any _ _ _ _ _ _ xs ys _ HA.out HB.out).mono ?_
    rintro e w1 ⟨go, gn, gc, g, k, rfl, d1, d2, d3⟩
    obtain ⟨hk, hn⟩ := d2.ok_num ⟨HX.out, HY.out⟩ (fun f => f) HGB.out
    have D1 : Hid (RowAt w1 go gn gc g) := d1
    have D2 : Hid (Num g (gcdI (val xs) (val ys))) := hn
    have D3 : Hid (Below w.heap.size w w1) := d3
    subst hk
    clear d1 d2 d3 hn
    by_cases hx0 : na = 0
    · have HE : Hid (lcmI (val xs) (val ys) = 0) := by
        show lcmI (val xs) (val ys) = 0
        rw [hzx.1 hx0, lcmI_zero_left]
      subst hx0
      clear hz hzx
      go_wp2_with fail
      go_ret2
      exact ⟨none, 0, 0, [], 0, rfl, RowAt.nil _, .fine [] ⟨HX.out, HY.out⟩ (fun f => f) (by rw [HE.out]; exact Big_pos) (by rw [HE.out]; exact Num.nil), D3.out⟩
    · have hn0 : ((na : Int) == 0) = false := by rw [beq_eq_false_iff_ne]; omega
      have hxp : 0 < val xs := by
        have := (val_bd HA.out.limbs).1
        have : val xs ≠ 0 := fun e => hx0 (hzx.2 e)
        omega
      have HXP : Hid (0 < val xs) := hxp
      by_cases hy0 : nb = 0
      · have HE : Hid (lcmI (val xs) (val ys) = 0) := by
          show lcmI (val xs) (val ys) = 0
          rw [hz.1 hy0, lcmI_zero_right]
        subst hy0
        clear hz hzx hxp
        go_wp2_with fail
        go_ret2
        exact ⟨none, 0, 0, [], 0, rfl, RowAt.nil _, .fine [] ⟨HX.out, HY.out⟩ (fun f => f) (by rw [HE.out]; exact Big_pos) (by rw [HE.out]; exact Num.nil), D3.out⟩
      · have hm0 : ((nb : Int) == 0) = false := by rw [beq_eq_false_iff_ne]; omega
        clear hz hzx hxp
        go_wp2_with fail
        refine (rqdiv_any _ _ _ _ _ _ xs g _ (HA.out.below D3.out) D1.out).mono ?_
        rintro e w2 ⟨qo, qn, qc, q, ro, rn, rc, r, k, rfl, f1, f2, f3, f4⟩
        have hgp := gcdI_pos (b := val ys) HXP.out
        have f5 := f3.is_fine ⟨HX.out, D2.out.may.2 HGB.out⟩ (by rw [D2.out.val]; omega)
        rw [D2.out.val] at f5
        have F1 : Hid (RowAt w2 qo qn qc q) := f1
        have F3 : Hid (Num q (val xs / gcdI (val xs) (val ys))) := f5.2.1
        have F4 : Hid (Below w.heap.size w w2) := chain D3.out f4
        clear f1 f2 f3 f4 f5 hgp
        go_wp2_with fail
        refine (rnmul_any _ _ _ _ _ _ q ys _ F1.out (HB.out.below F4.out)).mono ?_
        rintro e w3 ⟨so, sm, sc, s, k, rfl, g1, g2, g3⟩
        have G1 : Hid (RowAt w3 so sm sc s) := g1
        have G2 : Hid (Out (May xs ∧ May ys) False (lcmI (val xs) (val ys)) s k) := by
          have hq : May q := F3.out.may.2 (by
            have := Int.ediv_le_self (gcdI (val xs) (val ys)) (Int.le_of_lt HXP.out)
            have := HX.out.lt HA.out.limbs
            omega)
          exact g2.to ⟨hq, HY.out⟩ ⟨HX.out, HY.out⟩ (by rw [F3.out.val]; rfl)
        have G3 : Hid (Below w.heap.size w w3) := chain F4.out g3
        clear g1 g2 g3
        go_wp2_with fail
        go_ret2
        exact ⟨so, sm, sc, s, k, rfl, G1.out, G2.out, G3.out⟩
  · have HN : Hid (¬ (May xs ∧ May ys)) := ok
    clear ha hb la lb ok
    go_enter Try.func19, Try.ntmps19
    go_wp2_with fail
    refine (rqgcd_any _ _ _ _ _ _ xs ys _ HA.out HB.out).mono ?_
    rintro e w1 ⟨go, gn, gc, g, k, rfl, d1, d2, d3⟩
    obtain ⟨hk, hn⟩ := d2.is_arg HN.out
    have D3 : Hid (Below w.heap.size w w1) := d3
    subst hk
    clear d1 d2 d3 hn
    go_wp2_with fail
    go_ret2
    exact ⟨none, 0, 0, [], 1, rfl, RowAt.nil _, .arg HN.out, D3.out⟩

set_option maxHeartbeats 400000 in
/-- The statements' held: a row that may be. -/
theorem lheld_any (ao : Option Addr) (na ca : Nat) (xs : List Int) (w : World) (ha : RowAt w ao na ca xs) :
    Calls Try.prog 20 #[.slice ao na ca] w fun e w' => ∃ ro m cap r, e = .returned (.slice ro m cap) ∧ RowAt w' ro m cap r ∧ (May r ∧ Limbs r) ∧ m ≤ 8 ∧ Below w.heap.size w w' := by
  obtain ⟨k, hk⟩ : ∃ k, k = min na 8 := ⟨_, rfl⟩
  have hmin : (if (na : Int) ≤ 8 then (na : Int) else 8) = (k : Int) := by split <;> omega
  have hmin2 : (if (8 : Int) < (na : Int) then (8 : Int) else (na : Int)) = (k : Int) := by split <;> omega
  have hk1 : k ≤ na := by omega
  have hk8 : k ≤ 8 := by omega
  have hkc : (k : Int) ≤ (ca : Int) := by have := ha.fits; omega
  have hmost : na ≤ maxLen := Nat.le_trans ha.fits ha.most
  unfold maxLen at hmost
  have HC : Hid (RowAt w ao k ca (xs.take k)) := ha.cut k hk1
  have HL : Hid (Limbs (xs.take k) ∧ (xs.take k).length ≤ 8) := ⟨limbs_take ha.limbs k, by simp; omega⟩
  clear ha hk
  go_enter Try.func20, Try.ntmps20
  go_wp2_with fail
  refine (rtrim_any _ _ _ (xs.take k) _ HC.out (by omega)).mono ?_
  rintro e w1 ⟨ro, m, cp, r, rfl, t1, t2, t3, t4⟩
  have T1 : Hid (RowAt w1 ro m cp r) := t1
  have T2 : Hid (May r ∧ Limbs r) := ⟨⟨by rw [t1.len]; omega, t2.trim⟩, t2.limbs⟩
  have T4 : Hid (Below w.heap.size w w1) := t4
  have hm8 : m ≤ 8 := by omega
  clear t1 t2 t3 t4 hmin hmin2
  go_wp2_with fail
  go_ret
  exact ⟨ro, m, cp, r, rfl, T1.out, T2.out, hm8, T4.out⟩

theorem num1 {x : Int} (h0 : 0 < x) (h1 : x < BB) : Num [x] x := by
  refine ⟨?_, ?_, by simp [val]⟩
  · intro y hy
    simp at hy
    subst hy
    exact ⟨by omega, h1⟩
  · intro n hn
    simp at hn
    subst hn
    simp
    omega

theorem seven {q r : List Int} {k : Int} (h : DivOut [7] [2] q r k) : k = 0 ∧ q = [3] ∧ r = [1] := by
  have hB : BB = 18446744073709551616 := rfl
  have hb := Big_BB
  have n7 : Num [7] 7 := num1 (by omega) (by omega)
  have n2 : Num [2] 2 := num1 (by omega) (by omega)
  have f := h.is_fine ⟨n7.may.2 (by omega), n2.may.2 (by omega)⟩ (by rw [n2.val]; omega)
  rw [n7.val, n2.val] at f
  exact ⟨f.1, f.2.1.one (num1 (by omega) (by omega)), f.2.2.one (num1 (by omega) (by omega))⟩

set_option maxHeartbeats 1000000 in
theorem qshown_any (w : World) : Calls Try.prog 10 #[] w fun e w' => e = .returned (.bool true) ∧ Below w.heap.size w w' := by
  have hB : BB = 18446744073709551616 := rfl
  have b7 : Below w.heap.size w (w.alloc (Obj.cells #[.int .u64 7] 24)) := (Below.refl _ _).alloc (Nat.le_refl _) _
  have B2 : Hid (Below w.heap.size w ((w.alloc (Obj.cells #[.int .u64 7] 24)).alloc (Obj.cells #[.int .u64 2] 24))) := b7.alloc (by simp) _
  have R7 : Hid (RowAt ((w.alloc (Obj.cells #[.int .u64 7] 24)).alloc (Obj.cells #[.int .u64 2] 24)) (some ⟨w.heap.size, 0, none⟩) 1 1 [7]) := (one_row w 7 (by omega) (by omega)).below ((Below.refl _ _).alloc (Nat.le_refl _) _)
  have R2 : Hid (RowAt ((w.alloc (Obj.cells #[.int .u64 7] 24)).alloc (Obj.cells #[.int .u64 2] 24)) (some ⟨w.heap.size + 1, 0, none⟩) 1 1 [2]) := by
    show RowAt ((w.alloc (Obj.cells #[.int .u64 7] 24)).alloc (Obj.cells #[.int .u64 2] 24)) (some ⟨w.heap.size + 1, 0, none⟩) 1 1 [2]
    have h := one_row (w.alloc (Obj.cells #[.int .u64 7] 24)) 2 (by omega) (by omega)
    simpa using h
  clear b7 hB
  go_enter Try.func10, Try.ntmps10
  go_wp2_with fail
  refine (qdiv_any _ _ _ _ _ _ [7] [2] _ R7.out R2.out).mono ?_
  rintro e w1 ⟨qo, qn, qc, q, ro, rn, rc, r, k, rfl, f1, f2, f3, f4⟩
  obtain ⟨rfl, rfl, rfl⟩ := seven f3
  have A1 : Hid (Below w.heap.size w w1) := B2.out.trans (f4.mono B2.out.size)
  have hz : w.heap.size ≤ w1.heap.size := A1.out.size
  have F1 : Hid (RowAt w1 qo qn qc [3]) := f1
  have F2 : Hid (RowAt w1 ro rn rc [1]) := f2
  have X3 : Hid (RowAt (w1.alloc (Obj.cells #[.int .u64 3] 24)) (some ⟨w1.heap.size, 0, none⟩) 1 1 [3]) := one_row w1 3 (by omega) (by unfold BB; omega)
  have F1' : Hid (RowAt (w1.alloc (Obj.cells #[.int .u64 3] 24)) qo qn qc [3]) := f1.below ((Below.refl _ _).alloc (Nat.le_refl _) _)
  have A2 : Hid (Below w.heap.size w (w1.alloc (Obj.cells #[.int .u64 3] 24))) := A1.out.alloc hz _
  have F2' : Hid (RowAt (w1.alloc (Obj.cells #[.int .u64 3] 24)) ro rn rc [1]) := f2.below ((Below.refl _ _).alloc (Nat.le_refl _) _)
  clear f1 f2 f3 f4
  go_wp2_with fail
  refine (rnsame_yes _ _ _ _ _ _ [3] [3] _ F1'.out X3.out rfl).mono ?_
  rintro e w2 ⟨rfl, b2⟩
  have A3 : Hid (Below w.heap.size w w2) := A2.out.trans (b2.mono A2.out.size)
  have hz2 : w.heap.size ≤ w2.heap.size := A3.out.size
  have G2 : Hid (RowAt (w2.alloc (Obj.cells #[.int .u64 1] 24)) ro rn rc [1]) := (F2'.out.below b2).below ((Below.refl _ _).alloc (Nat.le_refl _) _)
  have X1 : Hid (RowAt (w2.alloc (Obj.cells #[.int .u64 1] 24)) (some ⟨w2.heap.size, 0, none⟩) 1 1 [1]) := one_row w2 1 (by omega) (by unfold BB; omega)
  have A4 : Hid (Below w.heap.size w (w2.alloc (Obj.cells #[.int .u64 1] 24))) := A3.out.alloc hz2 _
  clear b2
  go_wp2_with fail
  refine (rnsame_yes _ _ _ _ _ _ [1] [1] _ G2.out X1.out rfl).mono ?_
  rintro e w3 ⟨rfl, b3⟩
  have A5 : Hid (Below w.heap.size w w3) := A4.out.trans (b3.mono A4.out.size)
  clear b3
  go_wp2_with fail
  go_ret
  exact ⟨rfl, A5.out⟩

end Go.Proofs.Yteobmomoaekadaa
