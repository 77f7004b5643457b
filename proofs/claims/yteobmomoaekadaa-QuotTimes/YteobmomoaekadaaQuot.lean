/-
  quot.Div, quot.Small, quot.Gcd, quot.Lcm.
-/
import Derived.Test.YteobmomoaekadaaCommon
import Derived.Test.YteobmomoaekadaaNatOps
namespace Go.Proofs.Yteobmomoaekadaa
open Go.RowKit

theorem Out.to {ok ok' neg : Prop} {v v' : Int} {r : List Int} {k : Int} (h : Out ok neg v r k) (ho : ok) (ho' : ok') (hv : v = v') : Out ok' neg v' r k := by
  subst hv
  exact ⟨fun n => absurd ho' n, fun _ n => h.is_minus' ho n, fun _ n b => h.is_big' ho n b, fun _ n b => h.is_fine' ho n b⟩

theorem val_zero {xs : List Int} (hl : Limbs xs) (hm : May xs) {n : Nat} (h : xs.length = n) : n = 0 ↔ val xs = 0 := by
  rw [← h]; exact num_len_zero (num_self hl hm)

theorem quot_lt {a g B : Int} (ha : 0 ≤ a) (hA : a < B) : a / g < B ∨ g < 0 := by
  rcases Int.lt_or_le g 0 with h | h
  · exact .inr h
  · have := Int.ediv_le_self g ha
    exact .inl (by omega)

set_option maxHeartbeats 1000000 in
theorem qdiv_any (ao bo : Option Addr) (na ca nb cb : Nat) (xs ys : List Int) (w : World) (ha : RowAt w ao na ca xs) (hb : RowAt w bo nb cb ys) :
    Calls Try.prog 11 #[.slice ao na ca, .slice bo nb cb] w fun e w' => ∃ qo qn qc q ro rn rc r k, e = .returned (.tuple #[.slice qo qn qc, .slice ro rn rc, .int .i64 k]) ∧ RowAt w' qo qn qc q ∧ RowAt w' ro rn rc r ∧ DivOut xs ys q r k ∧ Below w.heap.size w w' := by
  have HA : Hid (RowAt w ao na ca xs) := ha
  have HB : Hid (RowAt w bo nb cb ys) := hb
  have la := ha.len
  have lb := hb.len
  clear ha hb
  by_cases hx : May xs
  · have hna : na ≤ 8 := by have := hx.1; omega
    have HX : Hid (May xs) := hx
    clear hx
    by_cases hy : May ys
    · have hnb : nb ≤ 8 := by have := hy.1; omega
      have HY : Hid (May ys) := hy
      have hz := val_zero HB.out.limbs hy lb
      have hzx := val_zero HA.out.limbs HX.out la
      clear hy la lb
      by_cases h0 : nb = 0
      · have HZ : Hid (val ys = 0) := hz.1 h0
        subst h0
        clear hz hzx
        go_enter Try.func11, Try.ntmps11
        go_wp2_with fail
        refine (may_val _ _ _ xs _ HA.out true (yes_iff HX.out)).mono ?_
        rintro e w1 ⟨rfl, rfl⟩
        go_wp2_with fail
        refine (may_val _ _ _ ys _ HB.out true (yes_iff HY.out)).mono ?_
        rintro e w1 ⟨rfl, rfl⟩
        go_wp2_with fail
        go_ret3
        exact ⟨none, 0, 0, [], none, 0, 0, [], 30, rfl, RowAt.nil _, RowAt.nil _, .zero ⟨HX.out, HY.out⟩ HZ.out, Below.refl _ _⟩
      · have HZ : Hid (val ys ≠ 0) := fun e => h0 (hz.2 e)
        have HYS : Hid (ys ≠ []) := fun e => by
          have h := HB.out.len
          rw [e] at h
          simp at h
          omega
        have hb0 : ((nb : Int) == 0) = false := by rw [beq_eq_false_iff_ne]; omega
        clear hz hzx
        go_enter Try.func11, Try.ntmps11
        go_wp2_with fail
        refine (may_val _ _ _ xs _ HA.out true (yes_iff HX.out)).mono ?_
        rintro e w1 ⟨rfl, rfl⟩
        go_wp2_with fail
        refine (may_val _ _ _ ys _ HB.out true (yes_iff HY.out)).mono ?_
        rintro e w1 ⟨rfl, rfl⟩
        go_wp2_with fail
        refine (divide_any _ _ _ _ _ _ xs ys _ HA.out HB.out (by omega) (by omega) HX.out.2 HY.out.2 HYS.out).mono ?_
        rintro e w1 ⟨qo, qn, qc, q, ro, rn, rc, r, rfl, d1, d2, d3, d4, d5⟩
        have D1 : Hid _ := d1
        have D2 : Hid _ := d2
        have D3 : Hid (Num q (val xs / val ys)) := d3
        have D4 : Hid (Num r (val xs % val ys)) := d4
        have D5 : Hid _ := d5
        clear d1 d2 d3 d4 d5
        go_wp2_with fail
        go_ret3
        exact ⟨qo, qn, qc, q, ro, rn, rc, r, 0, rfl, D1.out, D2.out, .fine ⟨HX.out, HY.out⟩ HZ.out D3.out D4.out, D5.out⟩
    · have HY : Hid (¬ May ys) := hy
      clear hy la lb
      go_enter Try.func11, Try.ntmps11
      go_wp2_with fail
      refine (may_val _ _ _ xs _ HA.out true (yes_iff HX.out)).mono ?_
      rintro e w1 ⟨rfl, rfl⟩
      go_wp2_with fail
      refine (may_val _ _ _ ys _ HB.out false (no_iff HY.out)).mono ?_
      rintro e w1 ⟨rfl, rfl⟩
      go_wp2_with fail
      go_ret3
      exact ⟨none, 0, 0, [], none, 0, 0, [], 1, rfl, RowAt.nil _, RowAt.nil _, .arg (fun h => HY.out h.2), Below.refl _ _⟩
  · have HX : Hid (¬ May xs) := hx
    clear hx la lb
    go_enter Try.func11, Try.ntmps11
    go_wp2_with fail
    refine (may_val _ _ _ xs _ HA.out false (no_iff HX.out)).mono ?_
    rintro e w1 ⟨rfl, rfl⟩
    go_wp2_with fail
    go_ret3
    exact ⟨none, 0, 0, [], none, 0, 0, [], 1, rfl, RowAt.nil _, RowAt.nil _, .arg (fun h => HX.out h.1), Below.refl _ _⟩

set_option maxHeartbeats 1000000 in
theorem qgcd_any (ao bo : Option Addr) (na ca nb cb : Nat) (xs ys : List Int) (w : World) (ha : RowAt w ao na ca xs) (hb : RowAt w bo nb cb ys) :
    Calls Try.prog 16 #[.slice ao na ca, .slice bo nb cb] w fun e w' => ∃ ro m cap r k, e = .returned (.tuple #[.slice ro m cap, .int .i64 k]) ∧ RowAt w' ro m cap r ∧ Out (May xs ∧ May ys) False (gcdI (val xs) (val ys)) r k ∧ Below w.heap.size w w' := by
  have HA : Hid (RowAt w ao na ca xs) := ha
  have HB : Hid (RowAt w bo nb cb ys) := hb
  have la := ha.len
  have lb := hb.len
  clear ha hb
  by_cases hx : May xs
  · have hna : na ≤ 8 := by have := hx.1; omega
    have HX : Hid (May xs) := hx
    clear hx
    by_cases hy : May ys
    · have hnb : nb ≤ 8 := by have := hy.1; omega
      have HY : Hid (May ys) := hy
      have hz := val_zero HB.out.limbs hy lb
      have hzx := val_zero HA.out.limbs HX.out la
      clear hy la lb
      clear hz hzx
      go_enter Try.func16, Try.ntmps16
      go_wp2_with fail
      refine (may_val _ _ _ xs _ HA.out true (yes_iff HX.out)).mono ?_
      rintro e w1 ⟨rfl, rfl⟩
      go_wp2_with fail
      refine (may_val _ _ _ ys _ HB.out true (yes_iff HY.out)).mono ?_
      rintro e w1 ⟨rfl, rfl⟩
      go_wp2_with fail
      refine (common_any _ _ _ _ _ _ xs ys _ _ _ HA.out HB.out (by omega) (by omega) (num_self HA.out.limbs HX.out) (num_self HB.out.limbs HY.out)).mono ?_
      rintro e w1 ⟨ro, rn, rc, r, rfl, d1, d2, d3⟩
      have D1 : Hid _ := d1
      have D2 : Hid (Num r (gcdI (val xs) (val ys))) := d2
      have D3 : Hid _ := d3
      clear d1 d2 d3
      go_wp2_with fail
      go_ret2
      exact ⟨ro, rn, rc, r, 0, rfl, D1.out, .fine r ⟨HX.out, HY.out⟩ (fun f => f) (gcdI_lt (val_bd HA.out.limbs).1 (val_bd HB.out.limbs).1 (HX.out.lt HA.out.limbs) (HY.out.lt HB.out.limbs)) D2.out, D3.out⟩
    · have HY : Hid (¬ May ys) := hy
      clear hy la lb
      go_enter Try.func16, Try.ntmps16
      go_wp2_with fail
      refine (may_val _ _ _ xs _ HA.out true (yes_iff HX.out)).mono ?_
      rintro e w1 ⟨rfl, rfl⟩
      go_wp2_with fail
      refine (may_val _ _ _ ys _ HB.out false (no_iff HY.out)).mono ?_
      rintro e w1 ⟨rfl, rfl⟩
      go_wp2_with fail
      go_ret2
      exact ⟨none, 0, 0, [], 1, rfl, RowAt.nil _, .arg (fun h => HY.out h.2), Below.refl _ _⟩
  · have HX : Hid (¬ May xs) := hx
    clear hx la lb
    go_enter Try.func16, Try.ntmps16
    go_wp2_with fail
    refine (may_val _ _ _ xs _ HA.out false (no_iff HX.out)).mono ?_
    rintro e w1 ⟨rfl, rfl⟩
    go_wp2_with fail
    go_ret2
    exact ⟨none, 0, 0, [], 1, rfl, RowAt.nil _, .arg (fun h => HX.out h.1), Below.refl _ _⟩

set_option maxHeartbeats 1000000 in
theorem qlcm_any (ao bo : Option Addr) (na ca nb cb : Nat) (xs ys : List Int) (w : World) (ha : RowAt w ao na ca xs) (hb : RowAt w bo nb cb ys) :
    Calls Try.prog 18 #[.slice ao na ca, .slice bo nb cb] w fun e w' => ∃ ro m cap r k, e = .returned (.tuple #[.slice ro m cap, .int .i64 k]) ∧ RowAt w' ro m cap r ∧ Out (May xs ∧ May ys) False (lcmI (val xs) (val ys)) r k ∧ Below w.heap.size w w' := by
  have HA : Hid (RowAt w ao na ca xs) := ha
  have HB : Hid (RowAt w bo nb cb ys) := hb
  have la := ha.len
  have lb := hb.len
  clear ha hb
  by_cases hx : May xs
  · have hna : na ≤ 8 := by have := hx.1; omega
    have HX : Hid (May xs) := hx
    clear hx
    by_cases hy : May ys
    · have hnb : nb ≤ 8 := by have := hy.1; omega
      have HY : Hid (May ys) := hy
      have hz := val_zero HB.out.limbs hy lb
      have hzx := val_zero HA.out.limbs HX.out la
      clear hy la lb
      by_cases hx0 : na = 0
      · have HE : Hid (lcmI (val xs) (val ys) = 0) := by
          show lcmI (val xs) (val ys) = 0
          rw [hzx.1 hx0, lcmI_zero_left]
        subst hx0
        clear hz hzx
        go_enter Try.func18, Try.ntmps18
        go_wp2_with fail
        refine (may_val _ _ _ xs _ HA.out true (yes_iff HX.out)).mono ?_
        rintro e w1 ⟨rfl, rfl⟩
        go_wp2_with fail
        refine (may_val _ _ _ ys _ HB.out true (yes_iff HY.out)).mono ?_
        rintro e w1 ⟨rfl, rfl⟩
        go_wp2_with fail
        go_ret2
        exact ⟨none, 0, 0, [], 0, rfl, RowAt.nil _, .fine [] ⟨HX.out, HY.out⟩ (fun f => f) (by rw [HE.out]; exact Big_pos) (by rw [HE.out]; exact Num.nil), Below.refl _ _⟩
      · have hn0 : ((na : Int) == 0) = false := by rw [beq_eq_false_iff_ne]; omega
        have hxp : 0 < val xs := by
          have := (val_bd HA.out.limbs).1
          have : val xs ≠ 0 := fun e => hx0 (hzx.2 e)
          omega
        have HXP : Hid (0 < val xs) := hxp
        by_cases hy0 : nb = 0
        · have HE : Hid (lcmI (val xs) (val ys) = 0) := by
            show lcmI (val xs) (val ys) = 0
            rw [hz.1 hy0, lcmI_zero_right]
          subst hy0
          clear hz hzx hxp
          go_enter Try.func18, Try.ntmps18
          go_wp2_with fail
          refine (may_val _ _ _ xs _ HA.out true (yes_iff HX.out)).mono ?_
          rintro e w1 ⟨rfl, rfl⟩
          go_wp2_with fail
          refine (may_val _ _ _ ys _ HB.out true (yes_iff HY.out)).mono ?_
          rintro e w1 ⟨rfl, rfl⟩
          go_wp2_with fail
          go_ret2
          exact ⟨none, 0, 0, [], 0, rfl, RowAt.nil _, .fine [] ⟨HX.out, HY.out⟩ (fun f => f) (by rw [HE.out]; exact Big_pos) (by rw [HE.out]; exact Num.nil), Below.refl _ _⟩
        · have hm0 : ((nb : Int) == 0) = false := by rw [beq_eq_false_iff_ne]; omega
          clear hz hzx hxp
          go_enter Try.func18, Try.ntmps18
          go_wp2_with fail
          refine (may_val _ _ _ xs _ HA.out true (yes_iff HX.out)).mono ?_
          rintro e w1 ⟨rfl, rfl⟩
          go_wp2_with fail
          refine (may_val _ _ _ ys _ HB.out true (yes_iff HY.out)).mono ?_
          rintro e w1 ⟨rfl, rfl⟩
          go_wp2_with fail
          refine (common_any _ _ _ _ _ _ xs ys _ _ _ HA.out HB.out (by omega) (by omega) (num_self HA.out.limbs HX.out) (num_self HB.out.limbs HY.out)).mono ?_
          rintro e w1 ⟨go, gn, gc, g, rfl, d1, d2, d3⟩
          have D1 : Hid (RowAt w1 go gn gc g) := d1
          have D2 : Hid (Num g (gcdI (val xs) (val ys))) := d2
          have D3 : Hid (Below w.heap.size w w1) := d3
          have hgp := gcdI_pos (b := val ys) HXP.out
          have HGP : Hid (0 < gcdI (val xs) (val ys)) := hgp
          have HGN : Hid (g ≠ []) := fun e => by
            have h := d2.val
            rw [e] at h
            simp [val] at h
            omega
          have hgm : gn ≤ 8 := by
            have h1 := (d2.may.2 (gcdI_lt (val_bd HA.out.limbs).1 (val_bd HB.out.limbs).1 (HX.out.lt HA.out.limbs) (HY.out.lt HB.out.limbs))).1
            have h2 := d1.len
            omega
          clear d1 d2 d3 hgp
          go_wp2_with fail
          refine (divide_any _ _ _ _ _ _ xs g _ (HA.out.below D3.out) D1.out (by omega) (by omega) HX.out.2 D2.out.trim HGN.out).mono ?_
          rintro e w2 ⟨qo, qn, qc, q, ro, rn, rc, r, rfl, f1, f2, f3, f4, f5⟩
          rw [D2.out.val] at f3
          have F1 : Hid (RowAt w2 qo qn qc q) := f1
          have F3 : Hid (Num q (val xs / gcdI (val xs) (val ys))) := f3
          have F5 : Hid (Below w.heap.size w w2) := chain D3.out f5
          clear f1 f2 f3 f4 f5
          go_wp2_with fail
          refine (nmul_any _ _ _ _ _ _ q ys _ F1.out (HB.out.below F5.out)).mono ?_
          rintro e w3 ⟨so, sm, sc, s, k, rfl, g1, g2, g3⟩
          have G1 : Hid (RowAt w3 so sm sc s) := g1
          have G2 : Hid (Out (May xs ∧ May ys) False (lcmI (val xs) (val ys)) s k) := by
            have hq : May q := F3.out.may.2 (by
              have := Int.ediv_le_self (gcdI (val xs) (val ys)) (Int.le_of_lt HXP.out)
              have := HX.out.lt HA.out.limbs
              omega)
            exact g2.to ⟨hq, HY.out⟩ ⟨HX.out, HY.out⟩ (by rw [F3.out.val]; rfl)
          have G3 : Hid (Below w.heap.size w w3) := chain F5.out g3
          clear g1 g2 g3
          go_wp2_with fail
          go_ret2
          exact ⟨so, sm, sc, s, k, rfl, G1.out, G2.out, G3.out⟩
    · have HY : Hid (¬ May ys) := hy
      clear hy la lb
      go_enter Try.func18, Try.ntmps18
      go_wp2_with fail
      refine (may_val _ _ _ xs _ HA.out true (yes_iff HX.out)).mono ?_
      rintro e w1 ⟨rfl, rfl⟩
      go_wp2_with fail
      refine (may_val _ _ _ ys _ HB.out false (no_iff HY.out)).mono ?_
      rintro e w1 ⟨rfl, rfl⟩
      go_wp2_with fail
      go_ret2
      exact ⟨none, 0, 0, [], 1, rfl, RowAt.nil _, .arg (fun h => HY.out h.2), Below.refl _ _⟩
  · have HX : Hid (¬ May xs) := hx
    clear hx la lb
    go_enter Try.func18, Try.ntmps18
    go_wp2_with fail
    refine (may_val _ _ _ xs _ HA.out false (no_iff HX.out)).mono ?_
    rintro e w1 ⟨rfl, rfl⟩
    go_wp2_with fail
    go_ret2
    exact ⟨none, 0, 0, [], 1, rfl, RowAt.nil _, .arg (fun h => HX.out h.1), Below.refl _ _⟩

set_option maxHeartbeats 1000000 in
theorem qsmall_any (ao : Option Addr) (na ca : Nat) (xs : List Int) (n : Int) (w : World) (ha : RowAt w ao na ca xs) (hn0 : 0 ≤ n) (hn1 : n < BB) :
    Calls Try.prog 13 #[.slice ao na ca, .int .u64 n] w fun e w' => ∃ qo qn qc q rv k, e = .returned (.tuple #[.slice qo qn qc, .int .u64 rv, .int .i64 k]) ∧ RowAt w' qo qn qc q ∧ SmallOut xs n q rv k ∧ Below w.heap.size w w' := by
  have HA : Hid (RowAt w ao na ca xs) := ha
  have HN : Hid (0 ≤ n ∧ n < BB) := ⟨hn0, hn1⟩
  clear ha hn0 hn1
  go_enter Try.func13, Try.ntmps13
  go_wp2_with fail
  refine (of_any n _ HN.out.1 HN.out.2).mono ?_
  rintro e w1 ⟨bo, bn, bc, bs, rfl, d1, d2, d3, d4⟩
  have D1 : Hid (RowAt w1 bo bn bc bs) := d1
  have D2 : Hid (Num bs n) := d2
  have D4 : Hid (Below w.heap.size w w1) := d4
  clear d1 d2 d3 d4
  go_wp2_with fail
  refine (qdiv_any _ _ _ _ _ _ xs bs _ (HA.out.below D4.out) D1.out).mono ?_
  rintro e w2 ⟨qo, qn, qc, q, ro, rn, rc, r, k, rfl, f1, f2, f3, f4⟩
  have F1 : Hid (RowAt w2 qo qn qc q) := f1
  have F2 : Hid (RowAt w2 ro rn rc r) := f2
  have F3 : Hid (SmallOut xs n q (lim r 0) k) := .of D2.out HN.out.2 f3
  have F4 : Hid (Below w.heap.size w w2) := chain D4.out f4
  clear f1 f2 f3 f4
  by_cases hr : rn = 0
  · have HR : Hid (lim r 0 = 0) := by
      have h := F2.out.len
      rw [hr] at h
      rw [List.length_eq_zero_iff.1 h]
      rfl
    subst hr
    go_wp2_with fail
    go_ret3
    exact ⟨qo, qn, qc, q, 0, k, rfl, F1.out, by have h := F3.out; rw [HR.out] at h; exact h, F4.out⟩
  · have hrb : ((rn : Int) == 0) = false := by rw [beq_eq_false_iff_ne]; omega
    have hrp : (0 : Int) < (rn : Int) := by omega
    obtain ⟨rb, roff, rfl, hrlt, hrc⟩ := F2.out.cells (by intro e; have h := F2.out.len; rw [e] at h; simp at h; omega)
    have hr0 := hrc 0 (by have := F2.out.len; omega)
    rw [← lim_nat, Nat.add_zero, show ((0 : Nat) : Int) = 0 from rfl] at hr0
    obtain ⟨rv, hrv⟩ : ∃ v, v = lim r 0 := ⟨_, rfl⟩
    rw [← hrv] at hr0
    have HRV : Hid (rv = lim r 0) := hrv
    clear hrc hrv
    go_wp2_with fail
    go_quiet (fail)
    go_wp2_with fail
    go_ret3
    exact ⟨qo, qn, qc, q, rv, k, rfl, F1.out.drewN _, by rw [HRV.out]; exact F3.out, below_drewN F4.out _⟩

end Go.Proofs.Yteobmomoaekadaa
