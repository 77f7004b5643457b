/-
  quot.Div, quot.Small, quot.Gcd, quot.Lcm.
-/
import Derived.Test.YtghnmfkgpkikfaaDoorQuotMath
import Derived.Test.YtghnmfkgpkikfaaDoorDivide
import Derived.Test.YtghnmfkgpkikfaaDoorNatBase
import Derived.Test.YtghnmfkgpkikfaaDoorNatOps
namespace Go.Proofs.YtghnmfkgpkikfaaDoor
open Go.RowKit

theorem Out.to {ok ok' neg : Prop} {v v' : Int} {r : List Int} {k : Int} (h : Out ok neg v r k) (ho : ok) (ho' : ok') (hv : v = v') : Out ok' neg v' r k := by
  subst hv
  exact ⟨fun n => absurd ho' n, fun _ n => h.is_minus' ho n, fun _ n b => h.is_big' ho n b, fun _ n b => h.is_fine' ho n b⟩

theorem val_zero {xs : List Int} (hl : Limbs xs) (hm : May xs) {n : Nat} (h : xs.length = n) : n = 0 ↔ val xs = 0 := by
  rw [← h]; exact num_len_zero (num_self hl hm)

theorem quot_lt {a g B : Int} (ha : 0 ≤ a) (hA : a < B) : a / g < B ∨ g < 0 := by
  rcases Int.lt_or_le g 0 with h | h
  · exact .inr h
  · have := Int.ediv_le_self g ha
    exact .inl (by omega)

set_option maxHeartbeats 1000000 in
theorem qdiv_any (ao bo : Option Addr) (na ca nb cb : Nat) (xs ys : List Int) (w : World) (ha : RowAt w ao na ca xs) (hb : RowAt w bo nb cb ys) :
    Calls Tryd.prog 41 #[.slice ao na ca, .slice bo nb cb] w fun e w' => ∃ qo qn qc q ro rn rc r k, e = .returned (.tuple #[.slice qo qn qc, .slice ro rn rc, .int .i64 k]) ∧ RowAt w' qo qn qc q ∧ RowAt w' ro rn rc r ∧ DivOut xs ys q r k ∧ Below w.heap.size w w' ∧ Fresh w.heap.size qo := by
  have HA : Hid (RowAt w ao na ca xs) := ha
  have HB : Hid (RowAt w bo nb cb ys) := hb
  have la := ha.len
  have lb := hb.len
  clear ha hb
  by_cases hx : May xs
  · have hna : na ≤ 8 := by have := hx.1; omega
    have HX : Hid (May xs) := hx
    clear hx
    by_cases hy : May ys
    · have hnb : nb ≤ 8 := by have := hy.1; omega
      have HY : Hid (May ys) := hy
      have hz := val_zero HB.out.limbs hy lb
      have hzx := val_zero HA.out.limbs HX.out la
      clear hy la lb
      by_cases h0 : nb = 0
      · have HZ : Hid (val ys = 0) := hz.1 h0
        subst h0
        clear hz hzx
        go_enter Tryd.func41, Tryd.ntmps41
        go_wp2_with fail
        refine (may_val _ _ _ xs _ HA.out true (yes_iff HX.out)).mono ?_
        rintro e w1 ⟨rfl, rfl⟩
        go_wp2_with fail
        refine (may_val _ _ _ ys _ HB.out true (yes_iff HY.out)).mono ?_
        rintro e w1 ⟨rfl, rfl⟩
        go_wp2_with fail
        go_ret3
        exact ⟨none, 0, 0, [], none, 0, 0, [], 30, rfl, RowAt.nil _, RowAt.nil _, .zero ⟨HX.out, HY.out⟩ HZ.out, Below.refl _ _, Fresh.none _⟩
      · have HZ : Hid (val ys ≠ 0) := fun e => h0 (hz.2 e)
        have HYS : Hid (ys ≠ []) := fun e => by
          have h := HB.out.len
          rw [e] at h
          simp at h
          omega
        have hb0 : ((nb : Int) == 0) = false := by rw [beq_eq_false_iff_ne]; omega
        clear hz hzx
        go_enter Tryd.func41, Tryd.ntmps41
        go_wp2_with fail
        refine (may_val _ _ _ xs _ HA.out true (yes_iff HX.out)).mono ?_
        rintro e w1 ⟨rfl, rfl⟩
        go_wp2_with fail
        refine (may_val _ _ _ ys _ HB.out true (yes_iff HY.out)).mono ?_
        rintro e w1 ⟨rfl, rfl⟩
        go_wp2_with fail
        refine (divide_fresh _ _ _ _ _ _ xs ys _ HA.out HB.out (by omega) (by omega) HX.out.2 HY.out.2 HYS.out).mono ?_
        rintro e w1 ⟨qo, qn, qc, q, ro, rn, rc, r, rfl, d1, d2, d3, d4, d5, d6⟩
        have D1 : Hid _ := d1
        have D2 : Hid _ := d2
        have D3 : Hid (Num q (val xs / val ys)) := d3
        have D4 : Hid (Num r (val xs % val ys)) := d4
        have D5 : Hid _ := d5
        have D6 : Hid _ := d6
        clear d1 d2 d3 d4 d5 d6
        go_wp2_with fail
        go_ret3
        exact ⟨qo, qn, qc, q, ro, rn, rc, r, 0, rfl, D1.out, D2.out, .fine ⟨HX.out, HY.out⟩ HZ.out D3.out D4.out, D5.out, D6.out⟩
    · have HY : Hid (¬ May ys) := hy
      clear hy la lb
      go_enter Tryd.func41, Tryd.ntmps41
      go_wp2_with fail
      refine (may_val _ _ _ xs _ HA.out true (yes_iff HX.out)).mono ?_
      rintro e w1 ⟨rfl, rfl⟩
      go_wp2_with fail
      refine (may_val _ _ _ ys _ HB.out false (no_iff HY.out)).mono ?_
      rintro e w1 ⟨rfl, rfl⟩
      go_wp2_with fail
      go_ret3
      exact ⟨none, 0, 0, [], none, 0, 0, [], 1, rfl, RowAt.nil _, RowAt.nil _, .arg (fun h => HY.out h.2), Below.refl _ _, Fresh.none _⟩
  · have HX : Hid (¬ May xs) := hx
    clear hx la lb
    go_enter Tryd.func41, Tryd.ntmps41
    go_wp2_with fail
    refine (may_val _ _ _ xs _ HA.out false (no_iff HX.out)).mono ?_
    rintro e w1 ⟨rfl, rfl⟩
    go_wp2_with fail
    go_ret3
    exact ⟨none, 0, 0, [], none, 0, 0, [], 1, rfl, RowAt.nil _, RowAt.nil _, .arg (fun h => HX.out h.1), Below.refl _ _, Fresh.none _⟩

set_option maxHeartbeats 1000000 in
theorem qsmall_any (ao : Option Addr) (na ca : Nat) (xs : List Int) (n : Int) (w : World) (ha : RowAt w ao na ca xs) (hn0 : 0 ≤ n) (hn1 : n < BB) :
    Calls Tryd.prog 27 #[.slice ao na ca, .int .u64 n] w fun e w' => ∃ qo qn qc q rv k, e = .returned (.tuple #[.slice qo qn qc, .int .u64 rv, .int .i64 k]) ∧ RowAt w' qo qn qc q ∧ SmallOut xs n q rv k ∧ Below w.heap.size w w' ∧ Fresh w.heap.size qo := by
  have HA : Hid (RowAt w ao na ca xs) := ha
  have HN : Hid (0 ≤ n ∧ n < BB) := ⟨hn0, hn1⟩
  clear ha hn0 hn1
  go_enter Tryd.func27, Tryd.ntmps27
  go_wp2_with fail
  refine (of_any n _ HN.out.1 HN.out.2).mono ?_
  rintro e w1 ⟨bo, bn, bc, bs, rfl, d1, d2, d3, d4⟩
  have D1 : Hid (RowAt w1 bo bn bc bs) := d1
  have D2 : Hid (Num bs n) := d2
  have D4 : Hid (Below w.heap.size w w1) := d4
  clear d1 d2 d3 d4
  go_wp2_with fail
  refine (qdiv_any _ _ _ _ _ _ xs bs _ (HA.out.below D4.out) D1.out).mono ?_
  rintro e w2 ⟨qo, qn, qc, q, ro, rn, rc, r, k, rfl, f1, f2, f3, f4, f5⟩
  have F1 : Hid (RowAt w2 qo qn qc q) := f1
  have F2 : Hid (RowAt w2 ro rn rc r) := f2
  have F3 : Hid (SmallOut xs n q (lim r 0) k) := .of D2.out HN.out.2 f3
  have F4 : Hid (Below w.heap.size w w2) := chain D4.out f4
  have F5 : Hid (Fresh w.heap.size qo) := f5.mono D4.out.size
  clear f1 f2 f3 f4 f5
  by_cases hr : rn = 0
  · have HR : Hid (lim r 0 = 0) := by
      have h := F2.out.len
      rw [hr] at h
      rw [List.length_eq_zero_iff.1 h]
      rfl
    subst hr
    go_wp2_with fail
    go_ret3
    exact ⟨qo, qn, qc, q, 0, k, rfl, F1.out, by have h := F3.out; rw [HR.out] at h; exact h, F4.out, F5.out⟩
  · have hrb : ((rn : Int) == 0) = false := by rw [beq_eq_false_iff_ne]; omega
    have hrp : (0 : Int) < (rn : Int) := by omega
    obtain ⟨rb, roff, rfl, hrlt, hrc⟩ := F2.out.cells (by intro e; have h := F2.out.len; rw [e] at h; simp at h; omega)
    have hr0 := hrc 0 (by have := F2.out.len; omega)
    rw [← lim_nat, Nat.add_zero, show ((0 : Nat) : Int) = 0 from rfl] at hr0
    obtain ⟨rv, hrv⟩ : ∃ v, v = lim r 0 := ⟨_, rfl⟩
    rw [← hrv] at hr0
    have HRV : Hid (rv = lim r 0) := hrv
    clear hrc hrv
    go_wp2_with fail
    go_quiet (fail)
    go_wp2_with fail
    go_ret3
    exact ⟨qo, qn, qc, q, rv, k, rfl, F1.out.drewN _, by rw [HRV.out]; exact F3.out, below_drewN F4.out _, F5.out⟩

end Go.Proofs.YtghnmfkgpkikfaaDoor
