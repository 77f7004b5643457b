/-
  quot.Div, quot.Small, quot.Gcd, quot.Lcm.
-/
import Derived.Test.YtmmbgfbliekkgaaCommon
import Derived.Test.YtmmbgfbliekkgaaNatBase
namespace Go.Proofs.Ytmmbgfbliekkgaa
open Go.RowKit

theorem Out.to {ok ok' neg : Prop} {v v' : Int} {r : List Int} {k : Int} (h : Out ok neg v r k) (ho : ok) (ho' : ok') (hv : v = v') : Out ok' neg v' r k := by
  subst hv
  exact ⟨fun n => absurd ho' n, fun _ n => h.is_minus' ho n, fun _ n b => h.is_big' ho n b, fun _ n b => h.is_fine' ho n b⟩

theorem val_zero {xs : List Int} (hl : Limbs xs) (hm : May xs) {n : Nat} (h : xs.length = n) : n = 0 ↔ val xs = 0 := by
  rw [← h]; exact num_len_zero (num_self hl hm)

theorem quot_lt {a g B : Int} (ha : 0 ≤ a) (hA : a < B) : a / g < B ∨ g < 0 := by
  rcases Int.lt_or_le g 0 with h | h
  · exact .inr h
  · have := Int.ediv_le_self g ha
    exact .inl (by omega)

set_option maxHeartbeats 1000000 in
theorem qgcd_any (ao bo : Option Addr) (na ca nb cb : Nat) (xs ys : List Int) (w : World) (ha : RowAt w ao na ca xs) (hb : RowAt w bo nb cb ys) :
    Calls Try.prog 50 #[.slice ao na ca, .slice bo nb cb] w fun e w' => ∃ ro m cap r k, e = .returned (.tuple #[.slice ro m cap, .int .i64 k]) ∧ RowAt w' ro m cap r ∧ Out (May xs ∧ May ys) False (gcdI (val xs) (val ys)) r k ∧ Below w.heap.size w w' := by
  have HA : Hid (RowAt w ao na ca xs) := ha
  have HB : Hid (RowAt w bo nb cb ys) := hb
  have la := ha.len
  have lb := hb.len
  clear ha hb
  by_cases hx : May xs
  · have hna : na ≤ 8 := by have := hx.1; omega
    have HX : Hid (May xs) := hx
    clear hx
    by_cases hy : May ys
    · have hnb : nb ≤ 8 := by have := hy.1; omega
      have HY : Hid (May ys) := hy
      have hz := val_zero HB.out.limbs hy lb
      have hzx := val_zero HA.out.limbs HX.out la
      clear hy la lb
      clear hz hzx
      go_enter Try.func50, Try.ntmps50
      go_wp2_with fail
      refine (may_val _ _ _ xs _ HA.out true (yes_iff HX.out)).mono ?_
      rintro e w1 ⟨rfl, rfl⟩
      go_wp2_with fail
      refine (may_val _ _ _ ys _ HB.out true (yes_iff HY.out)).mono ?_
      rintro e w1 ⟨rfl, rfl⟩
      go_wp2_with fail
      refine (common_any _ _ _ _ _ _ xs ys _ _ _ HA.out HB.out (by omega) (by omega) (num_self HA.out.limbs HX.out) (num_self HB.out.limbs HY.out)).mono ?_
      rintro e w1 ⟨ro, rn, rc, r, rfl, d1, d2, d3⟩
      have D1 : Hid _ := d1
      have D2 : Hid (Num r (gcdI (val xs) (val ys))) := d2
      have D3 : Hid _ := d3
      clear d1 d2 d3
      go_wp2_with fail
      go_ret2
      exact ⟨ro, rn, rc, r, 0, rfl, D1.out, .fine r ⟨HX.out, HY.out⟩ (fun f => f) (gcdI_lt (val_bd HA.out.limbs).1 (val_bd HB.out.limbs).1 (HX.out.lt HA.out.limbs) (HY.out.lt HB.out.limbs)) D2.out, D3.out⟩
    · have HY : Hid (¬ May ys) := hy
      clear hy la lb
      go_enter Try.func50, Try.ntmps50
      go_wp2_with fail
      refine (may_val _ _ _ xs _ HA.out true (yes_iff HX.out)).mono ?_
      rintro e w1 ⟨rfl, rfl⟩
      go_wp2_with fail
      refine (may_val _ _ _ ys _ HB.out false (no_iff HY.out)).mono ?_
      rintro e w1 ⟨rfl, rfl⟩
      go_wp2_with fail
      go_ret2
      exact ⟨none, 0, 0, [], 1, rfl, RowAt.nil _, .arg (fun h => HY.out h.2), Below.refl _ _⟩
  · have HX : Hid (¬ May xs) := hx
    clear hx la lb
    go_enter Try.func50, Try.ntmps50
    go_wp2_with fail
    refine (may_val _ _ _ xs _ HA.out false (no_iff HX.out)).mono ?_
    rintro e w1 ⟨rfl, rfl⟩
    go_wp2_with fail
    go_ret2
    exact ⟨none, 0, 0, [], 1, rfl, RowAt.nil _, .arg (fun h => HX.out h.1), Below.refl _ _⟩

end Go.Proofs.Ytmmbgfbliekkgaa
