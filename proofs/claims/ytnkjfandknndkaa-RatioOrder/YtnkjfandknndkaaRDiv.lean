/-
  The reference's Div of layer 3: all of it.
-/
import Derived.Test.YtnkjfandknndkaaRDivMath
import Derived.Test.YtnkjfandknndkaaRTimes
import Derived.Test.YtnkjfandknndkaaNatBase
import Derived.Test.YtnkjfandknndkaaRAdd
import Derived.Test.YtnkjfandknndkaaQuot
import Derived.Deep.CutRange
import Derived.Deep.RegionHeld3
import Derived.Test.YtnkjfandknndkaaRDivA
import Derived.Test.YtnkjfandknndkaaRDivB
import Derived.Test.YtnkjfandknndkaaRDivC
namespace Go.Proofs.Ytnkjfandknndkaa
open Go.RowKit
attribute [local go_sem ↓] Go.wp_at_zero Go.wp_at_succ

set_option maxHeartbeats 1000000 in
theorem rqdiv_any (ao bo : Option Addr) (na ca nb cb : Nat) (xs ys : List Int) (w : World) (ha : RowAt w ao na ca xs) (hb : RowAt w bo nb cb ys) :
    Calls Try.prog 34 #[.slice ao na ca, .slice bo nb cb] w fun e w' => ∃ qo qn qc q ro rn rc r k, e = .returned (.tuple #[.slice qo qn qc, .slice ro rn rc, .int .i64 k]) ∧ RowAt w' qo qn qc q ∧ RowAt w' ro rn rc r ∧ DivOut xs ys q r k ∧ Below w.heap.size w w' := by
  by_cases hx : May xs
  · by_cases hy : May ys
    · by_cases hz : val ys = 0
      · have h0 : nb = 0 := (val_zero hb.limbs hy hb.len).2 hz
        have HA : Hid (RowAt w ao na ca xs) := ha
        have HB : Hid (RowAt w bo nb cb ys) := hb
        have HX : Hid (May xs) := hx
        have HY : Hid (May ys) := hy
        have HZ : Hid (val ys = 0) := hz
        have hna : na ≤ 8 := by have := hx.1; have := ha.len; omega
        subst h0
        clear ha hb hx hy hz
        go_enter Try.func34, Try.ntmps34
        go_wp2_with fail
        refine (rmay_val _ _ _ xs _ HA.out true (yes_iff HX.out)).mono ?_
        rintro e w1 ⟨rfl, rfl⟩
        go_wp2_with fail
        refine (rmay_val _ _ _ ys _ HB.out true (yes_iff HY.out)).mono ?_
        rintro e w1 ⟨rfl, rfl⟩
        go_wp2_with fail
        go_ret3
        exact ⟨none, 0, 0, [], none, 0, 0, [], 30, rfl, RowAt.nil _, RowAt.nil _, .zero ⟨HX.out, HY.out⟩ HZ.out, Below.refl _ _⟩
      · by_cases h1 : na = 1
        · by_cases h2 : nb = 1
          · exact rqdiv_one ao bo na ca nb cb xs ys w ha hb hx hy hz h1 h2
          · exact rqdiv_b ao bo na ca nb cb xs ys w ha hb hx hy hz h1 h2
        · exact rqdiv_c ao bo na ca nb cb xs ys w ha hb hx hy hz h1
    · have HA : Hid (RowAt w ao na ca xs) := ha
      have HB : Hid (RowAt w bo nb cb ys) := hb
      have HX : Hid (May xs) := hx
      have HY : Hid (¬ May ys) := hy
      clear ha hb hx hy
      go_enter Try.func34, Try.ntmps34
      go_wp2_with fail
      refine (rmay_val _ _ _ xs _ HA.out true (yes_iff HX.out)).mono ?_
      rintro e w1 ⟨rfl, rfl⟩
      go_wp2_with fail
      refine (rmay_val _ _ _ ys _ HB.out false (no_iff HY.out)).mono ?_
      rintro e w1 ⟨rfl, rfl⟩
      go_wp2_with fail
      go_ret3
      exact ⟨none, 0, 0, [], none, 0, 0, [], 1, rfl, RowAt.nil _, RowAt.nil _, .arg (fun h => HY.out h.2), Below.refl _ _⟩
  · have HA : Hid (RowAt w ao na ca xs) := ha
    have HX : Hid (¬ May xs) := hx
    clear ha hb hx
    go_enter Try.func34, Try.ntmps34
    go_wp2_with fail
    refine (rmay_val _ _ _ xs _ HA.out false (no_iff HX.out)).mono ?_
    rintro e w1 ⟨rfl, rfl⟩
    go_wp2_with fail
    go_ret3
    exact ⟨none, 0, 0, [], none, 0, 0, [], 1, rfl, RowAt.nil _, RowAt.nil _, .arg (fun h => HX.out h.1), Below.refl _ _⟩

end Go.Proofs.Ytnkjfandknndkaa
