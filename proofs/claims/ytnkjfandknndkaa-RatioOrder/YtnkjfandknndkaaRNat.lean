/-
  The reference's Add, Sub, Mul of layer 2.
-/
import Derived.Test.YtnkjfandknndkaaNatBase
import Derived.Test.YtnkjfandknndkaaRMul
import Derived.Test.YtnkjfandknndkaaRAdd
namespace Go.Proofs.Ytnkjfandknndkaa
open Go.RowKit

set_option maxHeartbeats 1000000 in
theorem rnmul_any (ao bo : Option Addr) (na ca nb cb : Nat) (xs ys : List Int) (w : World) (ha : RowAt w ao na ca xs) (hb : RowAt w bo nb cb ys) :
    Calls Try.prog 64 #[.slice ao na ca, .slice bo nb cb] w fun e w' => ∃ ro m cap r k, e = .returned (.tuple #[.slice ro m cap, .int .i64 k]) ∧ RowAt w' ro m cap r ∧ Out (May xs ∧ May ys) (False) (val xs * val ys) r k ∧ Below w.heap.size w w' := by
  have HA : Hid _ := ha
  have HB : Hid _ := hb
  have la := ha.len
  have lb := hb.len
  clear ha hb
  by_cases hx : May xs
  · have hna : na ≤ 8 := by have := hx.1; omega
    have HX : Hid (May xs) := hx
    clear hx
    by_cases hy : May ys
    · have hnb : nb ≤ 8 := by have := hy.1; omega
      have HY : Hid (May ys) := hy
      clear hy la lb
      go_enter Try.func64, Try.ntmps64
      go_wp2_with fail
      refine (rmay_val _ _ _ xs _ HA.out true (yes_iff HX.out)).mono ?_
      rintro e w1 ⟨rfl, rfl⟩
      go_wp2_with fail
      refine (rmay_val _ _ _ ys _ HB.out true (yes_iff HY.out)).mono ?_
      rintro e w1 ⟨rfl, rfl⟩
      go_wp2_with fail
      refine (rmul_any _ _ _ _ _ _ xs ys _ HA.out HB.out (by omega) (by omega)).mono ?_
      rintro e w1 ⟨ro, m, cap, r, rfl, h1, h2, h3⟩
      have H1 : Hid _ := h1
      have H2 : Hid (Num r (val xs * val ys)) := h2
      have H3 : Hid _ := h3
      clear h1 h2 h3
      go_wp2_with fail
      refine (held_any _ _ _ r _ _ H1.out H2.out (May xs ∧ May ys) ⟨HX.out, HY.out⟩).mono ?_
      rintro e w2 ⟨⟨ro, m, cap, s, k, rfl, g1, g2⟩, rfl⟩
      have G1 : Hid _ := g1
      have G2 : Hid (Out (May xs ∧ May ys) False (val xs * val ys) s k) := g2
      clear g1 g2
      go_wp2
      go_ret2
      exact ⟨ro, m, cap, s, k, rfl, G1.out, G2.out, H3.out⟩
    · have HY : Hid (¬ May ys) := hy
      clear hy la lb
      go_enter Try.func64, Try.ntmps64
      go_wp2_with fail
      refine (rmay_val _ _ _ xs _ HA.out true (yes_iff HX.out)).mono ?_
      rintro e w1 ⟨rfl, rfl⟩
      go_wp2_with fail
      refine (rmay_val _ _ _ ys _ HB.out false (no_iff HY.out)).mono ?_
      rintro e w1 ⟨rfl, rfl⟩
      go_wp2
      go_ret2
      exact ⟨none, 0, 0, [], 1, rfl, RowAt.nil _, .arg (fun h => HY.out h.2), Below.refl _ _⟩
  · have HX : Hid (¬ May xs) := hx
    clear hx la lb
    go_enter Try.func64, Try.ntmps64
    go_wp2_with fail
    refine (rmay_val _ _ _ xs _ HA.out false (no_iff HX.out)).mono ?_
    rintro e w1 ⟨rfl, rfl⟩
    go_wp2
    go_ret2
    exact ⟨none, 0, 0, [], 1, rfl, RowAt.nil _, .arg (fun h => HX.out h.1), Below.refl _ _⟩

end Go.Proofs.Ytnkjfandknndkaa
