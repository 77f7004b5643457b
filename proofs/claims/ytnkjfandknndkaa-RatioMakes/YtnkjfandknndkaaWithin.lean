/-
  nat.within: it looks at both, and at what comes of it.
-/
import Derived.Test.YtnkjfandknndkaaNatBase
namespace Go.Proofs.Ytnkjfandknndkaa
open Go.RowKit

/-- What an operation tells, ahead of any look at its size. -/
def Raw (neg : Prop) (v : Int) (r : List Int) (k : Int) : Prop := (neg ∧ k = 20) ∨ (¬ neg ∧ k = 0 ∧ Num r v)

set_option maxHeartbeats 1000000 in
theorem within_any (ao bo : Option Addr) (na ca nb cb : Nat) (xs ys : List Int) (K : Nat) (caps : Array Value) (neg : Prop) (v : Int) (w : World) (ha : RowAt w ao na ca xs) (hb : RowAt w bo nb cb ys)
    (heg : ∀ args w, (callFunc K args).run Try.prog w = .ok (.enter K args) w)
    (hop : May xs → May ys → Calls Try.prog K caps w fun e w' => ∃ ro m cap r k, e = .returned (.tuple #[.slice ro m cap, .int .i64 k]) ∧ RowAt w' ro m cap r ∧ Below w.heap.size w w' ∧ Raw neg v r k) :
    Calls Try.prog 68 #[.slice ao na ca, .slice bo nb cb, .func (.func K) #[] caps] w fun e w' => ∃ ro m cap r k, e = .returned (.tuple #[.slice ro m cap, .int .i64 k]) ∧ RowAt w' ro m cap r ∧ Out (May xs ∧ May ys) neg v r k ∧ Below w.heap.size w w' := by
  have HA : Hid _ := ha
  have HB : Hid _ := hb
  have HO : Hid _ := hop
  clear ha hb hop
  by_cases hx : May xs
  · have HX : Hid _ := hx
    clear hx
    by_cases hy : May ys
    · have HY : Hid _ := hy
      clear hy
      go_enter Try.func68, Try.ntmps68
      go_wp2_with fail
      refine (may_val _ _ _ xs _ HA.out true (yes_iff HX.out)).mono ?_
      rintro e w1 ⟨rfl, rfl⟩
      go_wp2_with fail
      refine (may_val _ _ _ ys _ HB.out true (yes_iff HY.out)).mono ?_
      rintro e w1 ⟨rfl, rfl⟩
      go_wp2_with fail
      refine (HO.out HX.out HY.out).mono ?_
      rintro e w1 ⟨ro, m, cap, r, k, rfl, h1, h2, h3⟩
      have H1 : Hid _ := h1
      have H2 : Hid _ := h2
      have H3 : Hid (Raw neg v r k) := h3
      clear h1 h2 h3
      rcases H3.out with ⟨hneg, hk⟩ | ⟨hneg, hk, hnum⟩
      · have HN : Hid neg := hneg
        clear hneg
        subst hk
        go_wp2
        go_ret2
        exact ⟨none, 0, 0, [], 20, rfl, RowAt.nil _, .minus ⟨HX.out, HY.out⟩ HN.out, H2.out⟩
      · have HN : Hid (¬ neg) := hneg
        have HU : Hid _ := hnum
        clear hneg hnum
        subst hk
        by_cases hbig : v < Big
        · have HG : Hid _ := hbig
          clear hbig
          go_wp2_with fail
          refine (may_val _ _ _ r _ H1.out true (yes_iff (HU.out.may.2 HG.out))).mono ?_
          rintro e w1 ⟨rfl, rfl⟩
          go_wp2
          go_ret2
          exact ⟨ro, m, cap, r, 0, rfl, H1.out, .fine r ⟨HX.out, HY.out⟩ HN.out HG.out HU.out, H2.out⟩
        · have HG : Hid _ := hbig
          clear hbig
          go_wp2_with fail
          refine (may_val _ _ _ r _ H1.out false (no_iff (fun h => HG.out (HU.out.may.1 h)))).mono ?_
          rintro e w1 ⟨rfl, rfl⟩
          go_wp2
          go_ret2
          exact ⟨none, 0, 0, [], 21, rfl, RowAt.nil _, .big ⟨HX.out, HY.out⟩ HN.out (Int.not_lt.1 HG.out), H2.out⟩
    · have HY : Hid _ := hy
      clear hy
      go_enter Try.func68, Try.ntmps68
      go_wp2_with fail
      refine (may_val _ _ _ xs _ HA.out true (yes_iff HX.out)).mono ?_
      rintro e w1 ⟨rfl, rfl⟩
      go_wp2_with fail
      refine (may_val _ _ _ ys _ HB.out false (no_iff HY.out)).mono ?_
      rintro e w1 ⟨rfl, rfl⟩
      go_wp2
      go_ret2
      exact ⟨none, 0, 0, [], 1, rfl, RowAt.nil _, .arg (fun h => HY.out h.2), Below.refl _ _⟩
  · have HX : Hid _ := hx
    clear hx
    go_enter Try.func68, Try.ntmps68
    go_wp2_with fail
    refine (may_val _ _ _ xs _ HA.out false (no_iff HX.out)).mono ?_
    rintro e w1 ⟨rfl, rfl⟩
    go_wp2
    go_ret2
    exact ⟨none, 0, 0, [], 1, rfl, RowAt.nil _, .arg (fun h => HX.out h.1), Below.refl _ _⟩

end Go.Proofs.Ytnkjfandknndkaa
