/-
  The reference's Small, Gcd and Lcm of layer 3; the statements' held and shown.
-/
import Derived.Test.YtnkjfandknndkaaRDiv
import Derived.Test.YtnkjfandknndkaaRNat
namespace Go.Proofs.Ytnkjfandknndkaa
open Go.RowKit

set_option maxRecDepth 100000 in
set_option maxHeartbeats 2000000 in
theorem rqgcd_any (ao bo : Option Addr) (na ca nb cb : Nat) (xs ys : List Int) (w : World) (ha : RowAt w ao na ca xs) (hb : RowAt w bo nb cb ys) :
    Calls Try.prog 33 #[.slice ao na ca, .slice bo nb cb] w fun e w' => ∃ ro m cap r k, e = .returned (.tuple #[.slice ro m cap, .int .i64 k]) ∧ RowAt w' ro m cap r ∧ Out (May xs ∧ May ys) False (gcdI (val xs) (val ys)) r k ∧ Below w.heap.size w w' := by
  have HA : Hid (RowAt w ao na ca xs) := ha
  have HB : Hid (RowAt w bo nb cb ys) := hb
  have la := ha.len
  have lb := hb.len
  clear ha hb
  by_cases hx : May xs
  · have HX : Hid (May xs) := hx
    clear hx
    by_cases hy : May ys
    · have HY : Hid (May ys) := hy
      clear hy la lb
      obtain ⟨g, hg⟩ : ∃ g, gcdI (val xs) (val ys) = g := ⟨_, rfl⟩
      rw [hg]
      have hgB : g < Big := by rw [← hg]; exact gcdI_lt (val_bd HA.out.limbs).1 (val_bd HB.out.limbs).1 (HX.out.lt HA.out.limbs) (HY.out.lt HB.out.limbs)
      have HGB : Hid (g < Big) := hgB
      have H0 : Hid (RowAt w ao na ca xs ∧ RowAt w bo nb cb ys ∧ May xs ∧ May ys ∧ gcdI (val xs) (val ys) = g ∧ Below w.heap.size w w) := ⟨HA.out, HB.out, HX.out, HY.out, hg, Below.refl _ _⟩
      clear hg hgB
      go_enter Try.func33, Try.ntmps33
      go_wp2_with fail
      refine (rmay_val _ _ _ xs _ HA.out true (yes_iff HX.out)).mono ?_
      rintro e w1 ⟨rfl, rfl⟩
      go_wp2_with fail
      refine (rmay_val _ _ _ ys _ HB.out true (yes_iff HY.out)).mono ?_
      rintro e w1 ⟨rfl, rfl⟩
      go_wp2_with fail
      obtain ⟨P, hP⟩ : ∃ P : Prop, P = (May xs ∧ May ys) := ⟨_, rfl⟩
      have HP : Hid P := by rw [hP]; exact ⟨HX.out, HY.out⟩
      have HPE : Hid (P = (May xs ∧ May ys)) := hP
      clear hP HX HY HA HB
      go_loopg [0, 1] ((val ys).toNat) (fun k s0 s1 wr => ∃ (ao bo : Option Addr) (na ca nb cb : Nat) (xs ys : List Int), s0 = .slice ao na ca ∧ s1 = .slice bo nb cb ∧ (val ys).toNat ≤ k ∧ (RowAt wr ao na ca xs ∧ RowAt wr bo nb cb ys ∧ May xs ∧ May ys ∧ gcdI (val xs) (val ys) = g ∧ Below w.heap.size w wr))
      case atStart => exact ⟨ao, bo, na, ca, nb, cb, xs, ys, rfl, rfl, Nat.le_refl _, H0.out⟩
      case round =>
        clear H0
        obtain ⟨co, do_, nc, cc, nd, cd, us, vs, rfl, rfl, hk, ha, hb, hx, hy, hg, hbel⟩ := hrel
        have HA : Hid (RowAt wr co nc cc us) := ha
        have HB : Hid (RowAt wr do_ nd cd vs) := hb
        have HX : Hid (May us) := hx
        have HY : Hid (May vs) := hy
        have HG : Hid (gcdI (val us) (val vs) = g) := hg
        have HBL : Hid (Below w.heap.size w wr) := hbel
        have hu0 := (val_bd ha.limbs).1
        have hv0 := (val_bd hb.limbs).1
        have lv := val_zero hb.limbs hy hb.len
        have HK : Hid ((val vs).toNat ≤ gk) := hk
        have HUV : Hid (0 ≤ val us ∧ 0 ≤ val vs) := ⟨hu0, hv0⟩
        have hnd8 : nd ≤ 8 := by have := hy.1; have := hb.len; omega
        clear ha hb hx hy hg hbel hk hu0 hv0
        by_cases hz : nd = 0
        · have HE : Hid (val us = g) := by
            have h := HG.out
            rw [lv.1 hz, gcdI_zero HUV.out.1] at h
            exact h
          subst hz
          clear lv
          go_wp2_with fail
          go_ret2
          refine ⟨co, nc, cc, us, 0, rfl, HA.out, ?_, HBL.out⟩
          rw [← HPE.out]
          exact .fine us HP.out (fun f => f) HGB.out (by rw [← HE.out]; exact num_self HA.out.limbs HX.out)
        · have HVP : Hid (0 < val vs) := by
            have h := HUV.out.2
            have : val vs ≠ 0 := fun e => hz (lv.2 e)
            show 0 < val vs
            omega
          have hdp : (0 : Int) < (nd : Int) := by omega
          clear lv
          go_wp2_with fail
          refine (rqdiv_any _ _ _ _ _ _ us vs _ HA.out HB.out).mono ?_
          rintro e w2 ⟨qo, qn, qc, q, ro, rn, rc, r, k, rfl, f1, f2, f3, f4⟩
          have f5 := f3.is_fine ⟨HX.out, HY.out⟩ (by have := HVP.out; omega)
          have F2 : Hid (RowAt w2 ro rn rc r) := f2
          have hm0 := Int.emod_nonneg (val us) (show val vs ≠ 0 by have := HVP.out; omega)
          have hm1 := Int.emod_lt_of_pos (val us) HVP.out
          have F5 : Hid (Num r (val us % val vs)) := f5.2.2
          have F6 : Hid (May r) := f5.2.2.may.2 (by have := HY.out.lt HB.out.limbs; omega)
          have F4 : Hid (Below wr.heap.size wr w2) := f4
          have FJ : Hid (gcdI (val vs) (val r) = g) := by
            show gcdI (val vs) (val r) = g
            rw [f5.2.2.val, ← gcdI_step HUV.out.1 HUV.out.2]; exact HG.out
          have FM : Hid ((val r).toNat < gk) := by
            have := HK.out
            have := HVP.out
            show (val r).toNat < gk
            rw [f5.2.2.val]
            omega
          clear f1 f2 f3 f4 f5 hm0 hm1
          go_wp2_with fail
          go_roundg ((val r).toNat)
          case measure => exact FM.out
          case rel => exact ⟨do_, ro, nd, cd, rn, rc, vs, r, rfl, rfl, Nat.le_refl _, HB.out.below F4.out, F2.out, HY.out, F6.out, FJ.out, HBL.out.trans (F4.out.mono HBL.out.size)⟩
    · have HY : Hid (¬ May ys) := hy
      clear hy la lb
      go_enter Try.func33, Try.ntmps33
      go_wp2_with fail
      refine (rmay_val _ _ _ xs _ HA.out true (yes_iff HX.out)).mono ?_
      rintro e w1 ⟨rfl, rfl⟩
      go_wp2_with fail
      refine (rmay_val _ _ _ ys _ HB.out false (no_iff HY.out)).mono ?_
      rintro e w1 ⟨rfl, rfl⟩
      go_wp2_with fail
      go_ret2
      exact ⟨none, 0, 0, [], 1, rfl, RowAt.nil _, .arg (fun h => HY.out h.2), Below.refl _ _⟩
  · have HX : Hid (¬ May xs) := hx
    clear hx la lb
    go_enter Try.func33, Try.ntmps33
    go_wp2_with fail
    refine (rmay_val _ _ _ xs _ HA.out false (no_iff HX.out)).mono ?_
    rintro e w1 ⟨rfl, rfl⟩
    go_wp2_with fail
    go_ret2
    exact ⟨none, 0, 0, [], 1, rfl, RowAt.nil _, .arg (fun h => HX.out h.1), Below.refl _ _⟩

theorem num1 {x : Int} (h0 : 0 < x) (h1 : x < BB) : Num [x] x := by
  refine ⟨?_, ?_, by simp [val]⟩
  · intro y hy
    simp at hy
    subst hy
    exact ⟨by omega, h1⟩
  · intro n hn
    simp at hn
    subst hn
    simp
    omega

theorem seven {q r : List Int} {k : Int} (h : DivOut [7] [2] q r k) : k = 0 ∧ q = [3] ∧ r = [1] := by
  have hB : BB = 18446744073709551616 := rfl
  have hb := Big_BB
  have n7 : Num [7] 7 := num1 (by omega) (by omega)
  have n2 : Num [2] 2 := num1 (by omega) (by omega)
  have f := h.is_fine ⟨n7.may.2 (by omega), n2.may.2 (by omega)⟩ (by rw [n2.val]; omega)
  rw [n7.val, n2.val] at f
  exact ⟨f.1, f.2.1.one (num1 (by omega) (by omega)), f.2.2.one (num1 (by omega) (by omega))⟩

end Go.Proofs.Ytnkjfandknndkaa
