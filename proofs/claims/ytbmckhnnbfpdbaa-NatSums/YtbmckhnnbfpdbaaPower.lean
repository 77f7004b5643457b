/-
  nat.Power: a, multiplied n times with 1.
-/
import Derived.Test.YtbmckhnnbfpdbaaPowMath
import Derived.Test.YtbmckhnnbfpdbaaNatOps
namespace Go.Proofs.Ytbmckhnnbfpdbaa
open Go.RowKit

/-- What Power tells. -/
def PowOut (xs : List Int) (n : Int) (r : List Int) (k : Int) : Prop := Out (May xs ∧ 0 ≤ n) False (val xs ^ n.toNat) r k

theorem PowOut.one {xs r s : List Int} {n k l : Int} (h : PowOut xs n r k) (h' : PowOut xs n s l) : r = s ∧ k = l := Out.one h h'
theorem PowOut.is_fine {p r : List Int} {A n k : Int} (h : PowOut p n r k) (hp : Num p A) (hA : A < Big) (hn : 0 ≤ n) (hl : A ^ n.toNat < Big) : k = 0 ∧ Num r (A ^ n.toNat) := by
  have h' : Out (May p ∧ 0 ≤ n) False (A ^ n.toNat) r k := by rw [← hp.val]; exact h
  exact h'.ok_num ⟨hp.may.2 hA, hn⟩ (fun f => f) hl
theorem PowOut.is_over {p r : List Int} {A n k : Int} (h : PowOut p n r k) (hp : Num p A) (hA : A < Big) (hn : 0 ≤ n) (hl : Big ≤ A ^ n.toNat) : k = 21 ∧ r = [] := by
  have h' : Out (May p ∧ 0 ≤ n) False (A ^ n.toNat) r k := by rw [← hp.val]; exact h
  exact h'.is_big ⟨hp.may.2 hA, hn⟩ (fun f => f) hl

theorem PowOut.ok {xs r : List Int} {n q : Nat} (hm : May xs) (hN : val xs ^ q = val xs ^ n) (hl : val xs ^ q < Big) (hr : Num r (val xs ^ q)) : PowOut xs (n : Int) r 0 := by
  rw [hN] at hl hr
  exact .fine r ⟨hm, by omega⟩ (fun f => f) (by rw [Int.toNat_natCast]; exact hl) (by rw [Int.toNat_natCast]; exact hr)
theorem PowOut.over {xs : List Int} {n N q : Nat} (hl : Limbs xs) (hm : May xs) (hN : val xs ^ N = val xs ^ n) (hq : q ≤ N) (hb : Big ≤ val xs ^ q) : PowOut xs (n : Int) [] 21 := by
  have := pow_big (val_bd hl).1 hq hb
  rw [hN] at this
  exact .big ⟨hm, by omega⟩ (fun f => f) (by rw [Int.toNat_natCast]; exact this)

set_option maxHeartbeats 2000000 in
theorem power_any (ao : Option Addr) (na ca : Nat) (xs : List Int) (n : Int) (w : World) (ha : RowAt w ao na ca xs) (hn0 : -9223372036854775808 ≤ n) (hn1 : n ≤ 9223372036854775807) :
    Calls Try.prog 23 #[.slice ao na ca, .int .i64 n] w fun e w' => ∃ ro m cap r k, e = .returned (.tuple #[.slice ro m cap, .int .i64 k]) ∧ RowAt w' ro m cap r ∧ PowOut xs n r k ∧ Below w.heap.size w w' := by
  have HA : Hid (RowAt w ao na ca xs) := ha
  have la := ha.len
  clear ha
  by_cases hx : May xs
  · have hna : na ≤ 8 := by have := hx.1; omega
    have HM : Hid (May xs) := hx
    clear hx la
    by_cases hneg : n < 0
    · go_enter Try.func23, Try.ntmps23
      go_wp2_with fail
      refine (may_val _ _ _ xs _ HA.out true (yes_iff HM.out)).mono ?_
      rintro e w1 ⟨rfl, rfl⟩
      go_wp2
      go_ret2
      exact ⟨none, 0, 0, [], 1, rfl, RowAt.nil _, .arg (fun h => by have := h.2; omega), Below.refl _ _⟩
    · obtain ⟨n, rfl⟩ := Int.eq_ofNat_of_zero_le (by omega : 0 ≤ n)
      obtain ⟨bv, hbv⟩ : ∃ b, b = bitsI (val xs) := ⟨_, rfl⟩
      have hlow := bits_low (val_bd HA.out.limbs).1
      rw [← hbv] at hlow
      have HBV : Hid (bv = bitsI (val xs)) := hbv
      clear hbv
      by_cases hb1 : bv ≤ 1
      · have HV1 : Hid (val xs ≤ 1) := hlow.1 hb1
        clear hlow
        by_cases hn2 : n = 0
        · subst hn2
          clear HV1
          go_enter Try.func23, Try.ntmps23
          go_wp2_with fail
          refine (may_val _ _ _ xs _ HA.out true (yes_iff HM.out)).mono ?_
          rintro e w1 ⟨rfl, rfl⟩
          go_wp2_with fail
          refine (bits_any _ _ _ xs _ HA.out (by omega) bv HBV.out).mono ?_
          rintro e w1 ⟨rfl, b0⟩
          have A0 : Hid (Below w.heap.size w w1) := b0
          clear b0
          go_wp2_with fail
          refine (of_any 1 _ (by omega) (by unfold BB; omega)).mono ?_
          rintro e w2 ⟨po, pm, pc, p, rfl, hp, np, -, b1⟩
          have P1 : Hid (RowAt w2 po pm pc p) := hp
          have NP : Hid (Num p 1) := np
          have A1 : Hid (Below w.heap.size w w2) := chain A0.out b1
          clear hp np b1 A0
          go_wp2_with fail
          go_loopw [6, 7, 22] (fun p _ i wr => ∃ (q : Nat) (ro : Option Addr) (m cap : Nat) (r : List Int), q ≤ 0 ∧ i = .int .i64 q ∧ p = .slice ro m cap ∧ RowAt wr ro m cap r ∧ Num r (val xs ^ q) ∧ val xs ^ q < Big ∧ Below w.heap.size w wr) (fun _ _ i _ => 0 - (intOf i).toNat)
          case atStart => exact ⟨0, po, pm, pc, p, Nat.zero_le _, rfl, rfl, P1.out, by simpa using NP.out, by have := Big_one; simpa using this, A1.out⟩
          case round =>
            obtain ⟨q, ro, m, cap, r, hq, rfl, rfl, hr, hnum, hlt, hbel⟩ := hrel
            have XR : Hid (RowAt wr ro m cap r) := hr
            have HNum : Hid (Num r (val xs ^ q)) := hnum
            have HLt : Hid (val xs ^ q < Big) := hlt
            have HBel : Hid (Below w.heap.size w wr) := hbel
            clear hr hnum hlt hbel
            obtain rfl : q = 0 := by omega
            go_wp2
            go_ret2
            exact ⟨ro, m, cap, r, 0, rfl, XR.out, PowOut.ok HM.out rfl HLt.out HNum.out, HBel.out⟩
        · have hpow : val xs ^ 1 = val xs ^ n := by rw [pow_low (val_bd HA.out.limbs).1 HV1.out (show 1 ≤ n by omega), Int.pow_succ, Int.pow_zero, Int.one_mul]
          have HN : Hid (∀ u : Unit, val xs ^ 1 = val xs ^ n) := fun _ => hpow
          clear HV1 hpow
          by_cases hn3 : n = 1
          · subst hn3
            go_enter Try.func23, Try.ntmps23
            go_wp2_with fail
            refine (may_val _ _ _ xs _ HA.out true (yes_iff HM.out)).mono ?_
            rintro e w1 ⟨rfl, rfl⟩
            go_wp2_with fail
            refine (bits_any _ _ _ xs _ HA.out (by omega) bv HBV.out).mono ?_
            rintro e w1 ⟨rfl, b0⟩
            have A0 : Hid (Below w.heap.size w w1) := b0
            clear b0
            go_wp2_with fail
            refine (of_any 1 _ (by omega) (by unfold BB; omega)).mono ?_
            rintro e w2 ⟨po, pm, pc, p, rfl, hp, np, -, b1⟩
            have P1 : Hid (RowAt w2 po pm pc p) := hp
            have NP : Hid (Num p 1) := np
            have A1 : Hid (Below w.heap.size w w2) := chain A0.out b1
            clear hp np b1 A0
            go_wp2_with fail
            go_loopw [6, 7, 22] (fun p _ i wr => ∃ (q : Nat) (ro : Option Addr) (m cap : Nat) (r : List Int), q ≤ 1 ∧ i = .int .i64 q ∧ p = .slice ro m cap ∧ RowAt wr ro m cap r ∧ Num r (val xs ^ q) ∧ val xs ^ q < Big ∧ Below w.heap.size w wr) (fun _ _ i _ => 1 - (intOf i).toNat)
            case atStart => exact ⟨0, po, pm, pc, p, Nat.zero_le _, rfl, rfl, P1.out, by simpa using NP.out, by have := Big_one; simpa using this, A1.out⟩
            case round =>
              obtain ⟨q, ro, m, cap, r, hq, rfl, rfl, hr, hnum, hlt, hbel⟩ := hrel
              have XR : Hid (RowAt wr ro m cap r) := hr
              have HNum : Hid (Num r (val xs ^ q)) := hnum
              have HLt : Hid (val xs ^ q < Big) := hlt
              have HBel : Hid (Below w.heap.size w wr) := hbel
              clear hr hnum hlt hbel
              by_cases hq2 : q < 1
              · have hq3 : (q : Int) < ((1 : Nat) : Int) := by omega
                go_wp2_with fail
                refine (nmul_any _ _ _ _ _ _ r xs _ XR.out (HA.out.below HBel.out)).mono ?_
                rintro e w3 ⟨so, sm, sc, s, k, rfl, hs, ho, b3⟩
                have A3 : Hid (Below w.heap.size w w3) := chain HBel.out b3
                have XS : Hid (RowAt w3 so sm sc s) := hs
                have HO : Hid (Out (May r ∧ May xs) False (val xs ^ (q + 1)) s k) := by
                  rw [HNum.out.val, ← Int.pow_succ] at ho
                  exact ho
                clear hs ho b3
                rcases Int.lt_or_le (val xs ^ (q + 1)) Big with hb | hb
                · obtain ⟨hk, hn⟩ := HO.out.ok_num ⟨HNum.out.may.2 HLt.out, HM.out⟩ (fun f => f) hb
                  have HB : Hid (val xs ^ (q + 1) < Big) := hb
                  have HS : Hid (Num s (val xs ^ (q + 1))) := hn
                  subst hk
                  clear hb hn HO HBel HNum HLt XR
                  go_wp2
                  go_roundw
                  case rel => exact ⟨q + 1, so, sm, sc, s, by omega, by go_num, rfl, XS.out, HS.out, HB.out, A3.out⟩
                  case measure => simp [intOf]; omega
                · obtain ⟨hk, hn⟩ := HO.out.is_big ⟨HNum.out.may.2 HLt.out, HM.out⟩ (fun f => f) hb
                  have HB : Hid (Big ≤ val xs ^ (q + 1)) := hb
                  subst hk
                  clear hb hn HO HBel HNum HLt XR XS
                  go_wp2
                  go_ret2
                  exact ⟨none, 0, 0, [], 21, rfl, RowAt.nil _, PowOut.over HA.out.limbs HM.out rfl (show q + 1 ≤ 1 by omega) HB.out, A3.out⟩
              · have hq3 : ¬ (q : Int) < ((1 : Nat) : Int) := by omega
                obtain rfl : q = 1 := by omega
                go_wp2
                go_ret2
                exact ⟨ro, m, cap, r, 0, rfl, XR.out, PowOut.ok HM.out rfl HLt.out HNum.out, HBel.out⟩
          · have hn4 : (1 : Int) < (n : Int) := by omega
            have hn5 : ¬ (n : Int) < 1 := by omega
            have hn6 : ¬ (n : Int) ≤ 1 := by omega
            go_enter Try.func23, Try.ntmps23
            go_wp2_with fail
            refine (may_val _ _ _ xs _ HA.out true (yes_iff HM.out)).mono ?_
            rintro e w1 ⟨rfl, rfl⟩
            go_wp2_with fail
            refine (bits_any _ _ _ xs _ HA.out (by omega) bv HBV.out).mono ?_
            rintro e w1 ⟨rfl, b0⟩
            have A0 : Hid (Below w.heap.size w w1) := b0
            clear b0
            go_wp2_with fail
            refine (of_any 1 _ (by omega) (by unfold BB; omega)).mono ?_
            rintro e w2 ⟨po, pm, pc, p, rfl, hp, np, -, b1⟩
            have P1 : Hid (RowAt w2 po pm pc p) := hp
            have NP : Hid (Num p 1) := np
            have A1 : Hid (Below w.heap.size w w2) := chain A0.out b1
            clear hp np b1 A0
            go_wp2_with fail
            go_loopw [6, 7, 22] (fun p _ i wr => ∃ (q : Nat) (ro : Option Addr) (m cap : Nat) (r : List Int), q ≤ 1 ∧ i = .int .i64 q ∧ p = .slice ro m cap ∧ RowAt wr ro m cap r ∧ Num r (val xs ^ q) ∧ val xs ^ q < Big ∧ Below w.heap.size w wr) (fun _ _ i _ => 1 - (intOf i).toNat)
            case atStart => exact ⟨0, po, pm, pc, p, Nat.zero_le _, rfl, rfl, P1.out, by simpa using NP.out, by have := Big_one; simpa using this, A1.out⟩
            case round =>
              obtain ⟨q, ro, m, cap, r, hq, rfl, rfl, hr, hnum, hlt, hbel⟩ := hrel
              have XR : Hid (RowAt wr ro m cap r) := hr
              have HNum : Hid (Num r (val xs ^ q)) := hnum
              have HLt : Hid (val xs ^ q < Big) := hlt
              have HBel : Hid (Below w.heap.size w wr) := hbel
              clear hr hnum hlt hbel
              by_cases hq2 : q < 1
              · have hq3 : (q : Int) < ((1 : Nat) : Int) := by omega
                go_wp2_with fail
                refine (nmul_any _ _ _ _ _ _ r xs _ XR.out (HA.out.below HBel.out)).mono ?_
                rintro e w3 ⟨so, sm, sc, s, k, rfl, hs, ho, b3⟩
                have A3 : Hid (Below w.heap.size w w3) := chain HBel.out b3
                have XS : Hid (RowAt w3 so sm sc s) := hs
                have HO : Hid (Out (May r ∧ May xs) False (val xs ^ (q + 1)) s k) := by
                  rw [HNum.out.val, ← Int.pow_succ] at ho
                  exact ho
                clear hs ho b3
                rcases Int.lt_or_le (val xs ^ (q + 1)) Big with hb | hb
                · obtain ⟨hk, hn⟩ := HO.out.ok_num ⟨HNum.out.may.2 HLt.out, HM.out⟩ (fun f => f) hb
                  have HB : Hid (val xs ^ (q + 1) < Big) := hb
                  have HS : Hid (Num s (val xs ^ (q + 1))) := hn
                  subst hk
                  clear hb hn HO HBel HNum HLt XR
                  go_wp2
                  go_roundw
                  case rel => exact ⟨q + 1, so, sm, sc, s, by omega, by go_num, rfl, XS.out, HS.out, HB.out, A3.out⟩
                  case measure => simp [intOf]; omega
                · obtain ⟨hk, hn⟩ := HO.out.is_big ⟨HNum.out.may.2 HLt.out, HM.out⟩ (fun f => f) hb
                  have HB : Hid (Big ≤ val xs ^ (q + 1)) := hb
                  subst hk
                  clear hb hn HO HBel HNum HLt XR XS
                  go_wp2
                  go_ret2
                  exact ⟨none, 0, 0, [], 21, rfl, RowAt.nil _, PowOut.over HA.out.limbs HM.out (HN.out ()) (by omega) HB.out, A3.out⟩
              · have hq3 : ¬ (q : Int) < ((1 : Nat) : Int) := by omega
                obtain rfl : q = 1 := by omega
                go_wp2
                go_ret2
                exact ⟨ro, m, cap, r, 0, rfl, XR.out, PowOut.ok HM.out (HN.out ()) HLt.out HNum.out, HBel.out⟩
      · clear hlow
        go_enter Try.func23, Try.ntmps23
        go_wp2_with fail
        refine (may_val _ _ _ xs _ HA.out true (yes_iff HM.out)).mono ?_
        rintro e w1 ⟨rfl, rfl⟩
        go_wp2_with fail
        refine (bits_any _ _ _ xs _ HA.out (by omega) bv HBV.out).mono ?_
        rintro e w1 ⟨rfl, b0⟩
        have A0 : Hid (Below w.heap.size w w1) := b0
        clear b0
        go_wp2_with fail
        refine (of_any 1 _ (by omega) (by unfold BB; omega)).mono ?_
        rintro e w2 ⟨po, pm, pc, p, rfl, hp, np, -, b1⟩
        have P1 : Hid (RowAt w2 po pm pc p) := hp
        have NP : Hid (Num p 1) := np
        have A1 : Hid (Below w.heap.size w w2) := chain A0.out b1
        clear hp np b1 A0
        go_wp2_with fail
        go_loopw [6, 7, 22] (fun p _ i wr => ∃ (q : Nat) (ro : Option Addr) (m cap : Nat) (r : List Int), q ≤ n ∧ i = .int .i64 q ∧ p = .slice ro m cap ∧ RowAt wr ro m cap r ∧ Num r (val xs ^ q) ∧ val xs ^ q < Big ∧ Below w.heap.size w wr) (fun _ _ i _ => n - (intOf i).toNat)
        case atStart => exact ⟨0, po, pm, pc, p, Nat.zero_le _, rfl, rfl, P1.out, by simpa using NP.out, by have := Big_one; simpa using this, A1.out⟩
        case round =>
          obtain ⟨q, ro, m, cap, r, hq, rfl, rfl, hr, hnum, hlt, hbel⟩ := hrel
          have XR : Hid (RowAt wr ro m cap r) := hr
          have HNum : Hid (Num r (val xs ^ q)) := hnum
          have HLt : Hid (val xs ^ q < Big) := hlt
          have HBel : Hid (Below w.heap.size w wr) := hbel
          clear hr hnum hlt hbel
          by_cases hq2 : q < n
          · have hq3 : (q : Int) < ((n : Nat) : Int) := by omega
            go_wp2_with fail
            refine (nmul_any _ _ _ _ _ _ r xs _ XR.out (HA.out.below HBel.out)).mono ?_
            rintro e w3 ⟨so, sm, sc, s, k, rfl, hs, ho, b3⟩
            have A3 : Hid (Below w.heap.size w w3) := chain HBel.out b3
            have XS : Hid (RowAt w3 so sm sc s) := hs
            have HO : Hid (Out (May r ∧ May xs) False (val xs ^ (q + 1)) s k) := by
              rw [HNum.out.val, ← Int.pow_succ] at ho
              exact ho
            clear hs ho b3
            rcases Int.lt_or_le (val xs ^ (q + 1)) Big with hb | hb
            · obtain ⟨hk, hn⟩ := HO.out.ok_num ⟨HNum.out.may.2 HLt.out, HM.out⟩ (fun f => f) hb
              have HB : Hid (val xs ^ (q + 1) < Big) := hb
              have HS : Hid (Num s (val xs ^ (q + 1))) := hn
              subst hk
              clear hb hn HO HBel HNum HLt XR
              go_wp2
              go_roundw
              case rel => exact ⟨q + 1, so, sm, sc, s, by omega, by go_num, rfl, XS.out, HS.out, HB.out, A3.out⟩
              case measure => simp [intOf]; omega
            · obtain ⟨hk, hn⟩ := HO.out.is_big ⟨HNum.out.may.2 HLt.out, HM.out⟩ (fun f => f) hb
              have HB : Hid (Big ≤ val xs ^ (q + 1)) := hb
              subst hk
              clear hb hn HO HBel HNum HLt XR XS
              go_wp2
              go_ret2
              exact ⟨none, 0, 0, [], 21, rfl, RowAt.nil _, PowOut.over HA.out.limbs HM.out rfl (by omega) HB.out, A3.out⟩
          · have hq3 : ¬ (q : Int) < ((n : Nat) : Int) := by omega
            obtain rfl : q = n := by omega
            go_wp2
            go_ret2
            exact ⟨ro, m, cap, r, 0, rfl, XR.out, PowOut.ok HM.out rfl HLt.out HNum.out, HBel.out⟩
  · have HM : Hid (¬ May xs) := hx
    clear hx la
    go_enter Try.func23, Try.ntmps23
    go_wp2_with fail
    refine (may_val _ _ _ xs _ HA.out false (no_iff HM.out)).mono ?_
    rintro e w1 ⟨rfl, rfl⟩
    go_wp2
    go_ret2
    exact ⟨none, 0, 0, [], 1, rfl, RowAt.nil _, .arg (fun h => HM.out h.1), Below.refl _ _⟩

end Go.Proofs.Ytbmckhnnbfpdbaa
