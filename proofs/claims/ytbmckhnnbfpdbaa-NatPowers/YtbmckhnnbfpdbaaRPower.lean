/-
  The reference's Power.
-/
import Derived.Test.YtbmckhnnbfpdbaaPower
import Derived.Test.YtbmckhnnbfpdbaaRNat
namespace Go.Proofs.Ytbmckhnnbfpdbaa
open Go.RowKit

theorem PowOut.same {xs : List Int} {n : Nat} (hl : Limbs xs) (hm : May xs) (hv : val xs ≤ 1) (hn : 1 ≤ n) : PowOut xs (n : Int) xs 0 := by
  have h := pow_low (val_bd hl).1 hv hn
  have h1 : val xs ^ 1 = val xs := by rw [Int.pow_succ, Int.pow_zero, Int.one_mul]
  exact PowOut.ok (q := 1) hm (h1.trans h.symm) (by rw [h1]; exact hm.lt hl) (by rw [h1]; exact num_self hl hm)

set_option maxHeartbeats 2000000 in
theorem rpower_any (ao : Option Addr) (na ca : Nat) (xs : List Int) (n : Int) (w : World) (ha : RowAt w ao na ca xs) (hn0 : -9223372036854775808 ≤ n) (hn1 : n ≤ 9223372036854775807) :
    Calls Try.prog 24 #[.slice ao na ca, .int .i64 n] w fun e w' => ∃ ro m cap r k, e = .returned (.tuple #[.slice ro m cap, .int .i64 k]) ∧ RowAt w' ro m cap r ∧ PowOut xs n r k ∧ Below w.heap.size w w' := by
  have HA : Hid (RowAt w ao na ca xs) := ha
  have la := ha.len
  have hcells := ha.cells
  clear ha
  by_cases hx : May xs
  · have hna : na ≤ 8 := by have := hx.1; omega
    have HM : Hid (May xs) := hx
    clear hx
    by_cases hneg : n < 0
    · clear hcells la
      go_enter Try.func24, Try.ntmps24
      go_wp2_with fail
      refine (rmay_val _ _ _ xs _ HA.out true (yes_iff HM.out)).mono ?_
      rintro e w1 ⟨rfl, rfl⟩
      go_wp2
      go_ret2
      exact ⟨none, 0, 0, [], 1, rfl, RowAt.nil _, .arg (fun h => by have := h.2; omega), Below.refl _ _⟩
    · obtain ⟨n, rfl⟩ := Int.eq_ofNat_of_zero_le (by omega : 0 ≤ n)
      by_cases h600 : n ≤ 600
      · have h600' : ¬ (600 : Int) < (n : Int) := by omega
        clear hcells la
        go_enter Try.func24, Try.ntmps24
        go_wp2_with fail
        refine (rmay_val _ _ _ xs _ HA.out true (yes_iff HM.out)).mono ?_
        rintro e w1 ⟨rfl, rfl⟩
        go_wp2_with fail
        refine (rof_any 1 _ (by omega) (by unfold BB; omega)).mono ?_
        rintro e w2 ⟨po, pm, pc, p, rfl, hp, np, -, b1⟩
        have P1 : Hid (RowAt w2 po pm pc p) := hp
        have NP : Hid (Num p 1) := np
        have A1 : Hid (Below w.heap.size w w2) := b1
        clear hp np b1
        go_wp2_with fail
        go_loopw [6, 7, 8, 9] (fun p i _ _ wr => ∃ (q : Nat) (ro : Option Addr) (m cap : Nat) (r : List Int), q ≤ n ∧ i = .int .i64 q ∧ p = .slice ro m cap ∧ RowAt wr ro m cap r ∧ Num r (val xs ^ q) ∧ val xs ^ q < Big ∧ Below w.heap.size w wr) (fun _ i _ _ _ => n - (intOf i).toNat)
        case atStart => exact ⟨0, po, pm, pc, p, Nat.zero_le _, rfl, rfl, P1.out, by simpa using NP.out, by have := Big_one; simpa using this, A1.out⟩
        case round =>
          obtain ⟨q, ro, m, cap, r, hq, rfl, rfl, hr, hnum, hlt, hbel⟩ := hrel
          have XR : Hid (RowAt wr ro m cap r) := hr
          have HNum : Hid (Num r (val xs ^ q)) := hnum
          have HLt : Hid (val xs ^ q < Big) := hlt
          have HBel : Hid (Below w.heap.size w wr) := hbel
          clear hr hnum hlt hbel
          by_cases hq2 : q < n
          · have hq3 : (q : Int) < ((n : Nat) : Int) := by omega
            go_wp2_with fail
            refine (rnmul_any _ _ _ _ _ _ r xs _ XR.out (HA.out.below HBel.out)).mono ?_
            rintro e w3 ⟨so, sm, sc, s, k, rfl, hs, ho, b3⟩
            have A3 : Hid (Below w.heap.size w w3) := chain HBel.out b3
            have XS : Hid (RowAt w3 so sm sc s) := hs
            have HO : Hid (Out (May r ∧ May xs) False (val xs ^ (q + 1)) s k) := by
              rw [HNum.out.val, ← Int.pow_succ] at ho
              exact ho
            clear hs ho b3
            rcases Int.lt_or_le (val xs ^ (q + 1)) Big with hb | hb
            · obtain ⟨hk, hn⟩ := HO.out.ok_num ⟨HNum.out.may.2 HLt.out, HM.out⟩ (fun f => f) hb
              have HB : Hid (val xs ^ (q + 1) < Big) := hb
              have HS : Hid (Num s (val xs ^ (q + 1))) := hn
              subst hk
              clear hb hn HO HBel HNum HLt XR
              go_wp2
              go_roundw
              case rel => exact ⟨q + 1, so, sm, sc, s, by omega, by go_num, rfl, XS.out, HS.out, HB.out, A3.out⟩
              case measure => simp [intOf]; omega
            · obtain ⟨hk, hn⟩ := HO.out.is_big ⟨HNum.out.may.2 HLt.out, HM.out⟩ (fun f => f) hb
              have HB : Hid (Big ≤ val xs ^ (q + 1)) := hb
              subst hk
              clear hb hn HO HBel HNum HLt XR XS
              go_wp2
              go_ret2
              exact ⟨none, 0, 0, [], 21, rfl, RowAt.nil _, PowOut.over HA.out.limbs HM.out rfl (by omega) HB.out, A3.out⟩
          · have hq3 : ¬ (q : Int) < ((n : Nat) : Int) := by omega
            obtain rfl : q = n := by omega
            go_wp2
            go_ret2
            exact ⟨ro, m, cap, r, 0, rfl, XR.out, PowOut.ok HM.out rfl HLt.out HNum.out, HBel.out⟩
      · have h600' : (600 : Int) < (n : Int) := by omega
        by_cases h0 : na = 0
        · subst h0
          have HV : Hid (val xs ≤ 1) := by
            rw [List.length_eq_zero_iff.1 la]
            show (0 : Int) ≤ 1
            omega
          clear hcells la
          go_enter Try.func24, Try.ntmps24
          go_wp2_with fail
          refine (rmay_val _ _ _ xs _ HA.out true (yes_iff HM.out)).mono ?_
          rintro e w1 ⟨rfl, rfl⟩
          go_wp2
          go_ret2
          exact ⟨_, _, _, xs, 0, rfl, HA.out, PowOut.same HA.out.limbs HM.out HV.out (by omega), Below.refl _ _⟩
        · have h0' : ¬ (na : Int) = 0 := by omega
          obtain ⟨q, off, rfl, hlt, hc⟩ := hcells (by intro e; rw [e] at la; simp at la; omega)
          by_cases h1 : na = 1
          · subst h1
            have hck := hc 0 (by omega)
            obtain ⟨x, hx⟩ : ∃ x, xs = [x] := by
              match xs, la with
              | [x], _ => exact ⟨x, rfl⟩
            have hgx : xs.getD 0 0 = x := by rw [hx]; rfl
            rw [hgx, Nat.add_zero] at hck
            by_cases hx1 : x = 1
            · subst hx1
              have HV : Hid (val xs ≤ 1) := by
                rw [hx]
                show (1 : Int) + BB * 0 ≤ 1
                omega
              clear hc la hx hgx
              go_enter Try.func24, Try.ntmps24
              go_wp2_with fail
              refine (rmay_val _ _ _ xs _ HA.out true (yes_iff HM.out)).mono ?_
              rintro e w1 ⟨rfl, rfl⟩
              go_wp2
              go_ret2
              exact ⟨_, _, _, xs, 0, rfl, HA.out, PowOut.same HA.out.limbs HM.out HV.out (by omega), Below.refl _ _⟩
            · have hx1' : (x == 1) = false := by simp [hx1]
              clear hc la hx hgx
              go_enter Try.func24, Try.ntmps24
              go_wp2_with fail
              refine (rmay_val _ _ _ xs _ HA.out true (yes_iff HM.out)).mono ?_
              rintro e w1 ⟨rfl, rfl⟩
              go_wp2_with fail
              refine (rof_any 1 _ (by omega) (by unfold BB; omega)).mono ?_
              rintro e w2 ⟨po, pm, pc, p, rfl, hp, np, -, b1⟩
              have P1 : Hid (RowAt w2 po pm pc p) := hp
              have NP : Hid (Num p 1) := np
              have A1 : Hid (Below w.heap.size w w2) := b1
              clear hp np b1
              go_wp2_with fail
              go_loopw [6, 7, 8, 9] (fun p i _ _ wr => ∃ (q : Nat) (ro : Option Addr) (m cap : Nat) (r : List Int), q ≤ n ∧ i = .int .i64 q ∧ p = .slice ro m cap ∧ RowAt wr ro m cap r ∧ Num r (val xs ^ q) ∧ val xs ^ q < Big ∧ Below w.heap.size w wr) (fun _ i _ _ _ => n - (intOf i).toNat)
              case atStart => exact ⟨0, po, pm, pc, p, Nat.zero_le _, rfl, rfl, P1.out, by simpa using NP.out, by have := Big_one; simpa using this, A1.out⟩
              case round =>
                obtain ⟨q, ro, m, cap, r, hq, rfl, rfl, hr, hnum, hlt, hbel⟩ := hrel
                have XR : Hid (RowAt wr ro m cap r) := hr
                have HNum : Hid (Num r (val xs ^ q)) := hnum
                have HLt : Hid (val xs ^ q < Big) := hlt
                have HBel : Hid (Below w.heap.size w wr) := hbel
                clear hr hnum hlt hbel
                by_cases hq2 : q < n
                · have hq3 : (q : Int) < ((n : Nat) : Int) := by omega
                  go_wp2_with fail
                  refine (rnmul_any _ _ _ _ _ _ r xs _ XR.out (HA.out.below HBel.out)).mono ?_
                  rintro e w3 ⟨so, sm, sc, s, k, rfl, hs, ho, b3⟩
                  have A3 : Hid (Below w.heap.size w w3) := chain HBel.out b3
                  have XS : Hid (RowAt w3 so sm sc s) := hs
                  have HO : Hid (Out (May r ∧ May xs) False (val xs ^ (q + 1)) s k) := by
                    rw [HNum.out.val, ← Int.pow_succ] at ho
                    exact ho
                  clear hs ho b3
                  rcases Int.lt_or_le (val xs ^ (q + 1)) Big with hb | hb
                  · obtain ⟨hk, hn⟩ := HO.out.ok_num ⟨HNum.out.may.2 HLt.out, HM.out⟩ (fun f => f) hb
                    have HB : Hid (val xs ^ (q + 1) < Big) := hb
                    have HS : Hid (Num s (val xs ^ (q + 1))) := hn
                    subst hk
                    clear hb hn HO HBel HNum HLt XR
                    go_wp2
                    go_roundw
                    case rel => exact ⟨q + 1, so, sm, sc, s, by omega, by go_num, rfl, XS.out, HS.out, HB.out, A3.out⟩
                    case measure => simp [intOf]; omega
                  · obtain ⟨hk, hn⟩ := HO.out.is_big ⟨HNum.out.may.2 HLt.out, HM.out⟩ (fun f => f) hb
                    have HB : Hid (Big ≤ val xs ^ (q + 1)) := hb
                    subst hk
                    clear hb hn HO HBel HNum HLt XR XS
                    go_wp2
                    go_ret2
                    exact ⟨none, 0, 0, [], 21, rfl, RowAt.nil _, PowOut.over HA.out.limbs HM.out rfl (by omega) HB.out, A3.out⟩
                · have hq3 : ¬ (q : Int) < ((n : Nat) : Int) := by omega
                  obtain rfl : q = n := by omega
                  go_wp2
                  go_ret2
                  exact ⟨ro, m, cap, r, 0, rfl, XR.out, PowOut.ok HM.out rfl HLt.out HNum.out, HBel.out⟩
          · have h1' : ((na : Int) == 1) = false := by rw [beq_eq_false_iff_ne]; omega
            have h1'' : ¬ (na : Int) = 1 := by omega
            have h0'' : ((na : Int) == 0) = false := by rw [beq_eq_false_iff_ne]; omega
            clear hc la
            go_enter Try.func24, Try.ntmps24
            go_wp2_with fail
            refine (rmay_val _ _ _ xs _ HA.out true (yes_iff HM.out)).mono ?_
            rintro e w1 ⟨rfl, rfl⟩
            go_wp2_with fail
            refine (rof_any 1 _ (by omega) (by unfold BB; omega)).mono ?_
            rintro e w2 ⟨po, pm, pc, p, rfl, hp, np, -, b1⟩
            have P1 : Hid (RowAt w2 po pm pc p) := hp
            have NP : Hid (Num p 1) := np
            have A1 : Hid (Below w.heap.size w w2) := b1
            clear hp np b1
            go_wp2_with fail
            go_loopw [6, 7, 8, 9] (fun p i _ _ wr => ∃ (q : Nat) (ro : Option Addr) (m cap : Nat) (r : List Int), q ≤ n ∧ i = .int .i64 q ∧ p = .slice ro m cap ∧ RowAt wr ro m cap r ∧ Num r (val xs ^ q) ∧ val xs ^ q < Big ∧ Below w.heap.size w wr) (fun _ i _ _ _ => n - (intOf i).toNat)
            case atStart => exact ⟨0, po, pm, pc, p, Nat.zero_le _, rfl, rfl, P1.out, by simpa using NP.out, by have := Big_one; simpa using this, A1.out⟩
            case round =>
              obtain ⟨q, ro, m, cap, r, hq, rfl, rfl, hr, hnum, hlt, hbel⟩ := hrel
              have XR : Hid (RowAt wr ro m cap r) := hr
              have HNum : Hid (Num r (val xs ^ q)) := hnum
              have HLt : Hid (val xs ^ q < Big) := hlt
              have HBel : Hid (Below w.heap.size w wr) := hbel
              clear hr hnum hlt hbel
              by_cases hq2 : q < n
              · have hq3 : (q : Int) < ((n : Nat) : Int) := by omega
                go_wp2_with fail
                refine (rnmul_any _ _ _ _ _ _ r xs _ XR.out (HA.out.below HBel.out)).mono ?_
                rintro e w3 ⟨so, sm, sc, s, k, rfl, hs, ho, b3⟩
                have A3 : Hid (Below w.heap.size w w3) := chain HBel.out b3
                have XS : Hid (RowAt w3 so sm sc s) := hs
                have HO : Hid (Out (May r ∧ May xs) False (val xs ^ (q + 1)) s k) := by
                  rw [HNum.out.val, ← Int.pow_succ] at ho
                  exact ho
                clear hs ho b3
                rcases Int.lt_or_le (val xs ^ (q + 1)) Big with hb | hb
                · obtain ⟨hk, hn⟩ := HO.out.ok_num ⟨HNum.out.may.2 HLt.out, HM.out⟩ (fun f => f) hb
                  have HB : Hid (val xs ^ (q + 1) < Big) := hb
                  have HS : Hid (Num s (val xs ^ (q + 1))) := hn
                  subst hk
                  clear hb hn HO HBel HNum HLt XR
                  go_wp2
                  go_roundw
                  case rel => exact ⟨q + 1, so, sm, sc, s, by omega, by go_num, rfl, XS.out, HS.out, HB.out, A3.out⟩
                  case measure => simp [intOf]; omega
                · obtain ⟨hk, hn⟩ := HO.out.is_big ⟨HNum.out.may.2 HLt.out, HM.out⟩ (fun f => f) hb
                  have HB : Hid (Big ≤ val xs ^ (q + 1)) := hb
                  subst hk
                  clear hb hn HO HBel HNum HLt XR XS
                  go_wp2
                  go_ret2
                  exact ⟨none, 0, 0, [], 21, rfl, RowAt.nil _, PowOut.over HA.out.limbs HM.out rfl (by omega) HB.out, A3.out⟩
              · have hq3 : ¬ (q : Int) < ((n : Nat) : Int) := by omega
                obtain rfl : q = n := by omega
                go_wp2
                go_ret2
                exact ⟨ro, m, cap, r, 0, rfl, XR.out, PowOut.ok HM.out rfl HLt.out HNum.out, HBel.out⟩
  · have HM : Hid (¬ May xs) := hx
    clear hx hcells la
    go_enter Try.func24, Try.ntmps24
    go_wp2_with fail
    refine (rmay_val _ _ _ xs _ HA.out false (no_iff HM.out)).mono ?_
    rintro e w1 ⟨rfl, rfl⟩
    go_wp2
    go_ret2
    exact ⟨none, 0, 0, [], 1, rfl, RowAt.nil _, .arg (fun h => HM.out h.1), Below.refl _ _⟩

end Go.Proofs.Ytbmckhnnbfpdbaa
