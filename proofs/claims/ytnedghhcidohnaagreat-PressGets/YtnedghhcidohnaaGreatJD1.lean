/-
  Joined: Div64 · Guess.
-/
import Derived.Deep.CutBlock
import Derived.Deep.CutRange
import Derived.Test.YtnedghhcidohnaaGreatJB1
import Derived.Test.YtnedghhcidohnaaGreatJA1

/-! math/bits.Div64, by a divisor whose highest bit is set. -/
namespace Go.Proofs.YtnedghhcidohnaaGreat
open Go.RowKit

theorem wrapu {x : Int} (h0 : 0 ≤ x) (h1 : x ≤ 18446744073709551615) : IntKind.u64.wrap x = x := by rw [IntKind.wrap_u64]; omega
theorem v_int {k : IntKind} {a b : Int} (h : a = b) : Value.int k a = .int k b := by rw [h]

theorem ret2u {v : Value} {a b : Int} (h : a = b) : Ending.returned (.tuple #[.int .u64 a, v]) = .returned (.tuple #[.int .u64 b, v]) := by rw [h]

theorem gs_first {y yn1 yn0 u x : Int} (D : Dv y yn1 yn0) (u0 : 0 ≤ u) (u1 : u < y) (hy : y ≤ 18446744073709551615) (x0 : 0 ≤ x) (x1 : x < 4294967296) :
    ∃ q r, IntKind.u64.wrap (u.tdiv yn1) = q ∧ IntKind.u64.wrap (u - IntKind.u64.wrap (q * yn1)) = r ∧ Gs y yn1 yn0 u x q r := by
  have G := gs_start D u0 u1 x0 x1
  have g0 := G.q0
  have g1 := G.q1
  have g2 := G.r0
  have g3 := G.r1
  have hp := Int.mul_nonneg g0 (show 0 ≤ yn1 by have := D.b0; omega)
  refine ⟨u / yn1, u - u / yn1 * yn1, ?_, ?_, G⟩
  · rw [Int.tdiv_eq_ediv_of_nonneg u0]
    exact wrapu g0 (by omega)
  · rw [wrapu hp (by omega)]
    exact wrapu (by omega) (by omega)

theorem or_none {hi lo : Int} (h0 : 0 ≤ hi) (h1 : hi ≤ 18446744073709551615) (l0 : 0 ≤ lo) (l1 : lo ≤ 18446744073709551615) : lo / 18446744073709551616 = 0 ∧ bits .or .u64 hi 0 = hi := by
  refine ⟨by omega, ?_⟩
  obtain ⟨a, rfl⟩ := Int.eq_ofNat_of_zero_le h0
  have := bits_or_u64_nat a 0 (by omega) (by omega)
  simpa using this

set_option maxRecDepth 100000 in
set_option maxHeartbeats 4000000 in
theorem div64_any (hi lo y : Int) (w : World) (h0 : 0 ≤ hi) (h1 : hi < y) (l0 : 0 ≤ lo) (l1 : lo < BB) (y0 : 9223372036854775808 ≤ y) (y1 : y < BB) :
    Calls Tryz.prog 150 #[.int .u64 hi, .int .u64 lo, .int .u64 y] w fun e w' => ∃ r, e = .returned (.tuple #[.int .u64 ((hi * BB + lo) / y), .int .u64 r]) ∧ ∃ m, w' = w.drewN m := by
  have l2 : lo ≤ 18446744073709551615 := by unfold BB at l1; omega
  have y2 : y ≤ 18446744073709551615 := by unfold BB at y1; omega
  obtain ⟨ov, hov⟩ : ∃ v, v = (hi * BB + lo) / y := ⟨_, rfl⟩
  rw [← hov]
  have HV : Hid (ov = (hi * BB + lo) / y) := hov
  clear hov
  have HD : Hid (Dv y (y / 4294967296) (y % 4294967296)) := dv_of y0 y1
  have Y1 : Hid (y < BB) := y1
  have hyz : (y == 0) = false := by rw [beq_eq_false_iff_ne]; omega
  have hyn : y ≠ 0 := by omega
  have hyh : ¬ y ≤ hi := by omega
  have ea := low_of y (by omega) y1
  have eb := low_of lo l0 l1
  clear y1 l1
  by_cases hz : hi = 0
  · subst hz
    have e : IntKind.u64.wrap (lo.tdiv y) = ov := by
      rw [HV.out, Int.tdiv_eq_ediv_of_nonneg l0, Int.zero_mul, Int.zero_add]
      have := Int.ediv_nonneg l0 (show 0 ≤ y by omega)
      have := Int.ediv_le_self y l0
      exact wrapu (by omega) (by omega)
    clear HV HD ea eb
    go_enter Tryz.func150, Tryz.ntmps150
    go_wp2_with fail
    go_quiet (fail)
    go_wp2
    go_ret2
    exact ⟨_, rfl, _, rfl⟩
  · have hzb : (hi == 0) = false := by rw [beq_eq_false_iff_ne]; omega
    obtain ⟨eo, ep⟩ := or_none h0 (by omega) l0 l2
    obtain ⟨yn1, ec⟩ : ∃ v, y / 4294967296 = v := ⟨_, rfl⟩
    obtain ⟨yn0, ed⟩ : ∃ v, y % 4294967296 = v := ⟨_, rfl⟩
    obtain ⟨un1, ee⟩ : ∃ v, lo / 4294967296 = v := ⟨_, rfl⟩
    obtain ⟨un0, ef⟩ : ∃ v, lo % 4294967296 = v := ⟨_, rfl⟩
    rw [ed] at ea
    rw [ef] at eb
    rw [ec, ed] at HD
    have hlo : lo = un1 * 4294967296 + un0 := by omega
    have HLO : Hid (lo = un1 * 4294967296 + un0) := hlo
    have a0 : 0 ≤ un1 := by omega
    have a1 : un1 < 4294967296 := by omega
    have a2 : 0 ≤ un0 := by omega
    have a3 : un0 < 4294967296 := by omega
    have b0 := HD.out.b0
    have b1 := HD.out.b1
    have b2 := HD.out.a0
    have b3 := HD.out.a1
    have bn : yn1 ≠ 0 := by omega
    clear hlo ed ef
    obtain ⟨q0, r0, eq, er, hgs⟩ := gs_first HD.out h0 h1 y2 a0 a1
    have HGS : Hid (Gs y yn1 yn0 hi un1 q0 r0) := hgs
    clear hgs
    obtain ⟨Q1, hQ1⟩ : ∃ v, v = (hi * 4294967296 + un1) / y := ⟨_, rfl⟩
    have hrb := rest_bd HD.out.pos hQ1
    have hQl : Q1 < 4294967296 := by rw [hQ1]; exact gs_lt HD.out h1 a1
    have hQg : 0 ≤ Q1 := by rw [hQ1]; exact Int.ediv_nonneg (by omega) (by omega)
    obtain ⟨v, hv⟩ : ∃ v, v = hi * 4294967296 + un1 - Q1 * y := ⟨_, rfl⟩
    rw [← hv] at hrb
    have ev : IntKind.u64.wrap (IntKind.u64.wrap (IntKind.u64.wrap (hi * 4294967296) + un1) - IntKind.u64.wrap (Q1 * y)) = v := by
      rw [IntKind.wrap_u64, IntKind.wrap_u64, IntKind.wrap_u64, IntKind.wrap_u64]
      omega
    obtain ⟨p0, s0, eq2, er2, hgs2⟩ := gs_first HD.out hrb.1 hrb.2 y2 a2 a3
    have HGS2 : Hid (Gs y yn1 yn0 v un0 p0 s0) := hgs2
    clear hgs2
    obtain ⟨Q0, hQ0⟩ : ∃ u, u = (v * 4294967296 + un0) / y := ⟨_, rfl⟩
    have hPl : Q0 < 4294967296 := by rw [hQ0]; exact gs_lt HD.out hrb.2 a3
    have hPg : 0 ≤ Q0 := by rw [hQ0]; exact Int.ediv_nonneg (by omega) (by omega)
    have EO : Hid (Q1 * 4294967296 + Q0 = ov) := by
      show Q1 * 4294967296 + Q0 = ov
      rw [HV.out, HLO.out]
      exact two_halves HD.out.pos hv hQ0
    have HQ1 : Hid (Q1 = (hi * 4294967296 + un1) / y) := hQ1
    have HQ0 : Hid (Q0 = (v * 4294967296 + un0) / y) := hQ0
    have v0 := hrb.1
    have v1 := hrb.2
    clear hQ1 hQ0 hv hrb HV HLO
    go_enter Tryz.func150, Tryz.ntmps150
    go_wp2_with fail
    refine (lead_top y _ y0 Y1.out).mono ?_
    rintro e w1 ⟨rfl, rfl⟩
    go_upto_block 0 with fail
    go_cut [15] from 67 to 85 (fun q wc => q = .int .u64 Q1 ∧ w1 = wc)
    case first =>
      go_wp2_with fail
      go_loopg [15, 16] (q0.toNat) (fun k q r wr => ∃ qv rv, q = .int .u64 qv ∧ r = .int .u64 rv ∧ Gs y yn1 yn0 hi un1 qv rv ∧ w1 = wr ∧ qv.toNat ≤ k)
      case atStart => exact ⟨_, _, rfl, rfl, HGS.out, rfl, Nat.le_refl _⟩
      case round =>
        obtain ⟨qv, rv, rfl, rfl, hg, rfl, hk⟩ := hrel
        have sm := gs_small HD.out hg
        have p0 := hg.q0
        have p1 := hg.q1
        have p2 := hg.r0
        have p3 := hg.r1
        have e1 : IntKind.u64.wrap (qv * yn0) = qv * yn0 := wrapu sm.1 sm.2
        have e2 : IntKind.u64.wrap (4294967296 * rv) = 4294967296 * rv := wrapu (by omega) (by omega)
        have e3 : IntKind.u64.wrap (4294967296 * rv + un1) = 4294967296 * rv + un1 := wrapu (by omega) (by omega)
        have e5 : IntKind.u64.wrap (rv + yn1) = rv + yn1 := wrapu (by omega) (by omega)
        have HG : Hid (Gs y yn1 yn0 hi un1 qv rv) := hg
        have HK : Hid (qv.toNat ≤ gk) := hk
        have SM : Hid _ := sm
        clear hg hk sm
        by_cases hge : 4294967296 ≤ qv
        · have hm := gs_more HD.out HG.out (by omega) (by omega) (by omega) (by omega) (Or.inl hge)
          have HM : Hid _ := hm
          clear hm
          have e4 : IntKind.u64.wrap (qv - 1) = qv - 1 := wrapu (by omega) (by omega)
          by_cases hbr : 4294967296 ≤ rv + yn1
          · go_wp2
            go_meet
            exact ⟨v_int ((gs_break HD.out HG.out (by omega) HM.out hbr).trans HQ1.out.symm), rfl⟩
          · go_wp2
            go_roundg ((qv - 1).toNat)
            case measure => have := HK.out; omega
            case rel => exact ⟨_, _, rfl, rfl, gs_next HD.out HG.out HM.out (by omega), rfl, Nat.le_refl _⟩
        · by_cases ht : 4294967296 * rv + un1 < qv * yn0
          · have hm := gs_more HD.out HG.out (by omega) (by omega) (by omega) (by omega) (Or.inr ht)
            have e4 : IntKind.u64.wrap (qv - 1) = qv - 1 := wrapu (by have := hm.2; omega) (by omega)
            have HM : Hid _ := hm
            clear hm
            by_cases hbr : 4294967296 ≤ rv + yn1
            · go_wp2
              go_meet
              exact ⟨v_int ((gs_break HD.out HG.out (by omega) HM.out hbr).trans HQ1.out.symm), rfl⟩
            · go_wp2
              go_roundg ((qv - 1).toNat)
              case measure => have := HK.out; have := HM.out.2; omega
              case rel => exact ⟨_, _, rfl, rfl, gs_next HD.out HG.out HM.out (by omega), rfl, Nat.le_refl _⟩
          · go_wp2
            go_meet
            exact ⟨v_int ((gs_stop HD.out HG.out (by omega)).trans HQ1.out.symm), rfl⟩
    case rest =>
      obtain ⟨rfl, rfl⟩ := hcut
      clear eq er
      go_upto_block 2 with fail
      go_cut [18] from 102 to 120 (fun q wc => q = .int .u64 Q0 ∧ w1 = wc)
      case first =>
        go_wp2_with fail
        go_loopg [18, 16] (p0.toNat) (fun k q r wr => ∃ qv rv, q = .int .u64 qv ∧ r = .int .u64 rv ∧ Gs y yn1 yn0 v un0 qv rv ∧ w1 = wr ∧ qv.toNat ≤ k)
        case atStart => exact ⟨_, _, rfl, rfl, HGS2.out, rfl, Nat.le_refl _⟩
        case round =>
          obtain ⟨qv, rv, rfl, rfl, hg, rfl, hk⟩ := hrel
          have sm := gs_small HD.out hg
          have p0 := hg.q0
          have p1 := hg.q1
          have p2 := hg.r0
          have p3 := hg.r1
          have e1 : IntKind.u64.wrap (qv * yn0) = qv * yn0 := wrapu sm.1 sm.2
          have e2 : IntKind.u64.wrap (4294967296 * rv) = 4294967296 * rv := wrapu (by omega) (by omega)
          have e3 : IntKind.u64.wrap (4294967296 * rv + un0) = 4294967296 * rv + un0 := wrapu (by omega) (by omega)
          have e5 : IntKind.u64.wrap (rv + yn1) = rv + yn1 := wrapu (by omega) (by omega)
          have HG : Hid (Gs y yn1 yn0 v un0 qv rv) := hg
          have HK : Hid (qv.toNat ≤ gk) := hk
          have SM : Hid _ := sm
          clear hg hk sm
          by_cases hge : 4294967296 ≤ qv
          · have hm := gs_more HD.out HG.out (by omega) (by omega) (by omega) (by omega) (Or.inl hge)
            have HM : Hid _ := hm
            clear hm
            have e4 : IntKind.u64.wrap (qv - 1) = qv - 1 := wrapu (by omega) (by omega)
            by_cases hbr : 4294967296 ≤ rv + yn1
            · go_wp2
              go_meet
              exact ⟨v_int ((gs_break HD.out HG.out (by omega) HM.out hbr).trans HQ0.out.symm), rfl⟩
            · go_wp2
              go_roundg ((qv - 1).toNat)
              case measure => have := HK.out; omega
              case rel => exact ⟨_, _, rfl, rfl, gs_next HD.out HG.out HM.out (by omega), rfl, Nat.le_refl _⟩
          · by_cases ht : 4294967296 * rv + un0 < qv * yn0
            · have hm := gs_more HD.out HG.out (by omega) (by omega) (by omega) (by omega) (Or.inr ht)
              have e4 : IntKind.u64.wrap (qv - 1) = qv - 1 := wrapu (by have := hm.2; omega) (by omega)
              have HM : Hid _ := hm
              clear hm
              by_cases hbr : 4294967296 ≤ rv + yn1
              · go_wp2
                go_meet
                exact ⟨v_int ((gs_break HD.out HG.out (by omega) HM.out hbr).trans HQ0.out.symm), rfl⟩
              · go_wp2
                go_roundg ((qv - 1).toNat)
                case measure => have := HK.out; have := HM.out.2; omega
                case rel => exact ⟨_, _, rfl, rfl, gs_next HD.out HG.out HM.out (by omega), rfl, Nat.le_refl _⟩
            · go_wp2
              go_meet
              exact ⟨v_int ((gs_stop HD.out HG.out (by omega)).trans HQ0.out.symm), rfl⟩
      case rest =>
        obtain ⟨rfl, rfl⟩ := hcut
        clear eq2 er2 ev
        go_wp2
        go_ret2
        exact ⟨_, ret2u EO.out, 0, rfl⟩
end Go.Proofs.YtnedghhcidohnaaGreat

/-! quot.guess: a limb of a quotient, by the highest limbs. -/
namespace Go.Proofs.YtnedghhcidohnaaGreat
open Go.RowKit

/-- The limb that the highest limbs ask for. -/
def guessI (high low d : Int) : Int := if d ≤ high then 18446744073709551615 else (high * BB + low) / d

set_option maxHeartbeats 400000 in
theorem guess_any (high low d : Int) (w : World) (h0 : 0 ≤ high) (l0 : 0 ≤ low) (l1 : low < BB) (d0 : 9223372036854775808 ≤ d) (d1 : d < BB) :
    Calls Tryz.prog 139 #[.int .u64 high, .int .u64 low, .int .u64 d] w fun e w' => e = .returned (.int .u64 (guessI high low d)) ∧ ∃ m, w' = w.drewN m := by
  have L1 : Hid (low < BB) := l1
  have D1 : Hid (d < BB) := d1
  clear l1 d1
  by_cases hg : d ≤ high
  · go_enter Tryz.func139, Tryz.ntmps139
    go_wp2
    go_ret
    exact ⟨ret_int (by rw [guessI, if_pos hg]), 0, rfl⟩
  · go_enter Tryz.func139, Tryz.ntmps139
    go_wp2_with fail
    refine (div64_any high low d _ h0 (by omega) l0 L1.out d0 D1.out).mono ?_
    rintro e w1 ⟨r, rfl, m, rfl⟩
    go_wp2
    go_ret
    exact ⟨ret_int (by rw [guessI, if_neg (by omega)]), m, rfl⟩

end Go.Proofs.YtnedghhcidohnaaGreat
