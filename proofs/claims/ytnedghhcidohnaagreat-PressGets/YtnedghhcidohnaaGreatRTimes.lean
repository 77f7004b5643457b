/-
  The reference's times: the greatest number below 2^42 that, times b, is no more than r.
-/
import Derived.Deep.LoopGhost
import Derived.Test.YtnedghhcidohnaaGreatJA1
import Derived.Test.YtnedghhcidohnaaGreatJE1
import Derived.Test.YtnedghhcidohnaaGreatJH1
namespace Go.Proofs.YtnedghhcidohnaaGreat
open Go.RowKit

theorem cmpI_le {a b : Int} (h : a ≤ b) : cmpI a b ≤ 0 := by unfold cmpI; split; omega; split <;> omega
theorem cmpI_gt {a b : Int} (h : b < a) : cmpI a b = 1 := by unfold cmpI; rw [if_neg (by omega), if_neg (by omega)]
theorem cmpI_lt {a b : Int} (h : a < b) : cmpI a b = -1 := by unfold cmpI; rw [if_pos h]
theorem cmpI_ge {a b : Int} (h : b ≤ a) : 0 ≤ cmpI a b := by unfold cmpI; rw [if_neg (by omega)]; split <;> omega

set_option maxHeartbeats 1000000 in
theorem rtimes_any (ro bo : Option Addr) (nr cr nb cb : Nat) (rs bs : List Int) (w : World) (hr : RowAt w ro nr cr rs) (hb : RowAt w bo nb cb bs) (hnr : nr ≤ 1000) (hnb : nb ≤ 1000) (hp : 0 < val bs) (hlt : val rs < val bs * 4294967296) :
    Calls Tryz.prog 114 #[.slice ro nr cr, .slice bo nb cb] w fun e w' => e = .returned (.int .u64 (val rs / val bs)) ∧ Below w.heap.size w w' := by
  have HR : Hid (RowAt w ro nr cr rs) := hr
  have HB : Hid (RowAt w bo nb cb bs) := hb
  have HP : Hid (0 < val bs) := hp
  have h0 : Hid (val bs * 0 ≤ val rs) := by
    show val bs * 0 ≤ val rs
    rw [Int.mul_zero]; exact (val_bd hr.limbs).1
  have h1 : Hid (val rs < val bs * 4294967296) := hlt
  clear hr hb hp hlt
  go_enter Tryz.func114, Tryz.ntmps114
  go_wp2_with fail
  go_loopg [5, 6] 4294967296 (fun k s5 s6 wr => ∃ lo hi : Int, s5 = .int .u64 lo ∧ s6 = .int .u64 hi ∧ (hi - lo).toNat ≤ k ∧ 0 ≤ lo ∧ lo < hi ∧ hi ≤ 4294967296 ∧ val bs * lo ≤ val rs ∧ val rs < val bs * hi ∧ Below w.heap.size w wr)
  case atStart => exact ⟨0, 4294967296, rfl, rfl, by omega, by omega, by omega, by omega, h0.out, h1.out, Below.refl _ _⟩
  case round =>
    clear h0 h1
    obtain ⟨lo, hi, rfl, rfl, hk, l0, l1, l2, hlo, hhi, hbel⟩ := hrel
    have HLO : Hid (val bs * lo ≤ val rs) := hlo
    have HHI : Hid (val rs < val bs * hi) := hhi
    have HBL : Hid (Below w.heap.size w wr) := hbel
    have hsz : w.heap.size ≤ wr.heap.size := hbel.size
    clear hlo hhi hbel
    by_cases hgo : 1 < hi - lo
    · obtain ⟨m, hm⟩ : ∃ m, (lo + hi) / 2 = m := ⟨_, rfl⟩
      have hm0 : lo < m := by omega
      have hm1 : m < hi := by omega
      have ht : IntKind.u64.wrap ((lo + hi).tdiv 2) = m := by
        rw [Int.tdiv_eq_ediv_of_nonneg (by omega), hm, IntKind.wrap_u64]
        omega
      have H1 : Hid (RowAt (wr.alloc (Obj.cells #[.int .u64 m] 56)) (some ⟨wr.heap.size, 0, none⟩) 1 1 [m]) := one_row wr m (by omega) (by unfold BB; omega)
      have HBA : Hid (Below w.heap.size w (wr.alloc (Obj.cells #[.int .u64 m] 56))) := HBL.out.alloc hsz _
      go_wp2_with fail
      refine (rmul_any _ _ _ _ _ _ bs [m] _ (HB.out.below HBA.out) H1.out (by omega) (by omega)).mono ?_
      rintro e w1 ⟨po, pm, pc, p, rfl, p1, p2, p3⟩
      rw [show val [m] = m by simp [val]] at p2
      have P1 : Hid (RowAt w1 po pm pc p) := p1
      have P2 : Hid (Num p (val bs * m)) := p2
      have P3 : Hid (Below w.heap.size w w1) := chain HBA.out p3
      have hpm : pm ≤ 900000 := by
        have h1 := p1.len
        have h2 : val rs < val bs * 4294967296 := Int.lt_of_lt_of_le HHI.out (Int.mul_le_mul_of_nonneg_left l2 (Int.le_of_lt HP.out))
        rcases Nat.lt_or_ge 1002 p.length with hg | hg
        · obtain ⟨j, hj⟩ : ∃ j, p.length = j + 1 := ⟨p.length - 1, by omega⟩
          have h3 := val_ge p2.limbs p2.trim j hj
          rw [p2.val] at h3
          have h4 := (val_bd HB.out.limbs).2
          rw [HB.out.len] at h4
          have h5 := pw_le (show nb + 1 ≤ j by omega)
          rw [pw_succ] at h5
          have h6 := Int.mul_le_mul_of_nonneg_left (show m ≤ BB by unfold BB; omega) (Int.le_of_lt HP.out)
          have h7 := Int.mul_lt_mul_of_pos_right h4 BB_pos
          omega
        · omega
      clear p1 p2 p3
      by_cases hle : val bs * m ≤ val rs
      · have HLE : Hid (val bs * m ≤ val rs) := hle
        obtain ⟨c, hc⟩ : ∃ c, c = cmpI (val p) (val rs) := ⟨_, rfl⟩
        have hc0 : c ≤ 0 := by rw [hc, P2.out.val]; exact cmpI_le hle
        have HC : Hid (c = cmpI (val p) (val rs)) := hc
        clear hc hle
        go_wp2_with fail
        refine (rcmp_val _ _ _ _ _ _ p rs _ P1.out (HR.out.below P3.out) (by omega) (by omega) c HC.out).mono ?_
        rintro e w2 ⟨rfl, b2⟩
        have HB2 : Hid (Below w.heap.size w w2) := chain P3.out b2
        clear b2
        go_wp2_with fail
        go_roundg ((hi - m).toNat)
        case measure => omega
        case rel => exact ⟨m, hi, rfl, rfl, Nat.le_refl _, by omega, by omega, l2, HLE.out, HHI.out, HB2.out⟩
      · have HLE : Hid (val rs < val bs * m) := Int.not_le.1 hle
        have HC : Hid ((1 : Int) = cmpI (val p) (val rs)) := by
          show (1 : Int) = cmpI (val p) (val rs)
          rw [P2.out.val, cmpI_gt HLE.out]
        clear hle
        go_wp2_with fail
        refine (rcmp_val _ _ _ _ _ _ p rs _ P1.out (HR.out.below P3.out) (by omega) (by omega) 1 HC.out).mono ?_
        rintro e w2 ⟨rfl, b2⟩
        have HB2 : Hid (Below w.heap.size w w2) := chain P3.out b2
        clear b2
        go_wp2_with fail
        go_roundg ((m - lo).toNat)
        case measure => omega
        case rel => exact ⟨lo, m, rfl, rfl, Nat.le_refl _, by omega, by omega, by omega, HLO.out, HLE.out, HB2.out⟩
    · have HE : Hid (lo = val rs / val bs) := by
        have e : hi = lo + 1 := by omega
        have h1 : lo ≤ val rs / val bs := by rw [Int.le_ediv_iff_mul_le HP.out, Int.mul_comm]; exact HLO.out
        have h2 : val rs / val bs < lo + 1 := by rw [Int.ediv_lt_iff_lt_mul HP.out, Int.mul_comm, ← e]; exact HHI.out
        show lo = val rs / val bs
        omega
      go_wp2_with fail
      go_ret
      exact ⟨ret_int HE.out, HBL.out⟩

end Go.Proofs.YtnedghhcidohnaaGreat
