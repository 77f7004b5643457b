/-
  DigitOrder, walked.
-/
import Derived.Test.YtghnmfkgpkikfaaDoorShown
import Derived.Test.YtghnmfkgpkikfaaDoorOrderMath
import Derived.Test.YtghnmfkgpkikfaaDoorJ2
namespace Go.Proofs.YtghnmfkgpkikfaaDoor
open Go.RowKit

theorem str_list (s : List UInt8) : (⟨s.toArray⟩ : ByteArray).toList = s := by rw [Lib.toList_data]
theorem str_size (s : List UInt8) : (⟨s.toArray⟩ : ByteArray).size = s.length := by simp [ByteArray.size]

set_option maxRecDepth 100000 in
set_option maxHeartbeats 4000000 in
theorem order_walk (a0 : Option Addr) (len0 cap0 : Nat) (z0 : List Int) (a1 : Option Addr) (len1 cap1 : Nat) (z1 : List Int) (w : World) (w0 : IsRow .u64 w a0 len0 cap0 z0) (w1 : IsRow .u64 w a1 len1 cap1 z1) (ht : Tab w) :
    Calls Tryd.prog 5 #[.slice a0 len0 cap0, .slice a1 len1 cap1] w fun e w' => e = .returned (.bool true) ∧ Below w.heap.size w w' := by
  have r0 := w0.row
  have r1 := w1.row
  generalize z0.take len0 = xs at r0
  generalize z1.take len1 = ys at r1
  clear w0 w1
  have R0 : Hid (RowAt w a0 len0 cap0 xs ∧ Tab w) := ⟨r0, ht⟩
  have R1 : Hid (RowAt w a1 len1 cap1 ys) := r1
  clear r0 r1 ht
  go_enter Tryd.func5, Tryd.ntmps5
  go_wp2_with fail
  refine (lheld_any _ _ _ xs _ R0.out.1).mono ?_
  rintro e w1 ⟨xo, xm, xc, x, rfl, g1, g2, g3, g4⟩
  have A1 : Hid (RowAt w1 xo xm xc x ∧ May x ∧ Limbs x ∧ xm ≤ 8 ∧ Below w.heap.size w w1) := ⟨g1, g2.1, g2.2, g3, g4⟩
  clear g1 g2 g3 g4
  go_wp2_with fail
  refine (lheld_any _ _ _ ys _ (R1.out.below A1.out.2.2.2.2)).mono ?_
  rintro e w2 ⟨yo, ym, yc, y, rfl, g1, g2, g3, g4⟩
  have A2 : Hid (RowAt w2 yo ym yc y ∧ May y ∧ Limbs y ∧ ym ≤ 8 ∧ Below w.heap.size w w2 ∧ RowAt w2 xo xm xc x) := ⟨g1, g2.1, g2.2, g3, chain A1.out.2.2.2.2 g4, A1.out.1.below g4⟩
  clear g1 g2 g3 g4
  go_wp2_with fail
  refine (print_any _ _ _ x _ A2.out.2.2.2.2.2 (R0.out.2.below A2.out.2.2.2.2.1)).mono ?_
  rintro e w3 ⟨s, rfl, p1, p2⟩
  have A3 : Hid (RowAt w3 xo xm xc x ∧ RowAt w3 yo ym yc y ∧ Below w.heap.size w w3 ∧ Txt s (val x)) := ⟨A2.out.2.2.2.2.2.below p2, A2.out.1.below p2, chain A2.out.2.2.2.2.1 p2, p1.fine A1.out.2.1⟩
  clear p1 p2
  obtain ⟨S, hS⟩ : ∃ S : ByteArray, S = ⟨s.toArray⟩ := ⟨_, rfl⟩
  rw [← hS]
  have HS : Hid (S = ⟨s.toArray⟩) := hS
  clear hS
  go_wp2_with fail
  refine (print_any _ _ _ y _ A3.out.2.1 (R0.out.2.below A3.out.2.2.1)).mono ?_
  rintro e w4 ⟨t, rfl, p1, p2⟩
  have A4 : Hid (RowAt w4 xo xm xc x ∧ RowAt w4 yo ym yc y ∧ Below w.heap.size w w4 ∧ Txt t (val y)) := ⟨A3.out.1.below p2, A3.out.2.1.below p2, chain A3.out.2.2.1 p2, p1.fine A2.out.2.1⟩
  clear p1 p2
  obtain ⟨T, hT⟩ : ∃ T : ByteArray, T = ⟨t.toArray⟩ := ⟨_, rfl⟩
  rw [← hT]
  have HT : Hid (T = ⟨t.toArray⟩) := hT
  clear hT
  obtain ⟨c, hc⟩ : ∃ c, c = cmpI (val x) (val y) := ⟨_, rfl⟩
  have HC : Hid (c = cmpI (val x) (val y)) := hc
  clear hc
  go_wp2_with fail
  refine (rcmp_val _ _ _ _ _ _ x y _ A4.out.1 A4.out.2.1 (by have := A1.out.2.2.2.1; omega) (by have := A2.out.2.2.2.1; omega) c HC.out).mono ?_
  rintro e w5 ⟨rfl, b5⟩
  have A5 : Hid (Below w.heap.size w w5) := chain A4.out.2.2.1 b5
  clear b5
  go_wp2_with fail
  refine (shown_any _ (R0.out.2.below A5.out)).mono ?_
  rintro e w6 ⟨rfl, b6⟩
  have A6 : Hid (Below w.heap.size w w6) := chain A5.out b6
  clear b6 A5
  have hSl : S.toList = s := by rw [HS.out, str_list]
  have hTl : T.toList = t := by rw [HT.out, str_list]
  have hSs : S.size = s.length := by rw [HS.out, str_size]
  have hTs : T.size = t.length := by rw [HT.out, str_size]
  rcases Int.lt_trichotomy (val x) (val y) with h | h | h
  · have hcv : c = -1 := by rw [HC.out]; unfold cmpI; rw [if_pos h]
    have heq : (S.toList == T.toList) = false := by rw [hSl, hTl, beq_eq_false_iff_ne]; exact A3.out.2.2.2.differ A4.out.2.2.2 (by omega)
    have hle := txt_len_le A3.out.2.2.2 A4.out.2.2.2 (by omega)
    by_cases hl : s.length < t.length
    · have hlt : (S.size : Int) < (T.size : Int) := by omega
      clear hSl hTl hSs hTs HC HS HT hle hl h R1 A1 A2 A3 A4
      subst hcv
      go_wp2
      go_ret
      exact ⟨rfl, A6.out⟩
    · have hsz : S.size = T.size := by omega
      have hless : Op.bytesLess S.toList T.toList = true := by rw [hSl, hTl, A3.out.2.2.2.less A4.out.2.2.2 (by omega)]; exact decide_eq_true h
      clear hSl hTl hSs hTs HC HS HT hle hl h R1 A1 A2 A3 A4
      subst hcv
      go_wp2
      go_ret
      exact ⟨rfl, A6.out⟩
  · have hcv : c = 0 := by rw [HC.out]; unfold cmpI; rw [if_neg (by omega), if_pos h]
    have hst : s = t := A3.out.2.2.2.one (by rw [h]; exact A4.out.2.2.2)
    have hST : S = T := by rw [HS.out, HT.out, hst]
    have hless : Op.bytesLess T.toList T.toList = false := by rw [hTl]; exact less_self t A4.out.2.2.2.isNum.1
    clear hSl hTl hSs hTs HC HS HT hst h R1 A1 A2 A3 A4
    subst hcv
    subst hST
    go_wp2
    go_ret
    exact ⟨rfl, A6.out⟩
  · have hcv : c = 1 := by rw [HC.out]; unfold cmpI; rw [if_neg (by omega), if_neg (by omega)]
    have heq : (S.toList == T.toList) = false := by rw [hSl, hTl, beq_eq_false_iff_ne]; exact A3.out.2.2.2.differ A4.out.2.2.2 (by omega)
    have hle := txt_len_le A4.out.2.2.2 A3.out.2.2.2 (by omega)
    have hnl : ¬ (S.size : Int) < (T.size : Int) := by omega
    by_cases hl : t.length < s.length
    · have hne : ¬ S.size = T.size := by omega
      have HN : Hid (¬ S.size < T.size) := by
        have h9 : ¬ S.size < T.size := by omega
        exact h9
      clear hSl hTl hSs hTs HC HS HT hle hl h R1 A1 A2 A3 A4
      subst hcv
      go_wp2
      go_ret
      refine ⟨?_, A6.out⟩
      show Ending.returned (.bool (!decide (S.size < T.size))) = _
      rw [decide_eq_false HN.out]
      rfl
    · have hsz : S.size = T.size := by omega
      have hless : Op.bytesLess S.toList T.toList = false := by rw [hSl, hTl, A3.out.2.2.2.less A4.out.2.2.2 (by omega)]; exact decide_eq_false (by omega)
      clear hSl hTl hSs hTs HC HS HT hle hl h R1 A1 A2 A3 A4
      subst hcv
      go_wp2
      go_ret
      exact ⟨rfl, A6.out⟩

end Go.Proofs.YtghnmfkgpkikfaaDoor
