/-
  DigitTells, walked.
-/
import Derived.Test.YtghnmfkgpkikfaaGreatDoorShown
import Derived.Test.YtghnmfkgpkikfaaGreatDoorFromQ
import Derived.Test.YtghnmfkgpkikfaaGreatDoorRFromA
import Derived.Test.YtghnmfkgpkikfaaGreatDoorRPrint
import Derived.Test.YtghnmfkgpkikfaaGreatDoorJ3
import Derived.OpenShut
namespace Go.Proofs.YtghnmfkgpkikfaaGreatDoor
open Go.RowKit

set_option maxRecDepth 100000 in
set_option maxHeartbeats 4000000 in
theorem tells_walk (a0 : Option Addr) (len0 cap0 : Nat) (z0 : List Int) (a1 : Int) (a2 : Option Addr) (len2 cap2 : Nat) (z2 : List Int) (w : World) (w0 : IsRow .u64 w a0 len0 cap0 z0) (w1 : (Lit.int .u64 a1).wf = true) (w2 : IsRow .u64 w a2 len2 cap2 z2) (ht : Tab w) :
    Calls Tryz.prog 3 #[.slice a0 len0 cap0, .int .u64 a1, .slice a2 len2 cap2] w fun e w' => e = .returned (.bool true) ∧ Below w.heap.size w w' := by
  have r0 := w0.row
  have r2 := w2.row
  generalize z0.take len0 = xs at r0
  generalize z2.take len2 = ls at r2
  obtain ⟨p0, p1⟩ := bounds_u64 w1
  have m0 : len0 ≤ maxLen := Nat.le_trans r0.fits r0.most
  have m2 : len2 ≤ maxLen := Nat.le_trans r2.fits r2.most
  unfold maxLen at m0 m2
  have hB : a1 < BB := by unfold BB; omega
  have R : Hid (RowAt w a0 len0 cap0 xs ∧ RowAt w a2 len2 cap2 ls ∧ Tab w ∧ 0 ≤ a1 ∧ a1 < BB) := ⟨r0, r2, ht, p0, hB⟩
  clear w0 w1 w2 r0 r2 ht hB
  by_cases l0 : 20 < len0
  · have l0' : (20 : Int) < (len0 : Int) := by omega
    go_enter Tryz.func3, Tryz.ntmps3
    go_wp2_with fail
    refine (shown_any _ R.out.2.2.1).mono ?_
    rintro e w1 ⟨rfl, b1⟩
    have B1 : Hid _ := b1
    clear b1
    go_wp2
    go_ret
    exact ⟨rfl, B1.out⟩
  · have l0' : ¬ (20 : Int) < (len0 : Int) := by omega
    by_cases l2 : 200 < len2
    · have l2' : (200 : Int) < (len2 : Int) := by omega
      go_enter Tryz.func3, Tryz.ntmps3
      go_wp2_with fail
      refine (shown_any _ R.out.2.2.1).mono ?_
      rintro e w1 ⟨rfl, b1⟩
      have B1 : Hid _ := b1
      clear b1
      go_wp2
      go_ret
      exact ⟨rfl, B1.out⟩
    · have l2' : ¬ (200 : Int) < (len2 : Int) := by omega
      go_enter Tryz.func3, Tryz.ntmps3
      go_wp2_with fail
      refine (shown_any _ R.out.2.2.1).mono ?_
      rintro e w1 ⟨rfl, b1⟩
      have A1 : Hid (Below w.heap.size w w1) := b1
      clear b1
      go_wp2_with fail
      refine (from_any _ _ _ ls a1 _ (R.out.2.1.below A1.out) R.out.2.2.2.2 (by rw [R.out.2.1.len]; omega)).mono ?_
      rintro e w2 ⟨xo, xm, xc, x, xk, rfl, h1, h2, b2⟩
      have X : Hid (RowAt w2 xo xm xc x ∧ Out (2 ≤ a1 ∧ Digs a1 ls) False (dval a1 ls) x xk ∧ Below w.heap.size w w2) := ⟨h1, h2, chain A1.out b2⟩
      clear h1 h2 b2 A1
      go_wp2_with fail
      refine (rfrom_any _ _ _ ls a1 _ (R.out.2.1.below X.out.2.2) R.out.2.2.2.2).mono ?_
      rintro e w3 ⟨yo, ym, yc, y, yk, rfl, h1, h2, b3⟩
      have eqk := (h2.one X.out.2.1).2
      have EQ : Hid (x = y) := (X.out.2.1.one h2).1
      subst eqk
      have Y : Hid (RowAt w3 xo xm xc x ∧ RowAt w3 yo ym yc y ∧ Below w.heap.size w w3) := ⟨X.out.1.below b3, h1, chain X.out.2.2 b3⟩
      clear h1 h2 b3 X
      go_wp2_with fail
      refine (base_any _ _ _ xs a1 _ (R.out.1.below Y.out.2.2) R.out.2.2.2.2).mono ?_
      rintro e w4 ⟨po, pm, pc, p, rfl, h1, h2, b4⟩
      have P : Hid (RowAt w4 po pm pc p ∧ BaseOut xs a1 p ∧ RowAt w4 xo xm xc x ∧ RowAt w4 yo ym yc y ∧ Below w.heap.size w w4) := ⟨h1, h2, Y.out.1.below b4, Y.out.2.1.below b4, chain Y.out.2.2 b4⟩
      clear h1 h2 b4 Y
      go_wp2_with fail
      refine (rbase_any _ _ _ xs a1 _ (R.out.1.below P.out.2.2.2.2) R.out.2.2.2.1 R.out.2.2.2.2).mono ?_
      rintro e w5 ⟨qo, qm, qc, q, rfl, h1, h2, b5⟩
      have EP : Hid (p = q) := P.out.2.1.one h2
      have Q : Hid (RowAt w5 po pm pc p ∧ RowAt w5 qo qm qc q ∧ RowAt w5 xo xm xc x ∧ RowAt w5 yo ym yc y ∧ Below w.heap.size w w5) := ⟨P.out.1.below b5, h1, P.out.2.2.1.below b5, P.out.2.2.2.1.below b5, chain P.out.2.2.2.2 b5⟩
      clear h1 h2 b5 P
      go_wp2_with fail
      refine (same_yes _ _ _ _ _ _ p q _ Q.out.1 Q.out.2.1 EP.out).mono ?_
      rintro e w6 ⟨rfl, b6⟩
      have A6 : Hid (RowAt w6 xo xm xc x ∧ RowAt w6 yo ym yc y ∧ Below w.heap.size w w6) := ⟨Q.out.2.2.1.below b6, Q.out.2.2.2.1.below b6, chain Q.out.2.2.2.2 b6⟩
      clear b6 Q EP
      go_wp2_with fail
      refine (print_any _ _ _ xs _ (R.out.1.below A6.out.2.2) (R.out.2.2.1.below A6.out.2.2)).mono ?_
      rintro e w7 ⟨s, rfl, h1, b7⟩
      have A7 : Hid (RowAt w7 xo xm xc x ∧ RowAt w7 yo ym yc y ∧ Below w.heap.size w w7 ∧ PrintOut xs s) := ⟨A6.out.1.below b7, A6.out.2.1.below b7, chain A6.out.2.2 b7, h1⟩
      clear h1 b7 A6
      obtain ⟨S, hS⟩ : ∃ S : ByteArray, S = ⟨s.toArray⟩ := ⟨_, rfl⟩
      rw [← hS]
      have HS : Hid (S = ⟨s.toArray⟩) := hS
      clear hS
      go_wp2_with fail
      refine (rprint_any _ _ _ xs _ (R.out.1.below A7.out.2.2.1)).mono ?_
      rintro e w8 ⟨t, rfl, h1, b8⟩
      have hts : (⟨t.toArray⟩ : ByteArray) = S := by rw [HS.out, h1.one A7.out.2.2.2]
      have A8 : Hid (RowAt w8 xo xm xc x ∧ RowAt w8 yo ym yc y ∧ Below w.heap.size w w8) := ⟨A7.out.1.below b8, A7.out.2.1.below b8, chain A7.out.2.2.1 b8⟩
      rw [hts]
      clear h1 b8 A7 hts HS
      go_wp2_with fail
      refine (rnsame_yes _ _ _ _ _ _ x y _ A8.out.1 A8.out.2.1 EQ.out).mono ?_
      rintro e w9 ⟨rfl, b9⟩
      have A9 : Hid (Below w.heap.size w w9) := chain A8.out.2.2 b9
      clear b9 A8
      go_wp2
      go_ret
      exact ⟨rfl, A9.out⟩

end Go.Proofs.YtghnmfkgpkikfaaGreatDoor
