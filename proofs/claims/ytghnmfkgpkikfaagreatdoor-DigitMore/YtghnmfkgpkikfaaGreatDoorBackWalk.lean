/-
  DigitBack, walked.
-/
import Derived.Test.YtghnmfkgpkikfaaGreatDoorShown
import Derived.Test.YtghnmfkgpkikfaaGreatDoorParse
import Derived.Test.YtghnmfkgpkikfaaGreatDoorJ3
import Derived.OpenShut
namespace Go.Proofs.YtghnmfkgpkikfaaGreatDoor
open Go.RowKit

theorem txt_few {s : List UInt8} {v : Int} (h : Txt s v) (hv : v < Big) : s.length ≤ 155 ∧ s ≠ [] := by
  obtain ⟨l, hl, rfl⟩ := h
  have := hl.few10 hv
  unfold txt
  by_cases e : l = []
  · simp [e]
  · rw [if_neg e, dtext_length]
    exact ⟨this, fun h => by have := congrArg List.length h; rw [dtext_length] at this; exact e (List.length_eq_zero_iff.1 this)⟩

set_option maxRecDepth 100000 in
set_option maxHeartbeats 4000000 in
theorem back_walk (a0 : Option Addr) (len0 cap0 : Nat) (z0 : List Int) (a1 : Int) (w : World) (w0 : IsRow .u64 w a0 len0 cap0 z0) (w1 : (Lit.int .u64 a1).wf = true) (ht : Tab w) :
    Calls Tryz.prog 5 #[.slice a0 len0 cap0, .int .u64 a1] w fun e w' => e = .returned (.bool true) ∧ Below w.heap.size w w' := by
  have r0 := w0.row
  generalize z0.take len0 = xs at r0
  obtain ⟨p0, p1⟩ := bounds_u64 w1
  have hB : a1 < BB := by unfold BB; omega
  have R : Hid (RowAt w a0 len0 cap0 xs ∧ Tab w ∧ 0 ≤ a1 ∧ a1 < BB) := ⟨r0, ht, p0, hB⟩
  clear w0 w1 r0 ht hB
  go_enter Tryz.func5, Tryz.ntmps5
  go_wp2_with fail
  refine (lheld_any _ _ _ xs _ R.out.1).mono ?_
  rintro e w1 ⟨xo, xm, xc, x, rfl, g1, g2, g3, g4⟩
  have A1 : Hid (RowAt w1 xo xm xc x ∧ May x ∧ Limbs x ∧ Below w.heap.size w w1) := ⟨g1, g2.1, g2.2, g4⟩
  clear g1 g2 g3 g4
  go_wp2_with fail
  refine (print_any _ _ _ x _ A1.out.1 (R.out.2.1.below A1.out.2.2.2)).mono ?_
  rintro e w2 ⟨s, rfl, h1, b2⟩
  have hT := h1.fine A1.out.2.1
  have hlt := A1.out.2.1.lt A1.out.2.2.1
  have A2 : Hid (RowAt w2 xo xm xc x ∧ Txt s (val x) ∧ Below w.heap.size w w2 ∧ val x < Big) := ⟨A1.out.1.below b2, hT, chain A1.out.2.2.2 b2, hlt⟩
  have hP := fun W => parse_any s W (by have := (txt_few hT hlt).1; omega)
  obtain ⟨S, hS⟩ : ∃ S : ByteArray, (⟨s.toArray⟩ : ByteArray) = S := ⟨_, rfl⟩
  rw [hS] at hP ⊢
  have HP : Hid (∀ (u : Unit) W, Calls Tryz.prog 16 #[.string S] W _) := fun _ => hP
  clear h1 b2 hT hlt hP hS
  go_wp2_with fail
  refine (HP.out () _).mono ?_
  rintro e w3 ⟨yo, ym, yc, y, yk, rfl, h1, h2, b3⟩
  have hnv := A2.out.2.1.nv
  obtain ⟨hk0, hnum⟩ := h2.fine A2.out.2.1.isNum (by rw [hnv]; exact A2.out.2.2.2)
  rw [hnv] at hnum
  subst hk0
  have A3 : Hid (RowAt w3 yo ym yc y ∧ RowAt w3 xo xm xc x ∧ Below w.heap.size w w3 ∧ y = x) := ⟨h1, A2.out.1.below b3, chain A2.out.2.2.1 b3, hnum.one (num_self A1.out.2.2.1 A1.out.2.1)⟩
  clear h1 h2 b3 HP hnv hnum
  go_wp2_with fail
  refine (rnsame_yes _ _ _ _ _ _ y x _ A3.out.1 A3.out.2.1 A3.out.2.2.2).mono ?_
  rintro e w4 ⟨rfl, b4⟩
  have A4 : Hid (RowAt w4 xo xm xc x ∧ Below w.heap.size w w4) := ⟨A3.out.2.1.below b4, chain A3.out.2.2.1 b4⟩
  clear b4 A3
  go_wp2_with fail
  refine (shown_any _ (R.out.2.1.below A4.out.2)).mono ?_
  rintro e w5 ⟨rfl, b5⟩
  have A5 : Hid (RowAt w5 xo xm xc x ∧ Below w.heap.size w w5) := ⟨A4.out.1.below b5, chain A4.out.2 b5⟩
  clear b5 A4
  by_cases hb : a1 < 2
  · go_wp2_with fail
    refine (base_any _ _ _ x a1 _ A5.out.1 R.out.2.2.2).mono ?_
    rintro e w6 ⟨lo, lm, lc, l, rfl, h1, h2, b6⟩
    have hl0 : l = [] := h2.none (fun h => by omega)
    have hlm : lm = 0 := by have := h1.len; rw [hl0] at this; exact this.symm
    have A6 : Hid (Below w.heap.size w w6) := chain A5.out.2 b6
    subst hlm
    clear h1 h2 b6 hl0
    go_wp2
    go_ret
    exact ⟨rfl, A6.out⟩
  · have hb2 : 2 ≤ a1 := by omega
    go_wp2_with fail
    refine (base_any _ _ _ x a1 _ A5.out.1 R.out.2.2.2).mono ?_
    rintro e w6 ⟨lo, lm, lc, l, rfl, h1, h2, b6⟩
    have hdg := h2.fine A1.out.2.1 hb2
    have A6 : Hid (RowAt w6 lo lm lc l ∧ Dig a1 l (val x) ∧ RowAt w6 xo xm xc x ∧ Below w.heap.size w w6 ∧ l.length ≤ 512) := ⟨h1, hdg, A5.out.1.below b6, chain A5.out.2 b6, few_digits hb2 A1.out.2.2.1 A1.out.2.1 _ hdg⟩
    clear h1 h2 b6 hdg
    go_wp2_with fail
    refine (from_any _ _ _ l a1 _ A6.out.1 R.out.2.2.2 (by have := A6.out.2.2.2.2; omega)).mono ?_
    rintro e w7 ⟨zo, zm, zc, z, zk, rfl, h1, h2, b7⟩
    rw [A6.out.2.1.val] at h2
    obtain ⟨hk0, hnum⟩ := h2.ok_num ⟨hb2, A6.out.2.1.digs⟩ (fun f => f) A2.out.2.2.2
    subst hk0
    have A7 : Hid (RowAt w7 zo zm zc z ∧ RowAt w7 xo xm xc x ∧ Below w.heap.size w w7 ∧ z = x) := ⟨h1, A6.out.2.2.1.below b7, chain A6.out.2.2.2.1 b7, hnum.one (num_self A1.out.2.2.1 A1.out.2.1)⟩
    clear h1 h2 b7 hnum
    go_wp2_with fail
    refine (rnsame_yes _ _ _ _ _ _ z x _ A7.out.1 A7.out.2.1 A7.out.2.2.2).mono ?_
    rintro e w8 ⟨rfl, b8⟩
    have A8 : Hid (Below w.heap.size w w8) := chain A7.out.2.2.1 b8
    clear b8
    go_wp2
    go_ret
    exact ⟨rfl, A8.out⟩

end Go.Proofs.YtghnmfkgpkikfaaGreatDoor
