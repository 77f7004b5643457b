/-
  DigitParses, walked.
-/
import Derived.Test.YtghnmfkgpkikfaaGreatDoorShown
import Derived.Test.YtghnmfkgpkikfaaGreatDoorParse
import Derived.Test.YtghnmfkgpkikfaaGreatDoorRParse
import Derived.Test.YtghnmfkgpkikfaaGreatDoorJ3
import Derived.OpenShut
namespace Go.Proofs.YtghnmfkgpkikfaaGreatDoor
open Go.RowKit

/-- A text that was parsed is its number's text. -/
theorem ParseOut.back {s : List UInt8} {r : List Int} {t : List UInt8} (h : ParseOut s r 0) (p : PrintOut r t) : t = s := by
  by_cases hn : IsNum s
  · by_cases hb : Big ≤ nv s
    · have := (h.big hn hb).1
      omega
    · obtain ⟨_, hr⟩ := h.fine hn (by omega)
      have ht := p.fine (hr.may.2 (by omega))
      rw [hr.val] at ht
      exact ht.one hn.txt
  · have := (h.none hn).1
    omega

set_option maxRecDepth 100000 in
set_option maxHeartbeats 4000000 in
theorem parses_walk (a0 : ByteArray) (w : World) (w0 : a0.size ≤ maxLen) (ht : Tab w) :
    Calls Tryz.prog 4 #[.string a0] w fun e w' => e = .returned (.bool true) ∧ Below w.heap.size w w' := by
  obtain ⟨s, hs⟩ : ∃ s, a0 = ⟨List.toArray s⟩ := ⟨a0.data.toList, rfl⟩
  have hsz : a0.size = s.length := by rw [hs]; exact str_size s
  unfold maxLen at w0
  have R : Hid (Tab w ∧ a0 = ⟨s.toArray⟩ ∧ a0.size = s.length) := ⟨ht, hs, hsz⟩
  clear ht hs hsz
  by_cases l0 : 300 < a0.size
  · have l0' : (300 : Int) < (a0.size : Int) := by omega
    go_enter Tryz.func4, Tryz.ntmps4
    go_wp2_with fail
    refine (shown_any _ R.out.1).mono ?_
    rintro e w1 ⟨rfl, b1⟩
    have B1 : Hid _ := b1
    clear b1
    go_wp2
    go_ret
    exact ⟨rfl, B1.out⟩
  · have l0' : ¬ (300 : Int) < (a0.size : Int) := by omega
    have hP := fun W => parse_any s W (by have := R.out.2.2; omega)
    have hQ := fun W => rparse_any s W (by have := R.out.2.2; omega)
    rw [← R.out.2.1] at hP hQ
    have HP : Hid (∀ (u : Unit) W, Calls Tryz.prog 16 #[.string a0] W _) := fun _ => hP
    have HQ : Hid (∀ (u : Unit) W, Calls Tryz.prog 17 #[.string a0] W _) := fun _ => hQ
    clear hP hQ
    go_enter Tryz.func4, Tryz.ntmps4
    go_wp2_with fail
    refine (shown_any _ R.out.1).mono ?_
    rintro e w1 ⟨rfl, b1⟩
    have A1 : Hid (Below w.heap.size w w1) := b1
    clear b1
    go_wp2_with fail
    refine (HP.out () _).mono ?_
    rintro e w2 ⟨xo, xm, xc, x, xk, rfl, h1, h2, b2⟩
    have X : Hid (RowAt w2 xo xm xc x ∧ ParseOut s x xk ∧ Below w.heap.size w w2) := ⟨h1, h2, chain A1.out b2⟩
    clear h1 h2 b2 A1 HP
    go_wp2_with fail
    refine (HQ.out () _).mono ?_
    rintro e w3 ⟨yo, ym, yc, y, yk, rfl, h1, h2, b3⟩
    have eqk := (h2.one X.out.2.1).2
    have EQ : Hid (x = y) := (X.out.2.1.one h2).1
    subst eqk
    have Y : Hid (RowAt w3 xo xm xc x ∧ RowAt w3 yo ym yc y ∧ Below w.heap.size w w3 ∧ ParseOut s x yk) := ⟨X.out.1.below b3, h1, chain X.out.2.2 b3, X.out.2.1⟩
    clear h1 h2 b3 X HQ
    go_wp2_with fail
    refine (rnsame_yes _ _ _ _ _ _ x y _ Y.out.1 Y.out.2.1 EQ.out).mono ?_
    rintro e w4 ⟨rfl, b4⟩
    have Z : Hid (RowAt w4 xo xm xc x ∧ Below w.heap.size w w4 ∧ ParseOut s x yk) := ⟨Y.out.1.below b4, chain Y.out.2.2.1 b4, Y.out.2.2.2⟩
    clear b4 Y EQ
    by_cases hk : yk = 0
    · subst hk
      go_wp2_with fail
      refine (print_any _ _ _ x _ Z.out.1 (R.out.1.below Z.out.2.1)).mono ?_
      rintro e w5 ⟨t, rfl, h1, b5⟩
      have hts : (⟨t.toArray⟩ : ByteArray) = a0 := by rw [R.out.2.1, Z.out.2.2.back h1]
      have A5 : Hid (Below w.heap.size w w5) := chain Z.out.2.1 b5
      rw [hts]
      clear h1 b5 hts
      go_wp2
      go_ret
      exact ⟨rfl, A5.out⟩
    · have hkb : (yk != 0) = true := by rw [bne_iff_ne]; exact hk
      go_wp2
      go_ret
      exact ⟨rfl, Z.out.2.1⟩

end Go.Proofs.YtghnmfkgpkikfaaGreatDoor
