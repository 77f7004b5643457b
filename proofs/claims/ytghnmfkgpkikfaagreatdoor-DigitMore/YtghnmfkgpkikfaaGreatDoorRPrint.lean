/-
  The reference's Print of layer 4.
-/
import Derived.Test.YtghnmfkgpkikfaaGreatDoorRBase
import Derived.Test.YtghnmfkgpkikfaaGreatDoorPart
namespace Go.Proofs.YtghnmfkgpkikfaaGreatDoor
open Go.RowKit

theorem app_bytes (s t : List UInt8) : (⟨s.toArray⟩ : ByteArray) ++ ⟨t.toArray⟩ = ⟨(s ++ t).toArray⟩ := by
  apply ByteArray.ext
  apply Array.ext'
  simp

theorem ten_piece (d : Nat) (h : d < 10) : (⟨#[48, 49, 50, 51, 52, 53, 54, 55, 56, 57]⟩ : ByteArray).extract d (d + 1) = ⟨[dch (d : Int)].toArray⟩ := by
  have e := ext_bytes [48, 49, 50, 51, 52, 53, 54, 55, 56, 57] d (d + 1)
  refine e.trans ?_
  have : d = 0 ∨ d = 1 ∨ d = 2 ∨ d = 3 ∨ d = 4 ∨ d = 5 ∨ d = 6 ∨ d = 7 ∨ d = 8 ∨ d = 9 := by omega
  rcases this with rfl | rfl | rfl | rfl | rfl | rfl | rfl | rfl | rfl | rfl <;> rfl

set_option maxRecDepth 100000 in
set_option maxHeartbeats 2000000 in
theorem rprint_any (ao : Option Addr) (na ca : Nat) (xs : List Int) (w : World) (ha : RowAt w ao na ca xs) :
    Calls Tryz.prog 14 #[.slice ao na ca] w fun e w' => ∃ s, e = .returned (.string ⟨s.toArray⟩) ∧ PrintOut xs s ∧ Below w.heap.size w w' := by
  have HA : Hid (RowAt w ao na ca xs) := ha
  have hlx := ha.limbs
  have HLX : Hid (Limbs xs) := hlx
  clear ha hlx
  by_cases hm : May xs
  · have HM : Hid (May xs) := hm
    clear hm
    go_enter Tryz.func14, Tryz.ntmps14
    go_wp2_with fail
    refine (rmay_val _ _ _ xs _ HA.out true (yes_iff HM.out)).mono ?_
    rintro e w1 ⟨rfl, rfl⟩
    go_wp2_with fail
    refine (rbase_any ao na ca xs 10 _ HA.out (by omega) (by unfold BB; omega)).mono ?_
    rintro e w1 ⟨lo, ln, lc, l, rfl, g1, g2, g3⟩
    have hdg := g2.fine HM.out (by omega)
    have hfew := hdg.few10 (May.lt HLX.out HM.out)
    have HL : Hid (RowAt w1 lo ln lc l ∧ Dig 10 l (val xs) ∧ Below w.heap.size w w1 ∧ l.length = ln ∧ l.length ≤ 155) := ⟨g1, hdg, g3, g1.len, hfew⟩
    have hln : ln ≤ 155 := by have := g1.len; omega
    clear g1 g2 g3 hdg hfew
    by_cases h0 : ln = 0
    · have h0b : ((ln : Int) == 0) = true := by rw [h0]; rfl
      have HT : Hid (Txt [48] (val xs)) := ⟨l, HL.out.2.1, by
        have : l = [] := List.length_eq_zero_iff.1 (by have := HL.out.2.2.2.1; omega)
        rw [this]
        rfl⟩
      clear h0
      go_wp2_with fail
      go_ret
      exact ⟨[48], rfl, ⟨fun h => absurd HM.out h, fun _ => HT.out⟩, HL.out.2.2.1⟩
    · have h0b : ((ln : Int) == 0) = false := by rw [beq_eq_false_iff_ne]; omega
      have hne : l ≠ [] := fun e => by have := HL.out.2.2.2.1; rw [e] at this; simp at this; omega
      obtain ⟨lb, loff, rfl, hllt, hlc⟩ := HL.out.1.cells hne
      have HC : Hid (∀ j, j < l.length → w1.cell? ⟨lb, loff + j, none⟩ = some (.int .u64 (l.getD j 0))) := hlc
      have HNE : Hid (l ≠ []) := hne
      clear hlc hne
      go_wp2_with fail
      go_loopw [4, 5] (fun t i wr => ∃ (k : Nat) (T : ByteArray), t = .string T ∧ i = .int .i64 k ∧ k ≤ ln ∧ Hid (Eqw wr w1) ∧ Hid (T = ⟨(dtext (l.take k)).toArray⟩)) (fun _ i _ => ln - (intOf i).toNat)
      case atStart => exact ⟨0, _, rfl, rfl, Nat.zero_le _, Eqw.refl _, rfl⟩
      case round =>
        obtain ⟨k, T, rfl, rfl, hk, hq, hT⟩ := hrel
        have hTs : T.size ≤ 200 := by
          rw [hT.out, str_size, dtext_length]
          simp
          omega
        by_cases hlt : k < ln
        · have hlt' : (k : Int) < (ln : Int) := by omega
          have hkl : k < l.length := by have := HL.out.2.2.2.1; omega
          have hck : wr.cell? ⟨lb, loff + k, none⟩ = some (.int .u64 (l.getD k 0)) := (hq.out.cell _).trans (HC.out k hkl)
          have hmem : l.getD k 0 ∈ l := by
            rw [List.getD_eq_getElem?_getD, List.getElem?_eq_getElem hkl]
            exact List.getElem_mem _
          have hdk := HL.out.2.1.digs _ hmem
          have htk : dtext (l.take (k + 1)) = [dch (l.getD k 0)] ++ dtext (l.take k) := by
            have e : l.take (k + 1) = l.take k ++ [l.getD k 0] := by
              rw [List.take_add_one, List.getElem?_eq_getElem hkl]
              simp [hkl]
            rw [e, dtext_snoc]
            rfl
          obtain ⟨d, hd⟩ : ∃ d : Nat, (d : Int) = l.getD k 0 := ⟨(l.getD k 0).toNat, by omega⟩
          rw [← hd] at hck hdk htk
          have hd10 : (d : Int) ≤ 9 := by omega
          have hpc := ten_piece d (by omega)
          have HN : Hid ((⟨[dch (d : Int)].toArray⟩ : ByteArray) ++ T = ⟨(dtext (l.take (k + 1))).toArray⟩) := by
            have h9 : (⟨[dch (d : Int)].toArray⟩ : ByteArray) ++ T = ⟨(dtext (l.take (k + 1))).toArray⟩ := by
              rw [hT.out, htk]
              exact app_bytes _ _
            exact h9
          obtain ⟨D, hD⟩ : ∃ D : ByteArray, (⟨[dch (d : Int)].toArray⟩ : ByteArray) = D := ⟨_, rfl⟩
          have hDs : D.size = 1 := by rw [← hD]; rfl
          rw [hD] at hpc HN
          clear hD hmem htk hd hkl hdk
          go_wp2_with fail
          go_quiet (fail)
          go_wp2_with fail
          go_roundw
          case rel => exact ⟨k + 1, _, rfl, by go_num, by omega, hq.out.drewN _, HN.out⟩
          case measure => simp [intOf]; omega
        · have hlt' : ¬ (k : Int) < (ln : Int) := by omega
          have hkn : k = ln := by omega
          have HT : Hid (T = ⟨(dtext l).toArray⟩) := by
            have h := hT.out
            rw [hkn, ← HL.out.2.2.2.1, List.take_length] at h
            exact h
          clear hT
          go_wp2_with fail
          go_ret
          exact ⟨dtext l, by rw [← HT.out]; rfl, ⟨fun h => absurd HM.out h, fun _ => ⟨l, HL.out.2.1, by unfold txt; rw [if_neg HNE.out]⟩⟩, hq.out.below HL.out.2.2.1⟩
  · have HM : Hid (¬ May xs) := hm
    clear hm
    go_enter Tryz.func14, Tryz.ntmps14
    go_wp2_with fail
    refine (rmay_val _ _ _ xs _ HA.out false (no_iff HM.out)).mono ?_
    rintro e w1 ⟨rfl, rfl⟩
    go_wp2_with fail
    go_ret
    exact ⟨[], rfl, ⟨fun _ => rfl, fun h => absurd h HM.out⟩, Below.refl _ _⟩

end Go.Proofs.YtghnmfkgpkikfaaGreatDoor
