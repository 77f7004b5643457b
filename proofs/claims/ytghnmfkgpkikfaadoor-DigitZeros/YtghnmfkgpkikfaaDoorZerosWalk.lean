/-
  DigitZeros, walked.
-/
import Derived.Test.YtghnmfkgpkikfaaDoorParse
import Derived.Test.YtghnmfkgpkikfaaDoorShown
import Derived.OpenShut
namespace Go.Proofs.YtghnmfkgpkikfaaDoor
open Go.RowKit

theorem app_bytes (s t : List UInt8) : (⟨s.toArray⟩ : ByteArray) ++ ⟨t.toArray⟩ = ⟨(s ++ t).toArray⟩ := by
  apply ByteArray.ext
  apply Array.ext'
  simp

theorem txt_few {s : List UInt8} {v : Int} (h : Txt s v) (hv : v < Big) : s.length ≤ 155 ∧ s ≠ [] := by
  obtain ⟨l, hl, rfl⟩ := h
  have := hl.few10 hv
  unfold txt
  by_cases e : l = []
  · simp [e]
  · rw [if_neg e, dtext_length]
    exact ⟨this, fun h => by have := congrArg List.length h; rw [dtext_length] at this; exact e (List.length_eq_zero_iff.1 this)⟩

theorem not_num_zeros {s : List UInt8} (hs : s ≠ []) (z : Nat) (hz : 0 < z) : ¬ IsNum (List.replicate z 48 ++ s) := by
  obtain ⟨m, rfl⟩ : ∃ m, z = m + 1 := ⟨z - 1, by omega⟩
  rintro ⟨_, h | h⟩
  · have := List.length_pos_iff.2 hs
    simp at h
    omega
  · rw [List.replicate_succ] at h
    simp at h

theorem not_num_odd {s : List UInt8} (c : UInt8) (hc : ¬ (48 ≤ c.toNat ∧ c.toNat ≤ 57)) : ¬ IsNum (s ++ [c]) := fun h => hc (h.1 c (by simp))

set_option maxRecDepth 100000 in
set_option maxHeartbeats 4000000 in
theorem zeros_walk (a0 : Option Addr) (len0 cap0 : Nat) (z0 : List Int) (a1 a2 : Int) (w : World) (w0 : IsRow .u64 w a0 len0 cap0 z0) (w1 : (Lit.int .u8 a1).wf = true) (w2 : (Lit.int .u8 a2).wf = true) (ht : Tab w) :
    Calls Tryd.prog 4 #[.slice a0 len0 cap0, .int .u8 a1, .int .u8 a2] w fun e w' => e = .returned (.bool true) ∧ Below w.heap.size w w' := by
  have r0 := w0.row
  generalize z0.take len0 = xs at r0
  obtain ⟨p0, p1⟩ := bounds_u8 w1
  obtain ⟨q0, q1⟩ := bounds_u8 w2
  clear w0 w1 w2
  have R0 : Hid (RowAt w a0 len0 cap0 xs ∧ Tab w) := ⟨r0, ht⟩
  clear r0 ht
  go_enter Tryd.func4, Tryd.ntmps4
  go_wp2_with fail
  refine (lheld_any _ _ _ xs _ R0.out.1).mono ?_
  rintro e w1 ⟨xo, xm, xc, x, rfl, g1, g2, g3, g4⟩
  have A1 : Hid (RowAt w1 xo xm xc x ∧ May x ∧ Limbs x ∧ xm ≤ 8 ∧ Below w.heap.size w w1) := ⟨g1, g2.1, g2.2, g3, g4⟩
  clear g1 g2 g3 g4
  go_wp2_with fail
  refine (print_any _ _ _ x _ A1.out.1 (R0.out.2.below A1.out.2.2.2.2)).mono ?_
  rintro e w2 ⟨s, rfl, p1', p2'⟩
  have hfew := txt_few (p1'.fine A1.out.2.1) (A1.out.2.1.lt A1.out.2.2.1)
  have A2 : Hid (Below w.heap.size w w2 ∧ s.length ≤ 155 ∧ s ≠ []) := ⟨chain A1.out.2.2.2.2 p2', hfew.1, hfew.2⟩
  clear p1' p2' hfew
  obtain ⟨S, hS⟩ : ∃ S : ByteArray, S = ⟨s.toArray⟩ := ⟨_, rfl⟩
  rw [← hS]
  have HS : Hid (S = ⟨s.toArray⟩) := hS
  clear hS
  obtain ⟨y, hy⟩ : ∃ y : Nat, (y : Int) = a1 % 5 := ⟨(a1 % 5).toNat, by have := Int.emod_nonneg a1 (show (5 : Int) ≠ 0 by decide); omega⟩
  have ht5 : a1.tmod 5 = (y : Int) := by rw [Int.tmod_eq_emod_of_nonneg p0]; omega
  have hy5 : (y : Int) ≤ 4 := by have := Int.emod_lt_of_pos a1 (show (0 : Int) < 5 by decide); omega
  clear hy
  go_wp2_with fail
  go_loopw [9, 10] (fun t i wr => ∃ (k : Nat) (T : ByteArray), t = .string T ∧ i = .int .i64 k ∧ k ≤ y + 1 ∧ wr = w2 ∧ Hid (T = ⟨(List.replicate k 48 ++ s).toArray⟩)) (fun _ i _ => y + 1 - (intOf i).toNat)
  case atStart => exact ⟨0, S, rfl, rfl, by omega, rfl, HS.out⟩
  case round =>
    obtain ⟨k, T, rfl, rfl, hk, rfl, hT⟩ := hrel
    have hTs : T.size ≤ 200 := by
      rw [hT.out, str_size]
      have := A2.out.2.1
      simp
      omega
    by_cases hlt : k < y + 1
    · have hlt' : (k : Int) < 1 + (y : Int) := by omega
      have HN : Hid ((⟨#[48]⟩ : ByteArray) ++ T = ⟨(List.replicate (k + 1) 48 ++ s).toArray⟩) := by
        have h9 : (⟨#[48]⟩ : ByteArray) ++ T = ⟨(List.replicate (k + 1) 48 ++ s).toArray⟩ := by
          rw [hT.out]
          exact app_bytes [48] _
        exact h9
      go_wp2
      go_roundw
      case rel => exact ⟨k + 1, _, rfl, by go_num, by omega, by first | rfl | trivial, HN.out⟩
      case measure => simp [intOf]; omega
    · have hkz : k = y + 1 := by omega
      have hlt' : ¬ (k : Int) < 1 + (y : Int) := by omega
      have hP := fun W => parse_any (List.replicate k 48 ++ s) W (by rw [← str_size, ← hT.out]; omega)
      rw [← hT.out] at hP
      have HP : Hid (∀ (u : Unit) W, Calls Tryd.prog 11 #[.string T] W _) := fun _ => hP
      have HK : Hid (¬ IsNum (List.replicate k 48 ++ s)) := not_num_zeros A2.out.2.2 k (by omega)
      clear hP hT
      go_wp2_with fail
      refine (HP.out () _).mono ?_
      rintro e w3 ⟨eo, em, ec, er, ek, rfl, h1, h2, h3⟩
      have hk40 := (h2.none HK.out).1
      subst hk40
      have A3 : Hid (Below w.heap.size w w3) := chain A2.out.1 h3
      clear h1 h2 h3 HP HK
      have HE := fun W => parse_any [] W (by simp)
      have HE2 : Hid (∀ (u : Unit) W, Calls Tryd.prog 11 #[.string ⟨#[]⟩] W _) := fun _ => HE
      clear HE
      go_wp2_with fail
      refine (HE2.out () _).mono ?_
      rintro e w4 ⟨fo, fm, fc, fr, fk, rfl, h1, h2, h3⟩
      have hk40 := (h2.none (fun h => by have := h.2; simp at this)).1
      subst hk40
      have A4 : Hid (Below w.heap.size w w4) := chain A3.out h3
      clear h1 h2 h3 HE2
      obtain ⟨c, hc⟩ : ∃ c : UInt8, (c.toNat : Int) = a2 := ⟨UInt8.ofNat a2.toNat, by rw [UInt8.toNat_ofNat']; omega⟩
      have hcb : (convert 34 9 (Value.slice (some { block := w4.heap.size, off := 0 }) 1 1)).run Tryd.prog (w4.alloc (Obj.cells #[Value.int IntKind.u8 a2] 5)) = .ok (.string ⟨[c].toArray⟩) (w4.alloc (Obj.cells #[Value.int IntKind.u8 a2] 5)) :=
        run_convert_bytes_back (P := Tryd.prog) _ 34 9 5 ⟨w4.heap.size, 0, none⟩ 1 [c] Tryd.underlying34 Tryd.underlying5 Tryd.underlying9 (fun j hj => by
          have hj0 : j = 0 := by simp at hj; omega
          subst hj0
          rw [Addr.add_lit, Nat.add_zero, (Boxed.new w4 5 (.int .u8 a2)).cell, ← hc]
          rfl)
      have hP := fun W => parse_any (s ++ [c]) W (by have := A2.out.2.1; simp; omega)
      have hSc : S ++ (⟨[c].toArray⟩ : ByteArray) = ⟨(s ++ [c]).toArray⟩ := by rw [HS.out]; exact app_bytes s [c]
      rw [← hSc] at hP
      have HP : Hid (∀ (u : Unit) W, Calls Tryd.prog 11 #[.string (S ++ ⟨[c].toArray⟩)] W _) := fun _ => hP
      obtain ⟨C, hC⟩ : ∃ C : ByteArray, (⟨[c].toArray⟩ : ByteArray) = C := ⟨_, rfl⟩
      have hCs : C.size = 1 := by rw [← hC]; rfl
      have hSs : S.size ≤ 155 := by rw [HS.out, str_size]; exact A2.out.2.1
      rw [hC] at hcb HP
      have HB4 : Hid (Below w.heap.size w (w4.alloc (Obj.cells #[Value.int IntKind.u8 a2] 5))) := A4.out.alloc A4.out.size _
      have HCC : Hid ((c.toNat : Int) = a2) := hc
      clear hP hSc hC hc
      go_wp2_with fail
      refine (HP.out () _).mono ?_
      rintro e w5 ⟨go, gm, gc, gr, gk, rfl, h1, h2, h3⟩
      have A5 : Hid (Below w.heap.size w w5) := chain HB4.out h3
      have HG : Hid (¬ (48 ≤ a2 ∧ a2 ≤ 57) → gk = 40) := fun hn => (h2.none (not_num_odd c (fun h => hn (by have := HCC.out; omega)))).1
      clear h1 h2 h3 HP HB4 hcb
      by_cases hd : 48 ≤ a2 ∧ a2 ≤ 57
      · have hd1 : ¬ a2 < 48 := by omega
        have hd2 := hd.1
        have hd3 := hd.2
        clear hd HG
        go_wp2_with fail
        refine (shown_any _ (R0.out.2.below A5.out)).mono ?_
        rintro e w6 ⟨rfl, b6⟩
        have A6 : Hid (Below w.heap.size w w6) := chain A5.out b6
        clear b6
        go_wp2
        go_ret
        exact ⟨rfl, A6.out⟩
      · have hgk := HG.out hd
        subst hgk
        clear HG
        by_cases hd1 : a2 < 48
        · have hd2 : ¬ 48 ≤ a2 := by omega
          clear hd
          go_wp2_with fail
          refine (shown_any _ (R0.out.2.below A5.out)).mono ?_
          rintro e w6 ⟨rfl, b6⟩
          have A6 : Hid (Below w.heap.size w w6) := chain A5.out b6
          clear b6
          go_wp2
          go_ret
          exact ⟨rfl, A6.out⟩
        · have hd2 : 48 ≤ a2 := by omega
          have hd3 : ¬ a2 ≤ 57 := by omega
          clear hd
          go_wp2_with fail
          refine (shown_any _ (R0.out.2.below A5.out)).mono ?_
          rintro e w6 ⟨rfl, b6⟩
          have A6 : Hid (Below w.heap.size w w6) := chain A5.out b6
          clear b6
          go_wp2
          go_ret
          exact ⟨rfl, A6.out⟩

end Go.Proofs.YtghnmfkgpkikfaaDoor
