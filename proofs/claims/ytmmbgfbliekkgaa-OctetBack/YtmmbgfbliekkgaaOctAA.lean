/-
  The reference's PutNat.
-/
import Derived.Test.YtmmbgfbliekkgaaOctZ
import Derived.Test.YtmmbgfbliekkgaaK1
namespace Go.Proofs.Ytmmbgfbliekkgaa
open Go.RowKit

set_option maxHeartbeats 1000000 in
theorem rputNat_bad (ao : Option Addr) (n cap : Nat) (xs : List Int) (w : World) (h : RowAt w ao n cap xs) (hm : ¬ May xs) :
    Calls Try.prog 12 #[.slice ao n cap] w fun e w' => e = .returned (.tuple #[.string (str []), .int .i64 1]) ∧ Below w.heap.size w w' := by
  have H : Hid (RowAt w ao n cap xs ∧ ¬ May xs) := ⟨h, hm⟩
  clear h hm
  go_enter Try.func12, Try.ntmps12
  go_wp2_with fail
  refine (rmay_val _ _ _ _ _ H.out.1 false ⟨(fun e => by cases e), fun e => absurd e H.out.2⟩).mono ?_
  rintro e w1 ⟨rfl, rfl⟩
  go_wp2_with fail
  go_ret2
  exact ⟨rfl, Below.refl _ _⟩

set_option maxRecDepth 100000 in
set_option maxHeartbeats 4000000 in
theorem rputNat_ok (ao : Option Addr) (n cap : Nat) (xs : List Int) (w : World) (h : RowAt w ao n cap xs) (hm : May xs) :
    Calls Try.prog 12 #[.slice ao n cap] w fun e w' => e = .returned (.tuple #[.string (str (putN xs)), .int .i64 0]) ∧ Below w.heap.size w w' := by
  have hlen := h.len
  have h8 : n ≤ 8 := by have := hm.1; omega
  have h8' : (n : Int) ≤ 8 := by omega
  have HA : Hid (RowAt w ao n cap xs ∧ May xs ∧ xs.length = n) := ⟨h, hm, hlen⟩
  obtain ⟨S, hS⟩ : ∃ S, S = putL n := ⟨_, rfl⟩
  have HS : Hid (S = putL n) := hS
  have hS9 : S.length ≤ 9 := by rw [hS, putL_length]; have := cntB_le n (by omega); omega
  clear h hm hlen hS
  go_enter Try.func12, Try.ntmps12
  go_wp2_with fail
  refine (rmay_val _ _ _ _ _ HA.out.1 true ⟨fun _ => HA.out.2.1, fun _ => rfl⟩).mono ?_
  rintro e w0 ⟨rfl, rfl⟩
  go_wp2_with fail
  refine (rput_n n _ (by omega)).mono ?_
  rw [← HS.out]
  rintro e w1 ⟨rfl, b1⟩
  have H1 : Hid (Below w.heap.size w w1) := b1
  clear b1
  go_wp2_with fail
  go_loopg [4, 5] n (fun r s i wr => ∃ (j : Nat) (A : List UInt8), j ≤ n ∧ n - j ≤ r ∧ s = .string (str A) ∧ i = .int .i64 ((n : Int) - 1 - (j : Int)) ∧ A.length ≤ 9 + 8 * j ∧ Hid (A = S ++ limbB (xs.reverse.take j) ∧ Below w.heap.size w wr))
  case atStart => exact ⟨0, S, Nat.zero_le _, by omega, rfl, by go_num, by omega, by simp [limbB], H1.out⟩
  case round =>
    obtain ⟨j, A, hj, hjr, rfl, rfl, hA, hO⟩ := hrel
    by_cases h0 : j = n
    · subst h0
      have e0 : (j : Int) - 1 - (j : Int) = -1 := by omega
      rw [e0]
      have HE : Hid (A = putN xs ∧ Below w.heap.size w wr) := by
        refine ⟨?_, hO.out.2⟩
        rw [hO.out.1, List.take_of_length_le (by rw [List.length_reverse, HA.out.2.2]; exact Nat.le_refl _), HS.out, ← HA.out.2.2]
        rfl
      clear hO e0
      go_wp2_with fail
      go_ret2
      exact ⟨by rw [← HE.out.1]; rfl, HE.out.2⟩
    · obtain ⟨i, hi⟩ : ∃ i, n = i + 1 + j := ⟨n - 1 - j, by omega⟩
      have hij : (n : Int) - 1 - (j : Int) = (i : Int) := by omega
      rw [hij]
      have hil : (i : Int) < (n : Int) := by omega
      have hiN : i < n := by omega
      have hne : xs ≠ [] := by intro e; have := HA.out.2.2; rw [e] at this; simp at this; omega
      obtain ⟨b, off, rfl, hlt, hc⟩ := (HA.out.1.below hO.out.2).cells hne
      have hxi : i < xs.length := by rw [HA.out.2.2]; exact hiN
      have hci := hc i hxi
      obtain ⟨d, hd⟩ : ∃ d : Nat, (xs.getD i 0) = (d : Int) ∧ d < 18446744073709551616 := by
        have hm := HA.out.1.limbs (xs.getD i 0) (by rw [List.getD_eq_getElem?_getD, List.getElem?_eq_getElem hxi]; exact List.getElem_mem _)
        unfold BB at hm
        exact ⟨(xs.getD i 0).toNat, by omega, by omega⟩
      have hci2 : wr.cell? ⟨b, off + i, none⟩ = some (.int .u64 (d : Int)) := by rw [hci]; simp only [hd.1]
      have HD : Hid (d < 18446744073709551616 ∧ limbB (xs.reverse.take (j + 1)) = limbB (xs.reverse.take j) ++ lowB d 8 ∧ n = i + 1 + j) := by
        refine ⟨hd.2, ?_, hi⟩
        have hjl : j < xs.reverse.length := by rw [List.length_reverse, HA.out.2.2]; omega
        have e1 : xs.reverse[j] = (d : Int) := by
          rw [List.getElem_reverse, ← hd.1, List.getD_eq_getElem?_getD, List.getElem?_eq_getElem hxi]
          simp only [Option.getD_some]
          congr 1
          have := HA.out.2.2
          omega
        rw [take_nextY _ j hjl, limbB_snoc, e1, Int.toNat_natCast]
      have HK : Hid (0 ≤ n ∧ _) := ⟨Nat.zero_le _, hjr⟩
      have hA72 : ((str A).size : Int) ≤ 100 := by rw [str_size]; omega
      obtain ⟨T, hT⟩ : ∃ T, T = lowB d 8 := ⟨_, rfl⟩
      have hTs : (str T).size = 8 := by rw [str_size, hT, lowB_length]
      have hap : str A ++ str T = str (A ++ T) := str_append _ _
      have hsA : (str A).size = A.length := str_size A
      have HT : Hid (T = lowB d 8) := hT
      clear hd hci hc hi hij hjr hne hT h0 hj
      go_wp2_with fail
      refine (fixed_any d 8 _ HD.out.1 (by decide)).mono ?_
      rw [← HT.out]
      rintro e w2 ⟨rfl, b2⟩
      have H2 : Hid (Below w.heap.size w w2) := chain hO.out.2 b2
      clear b2 hci2
      go_wp2_with fail
      go_roundg (n - (j + 1))
      case measure => have := HD.out; have := HK.out; omega
      case rel =>
        refine ⟨j + 1, A ++ T, by have := HD.out; omega, Nat.le_refl _, rfl, ?_, ?_, ?_, H2.out⟩
        · congr 1
          have := HD.out
          omega
        · rw [List.length_append, HT.out, lowB_length]; omega
        · rw [HD.out.2.1, hO.out.1, HT.out, List.append_assoc]
end Go.Proofs.Ytmmbgfbliekkgaa
