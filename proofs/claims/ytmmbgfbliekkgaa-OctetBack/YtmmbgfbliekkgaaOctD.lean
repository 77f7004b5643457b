/-
  The reader's number, and octet.Get.
-/
import Derived.Test.YtmmbgfbliekkgaaOctC
import Derived.Defers
import Derived.Recover
namespace Go.Proofs.Ytmmbgfbliekkgaa
open Go.RowKit

/-- The number that s begins by, and what is behind; or the error. -/
def numL (s : List UInt8) : Except Int (Nat × List UInt8) :=
  match s with
  | [] => .error 60
  | k :: r => if 8 < k.toNat then .error 62 else if r.length < k.toNat then .error 60 else if 0 < k.toNat ∧ r.getD 0 0 = 0 then .error 62 else .ok (joinL (r.take k.toNat), r.drop k.toNat)

theorem grown2 {a b c : World} {R : Nat} (h : a.grownBy b (some R)) (k : b.grownBy c (some R)) : a.grownBy c (some R) := grown_trans h k (.inl rfl)
theorem grown_below {a b : World} (h : Below a.heap.size a b) (row : Option Nat) : a.grownBy b row := ⟨h.os, h.tape, h.output, h.size, fun k hk _ => h.block k hk⟩
theorem Left.below {W W' : World} {R : Nat} {S : ByteArray} (h : Left W R S) (hb : Below W.heap.size W W') : Left W' R S := (hb.block R h.lt).trans h

theorem joined_T (T : ByteArray) (t : List UInt8) (hT : T = str t) (w : World) (hl : t.length ≤ 8) :
    Calls Try.prog 58 #[.string T] w fun e w' => e = .returned (.int .u64 (joinL t : Nat)) ∧ Below w.heap.size w w' := by
  subst hT
  exact joined_any t w hl

theorem str_empty (s : List UInt8) : (str s).toList.isEmpty = s.isEmpty := by rw [Lib.toList_data]; rfl
theorem str_get0 {s : List UInt8} {S : ByteArray} (h : S = str s) (h0 : 0 < S.size) : S[0] = s.getD 0 0 := by
  subst h
  cases s with
  | nil => simp [str, ByteArray.size] at h0
  | cons c r => rfl
theorem bne_byte (c : UInt8) (h : c ≠ 0) : ((c.toNat : Int) != 0) = true := by
  rw [bne_iff_ne]
  intro e
  apply h
  rw [← UInt8.toNat_inj]
  simp
  omega

set_option maxRecDepth 100000 in
set_option maxHeartbeats 2000000 in
theorem number_ok (R : Nat) (s : List UInt8) (n : Nat) (rest : List UInt8) (w : World) (h : Left w R (str s)) (hn : numL s = .ok (n, rest)) (hs : s.length ≤ 80000) :
    Calls Try.prog 39 #[.pointer (some ⟨R, 0, none⟩)] w fun e w' => e = .returned (.int .u64 n) ∧ Left w' R (str rest) ∧ w.grownBy w' (some R) := by
  cases s with
  | nil => cases hn
  | cons k r =>
    simp only [numL] at hn
    split at hn
    · cases hn
    rename_i h8
    split at hn
    · cases hn
    rename_i hl
    split at hn
    · cases hn
    rename_i hz
    injection hn with hn
    obtain ⟨rfl, rfl⟩ := Prod.mk.inj hn
    have H0 : Hid (Left w R (str (k :: r)) ∧ k.toNat ≤ 8 ∧ k.toNat ≤ r.length ∧ r.length ≤ 80000) := ⟨h, by omega, by omega, by simp at hs; omega⟩
    obtain ⟨K, hK⟩ : ∃ K : Nat, K = k.toNat := ⟨_, rfl⟩
    have HK : Hid (k.toNat = K) := hK.symm
    have hK8 : (K : Int) ≤ 8 := by omega
    have hwr : (K : Int) % 18446744073709551616 = (K : Int) := by omega
    rw [← hK]
    rw [← hK] at hz
    clear h hs hl h8 hn hK
    go_enter Try.func39, Try.ntmps39
    go_wp2_with fail
    refine (upTo_ok R k r 8 _ H0.out.1 H0.out.2.1 (by have := H0.out.2.2.2; omega)).mono ?_
    rw [HK.out]
    rintro e w1 ⟨rfl, h1, h2⟩
    have H1 : Hid (Left w1 R (str r) ∧ w.grownBy w1 (some R)) := ⟨h1, h2⟩
    clear h1 h2
    go_wp2_with fail
    refine (takeS_ok R r K _ H1.out.1 (by have := H0.out.2.2.1; rw [HK.out] at this; exact this) (by have := H0.out.2.2.2; omega)).mono ?_
    rintro e w2 ⟨rfl, h1, h2⟩
    have H2 : Hid (Left w2 R (str (r.drop K)) ∧ w.grownBy w2 (some R)) := ⟨h1, grown2 H1.out.2 h2⟩
    clear h1 h2
    obtain ⟨T, hT⟩ : ∃ T, T = str (r.take K) := ⟨_, rfl⟩
    rw [← hT]
    have hlen : (r.take K).length = K := by have := H0.out.2.2.1; rw [HK.out] at this; simp; omega
    have HT : Hid (T = str (r.take K) ∧ T.size = K ∧ (r.take K).length = K) := ⟨hT, by rw [hT, str_size, hlen], hlen⟩
    clear hT hlen
    by_cases hk0 : K = 0
    · have hb : T.toList.isEmpty = true := by rw [HT.out.1, str_empty, hk0]; rfl
      clear hk0 hz
      go_wp2_with (go_at_call 57; refine (formed_yes _).mono ?_; rintro e w3 ⟨rfl, rfl⟩)
      refine (joined_T T _ HT.out.1 _ (by have := HT.out.2.2; omega)).mono ?_
      rintro e w4 ⟨rfl, h1⟩
      have H4 : Hid (Below w2.heap.size w2 w4) := h1
      clear h1
      go_wp2_with fail
      go_ret
      exact ⟨rfl, H2.out.1.below H4.out, grown2 H2.out.2 (grown_below H4.out _)⟩
    · have hb : T.toList.isEmpty = false := by
        rw [HT.out.1, str_empty]
        cases hr : r.take K with
        | nil => have := HT.out.2.2; rw [hr] at this; exact absurd this.symm hk0
        | cons x xs => rfl
      have hT0 : 0 < T.size := by rw [HT.out.2.1]; omega
      have hne : ((T[0].toNat : Int) != 0) = true := by
        rw [str_get0 HT.out.1 hT0]
        refine bne_byte _ (fun e => hz ⟨by omega, ?_⟩)
        cases r with
        | nil => rfl
        | cons x xs =>
          obtain ⟨K', rfl⟩ : ∃ K', K = K' + 1 := ⟨K - 1, by omega⟩
          simpa using e
      clear hk0 hz
      go_wp2_with (go_at_call 57; refine (formed_yes _).mono ?_; rintro e w3 ⟨rfl, rfl⟩)
      refine (joined_T T _ HT.out.1 _ (by have := HT.out.2.2; omega)).mono ?_
      rintro e w4 ⟨rfl, h1⟩
      have H4 : Hid (Below w2.heap.size w2 w4) := h1
      clear h1
      go_wp2_with fail
      go_ret
      exact ⟨rfl, H2.out.1.below H4.out, grown2 H2.out.2 (grown_below H4.out _)⟩

set_option maxRecDepth 100000 in
set_option maxHeartbeats 2000000 in
theorem number_err (R : Nat) (s : List UInt8) (n : Int) (w : World) (h : Left w R (str s)) (hn : numL s = .error n) (hs : s.length ≤ 80000) :
    Calls Try.prog 39 #[.pointer (some ⟨R, 0, none⟩)] w fun e w' => e = pan n ∧ w.grownBy w' (some R) := by
  cases s with
  | nil =>
    cases hn
    have H0 : Hid (Left w R (str [])) := h
    clear h hs
    go_enter Try.func39, Try.ntmps39
    go_wp2_with fail
    refine (upTo_short R 8 _ H0.out).mono ?_
    rintro e w1 ⟨rfl, rfl⟩
    exact ⟨rfl, rfl, grown_refl _ _⟩
  | cons k r =>
    simp only [numL] at hn
    have H0 : Hid (Left w R (str (k :: r)) ∧ r.length ≤ 80000) := ⟨h, by simp at hs; omega⟩
    clear h hs
    split at hn
    · cases hn
      rename_i h8
      have H8 : Hid (8 < k.toNat) := h8
      clear h8
      go_enter Try.func39, Try.ntmps39
      go_wp2_with fail
      refine (upTo_form R k r 8 _ H0.out.1 H8.out (by have := H0.out.2; omega)).mono ?_
      rintro e w1 ⟨rfl, h1⟩
      exact ⟨rfl, rfl, h1⟩
    rename_i h8
    obtain ⟨K, hK⟩ : ∃ K : Nat, K = k.toNat := ⟨_, rfl⟩
    have HK : Hid (k.toNat = K) := hK.symm
    have hK8 : (K : Int) ≤ 8 := by omega
    have hwr : (K : Int) % 18446744073709551616 = (K : Int) := by omega
    rw [← hK] at hn
    clear hK h8
    split at hn
    · cases hn
      rename_i hl
      have HLL : Hid (r.length < K) := hl
      clear hl
      go_enter Try.func39, Try.ntmps39
      go_wp2_with fail
      refine (upTo_ok R k r 8 _ H0.out.1 (by rw [HK.out]; omega) (by have := H0.out.2; omega)).mono ?_
      rw [HK.out]
      rintro e w1 ⟨rfl, h1, h2⟩
      have H1 : Hid (Left w1 R (str r) ∧ w.grownBy w1 (some R)) := ⟨h1, h2⟩
      clear h1 h2
      go_wp2_with fail
      refine (takeS_err R r K _ H1.out.1 HLL.out (by have := H0.out.2; omega) (by unfold BB; omega)).mono ?_
      rintro e w2 ⟨rfl, rfl⟩
      exact ⟨rfl, rfl, H1.out.2⟩
    rename_i hl
    split at hn
    · cases hn
      rename_i hz
      have HZ : Hid (0 < K ∧ r.getD 0 0 = 0 ∧ K ≤ r.length) := ⟨hz.1, hz.2, by omega⟩
      clear hz hl
      go_enter Try.func39, Try.ntmps39
      go_wp2_with fail
      refine (upTo_ok R k r 8 _ H0.out.1 (by rw [HK.out]; omega) (by have := H0.out.2; omega)).mono ?_
      rw [HK.out]
      rintro e w1 ⟨rfl, h1, h2⟩
      have H1 : Hid (Left w1 R (str r) ∧ w.grownBy w1 (some R)) := ⟨h1, h2⟩
      clear h1 h2
      go_wp2_with fail
      refine (takeS_ok R r K _ H1.out.1 HZ.out.2.2 (by have := H0.out.2; omega)).mono ?_
      rintro e w2 ⟨rfl, h1, h2⟩
      have H2 : Hid (w.grownBy w2 (some R)) := grown2 H1.out.2 h2
      clear h1 h2
      obtain ⟨T, hT⟩ : ∃ T, T = str (r.take K) := ⟨_, rfl⟩
      rw [← hT]
      obtain ⟨r', hr'⟩ : ∃ r', r = 0 :: r' := by
        have h1 := HZ.out
        cases r with
        | nil => simp at h1; omega
        | cons c r' => exact ⟨r', by have := h1.2.1; simp at this; rw [this]⟩
      have htk : r.take K = 0 :: r'.take (K - 1) := by
        rw [hr', show K = (K - 1) + 1 by have := HZ.out.1; omega]
        rfl
      rw [htk] at hT
      have hb : T.toList.isEmpty = false := by rw [hT, str_empty]; rfl
      have hT0 : 0 < T.size := by rw [hT, str_size]; exact Nat.zero_lt_succ _
      have hne : ((T[0].toNat : Int) != 0) = false := by
        rw [str_get0 hT hT0]
        rfl
      clear hT htk hr'
      go_wp2_with fail
      refine (formed_no _).mono ?_
      rintro e w3 ⟨rfl, rfl⟩
      exact ⟨rfl, rfl, H2.out⟩
    · cases hn
end Go.Proofs.Ytmmbgfbliekkgaa
