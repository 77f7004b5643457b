/-
  Joined: OctD · OctM · OctY.
-/
import Derived.Test.YtnedghhcidohnaaGreatOctC
import Derived.Defers
import Derived.Recover

/-! The reader's number, and octet.Get. -/
namespace Go.Proofs.YtnedghhcidohnaaGreat
open Go.RowKit

/-- The number that s begins by, and what is behind; or the error. -/
def numL (s : List UInt8) : Except Int (Nat × List UInt8) :=
  match s with
  | [] => .error 60
  | k :: r => if 8 < k.toNat then .error 62 else if r.length < k.toNat then .error 60 else if 0 < k.toNat ∧ r.getD 0 0 = 0 then .error 62 else .ok (joinL (r.take k.toNat), r.drop k.toNat)

theorem grown2 {a b c : World} {R : Nat} (h : a.grownBy b (some R)) (k : b.grownBy c (some R)) : a.grownBy c (some R) := grown_trans h k (.inl rfl)
theorem grown_below {a b : World} (h : Below a.heap.size a b) (row : Option Nat) : a.grownBy b row := ⟨h.os, h.tape, h.output, h.size, fun k hk _ => h.block k hk⟩
theorem Left.below {W W' : World} {R : Nat} {S : ByteArray} (h : Left W R S) (hb : Below W.heap.size W W') : Left W' R S := (hb.block R h.lt).trans h

theorem joined_T (T : ByteArray) (t : List UInt8) (hT : T = str t) (w : World) (hl : t.length ≤ 8) :
    Calls Tryz.prog 107 #[.string T] w fun e w' => e = .returned (.int .u64 (joinL t : Nat)) ∧ Below w.heap.size w w' := by
  subst hT
  exact joined_any t w hl

theorem str_empty (s : List UInt8) : (str s).toList.isEmpty = s.isEmpty := by rw [Lib.toList_data]; rfl
theorem str_get0 {s : List UInt8} {S : ByteArray} (h : S = str s) (h0 : 0 < S.size) : S[0] = s.getD 0 0 := by
  subst h
  cases s with
  | nil => simp [str, ByteArray.size] at h0
  | cons c r => rfl
theorem bne_byte (c : UInt8) (h : c ≠ 0) : ((c.toNat : Int) != 0) = true := by
  rw [bne_iff_ne]
  intro e
  apply h
  rw [← UInt8.toNat_inj]
  simp
  omega

set_option maxRecDepth 100000 in
set_option maxHeartbeats 2000000 in
theorem number_ok (R : Nat) (s : List UInt8) (n : Nat) (rest : List UInt8) (w : World) (h : Left w R (str s)) (hn : numL s = .ok (n, rest)) (hs : s.length ≤ 800000) :
    Calls Tryz.prog 83 #[.pointer (some ⟨R, 0, none⟩)] w fun e w' => e = .returned (.int .u64 n) ∧ Left w' R (str rest) ∧ w.grownBy w' (some R) := by
  cases s with
  | nil => cases hn
  | cons k r =>
    simp only [numL] at hn
    split at hn
    · cases hn
    rename_i h8
    split at hn
    · cases hn
    rename_i hl
    split at hn
    · cases hn
    rename_i hz
    injection hn with hn
    obtain ⟨rfl, rfl⟩ := Prod.mk.inj hn
    have H0 : Hid (Left w R (str (k :: r)) ∧ k.toNat ≤ 8 ∧ k.toNat ≤ r.length ∧ r.length ≤ 800000) := ⟨h, by omega, by omega, by simp at hs; omega⟩
    obtain ⟨K, hK⟩ : ∃ K : Nat, K = k.toNat := ⟨_, rfl⟩
    have HK : Hid (k.toNat = K) := hK.symm
    have hK8 : (K : Int) ≤ 8 := by omega
    have hwr : (K : Int) % 18446744073709551616 = (K : Int) := by omega
    rw [← hK]
    rw [← hK] at hz
    clear h hs hl h8 hn hK
    go_enter Tryz.func83, Tryz.ntmps83
    go_wp2_with fail
    refine (upTo_ok R k r 8 _ H0.out.1 H0.out.2.1 (by have := H0.out.2.2.2; omega)).mono ?_
    rw [HK.out]
    rintro e w1 ⟨rfl, h1, h2⟩
    have H1 : Hid (Left w1 R (str r) ∧ w.grownBy w1 (some R)) := ⟨h1, h2⟩
    clear h1 h2
    go_wp2_with fail
    refine (takeS_ok R r K _ H1.out.1 (by have := H0.out.2.2.1; rw [HK.out] at this; exact this) (by have := H0.out.2.2.2; omega)).mono ?_
    rintro e w2 ⟨rfl, h1, h2⟩
    have H2 : Hid (Left w2 R (str (r.drop K)) ∧ w.grownBy w2 (some R)) := ⟨h1, grown2 H1.out.2 h2⟩
    clear h1 h2
    obtain ⟨T, hT⟩ : ∃ T, T = str (r.take K) := ⟨_, rfl⟩
    rw [← hT]
    have hlen : (r.take K).length = K := by have := H0.out.2.2.1; rw [HK.out] at this; simp; omega
    have HT : Hid (T = str (r.take K) ∧ T.size = K ∧ (r.take K).length = K) := ⟨hT, by rw [hT, str_size, hlen], hlen⟩
    clear hT hlen
    by_cases hk0 : K = 0
    · have hb : T.toList.isEmpty = true := by rw [HT.out.1, str_empty, hk0]; rfl
      clear hk0 hz
      go_wp2_with (go_at_call 106; refine (formed_yes _).mono ?_; rintro e w3 ⟨rfl, rfl⟩)
      refine (joined_T T _ HT.out.1 _ (by have := HT.out.2.2; omega)).mono ?_
      rintro e w4 ⟨rfl, h1⟩
      have H4 : Hid (Below w2.heap.size w2 w4) := h1
      clear h1
      go_wp2_with fail
      go_ret
      exact ⟨rfl, H2.out.1.below H4.out, grown2 H2.out.2 (grown_below H4.out _)⟩
    · have hb : T.toList.isEmpty = false := by
        rw [HT.out.1, str_empty]
        cases hr : r.take K with
        | nil => have := HT.out.2.2; rw [hr] at this; exact absurd this.symm hk0
        | cons x xs => rfl
      have hT0 : 0 < T.size := by rw [HT.out.2.1]; omega
      have hne : ((T[0].toNat : Int) != 0) = true := by
        rw [str_get0 HT.out.1 hT0]
        refine bne_byte _ (fun e => hz ⟨by omega, ?_⟩)
        cases r with
        | nil => rfl
        | cons x xs =>
          obtain ⟨K', rfl⟩ : ∃ K', K = K' + 1 := ⟨K - 1, by omega⟩
          simpa using e
      clear hk0 hz
      go_wp2_with (go_at_call 106; refine (formed_yes _).mono ?_; rintro e w3 ⟨rfl, rfl⟩)
      refine (joined_T T _ HT.out.1 _ (by have := HT.out.2.2; omega)).mono ?_
      rintro e w4 ⟨rfl, h1⟩
      have H4 : Hid (Below w2.heap.size w2 w4) := h1
      clear h1
      go_wp2_with fail
      go_ret
      exact ⟨rfl, H2.out.1.below H4.out, grown2 H2.out.2 (grown_below H4.out _)⟩

set_option maxRecDepth 100000 in
set_option maxHeartbeats 2000000 in
theorem number_err (R : Nat) (s : List UInt8) (n : Int) (w : World) (h : Left w R (str s)) (hn : numL s = .error n) (hs : s.length ≤ 800000) :
    Calls Tryz.prog 83 #[.pointer (some ⟨R, 0, none⟩)] w fun e w' => e = pan n ∧ w.grownBy w' (some R) := by
  cases s with
  | nil =>
    cases hn
    have H0 : Hid (Left w R (str [])) := h
    clear h hs
    go_enter Tryz.func83, Tryz.ntmps83
    go_wp2_with fail
    refine (upTo_short R 8 _ H0.out).mono ?_
    rintro e w1 ⟨rfl, rfl⟩
    exact ⟨rfl, rfl, grown_refl _ _⟩
  | cons k r =>
    simp only [numL] at hn
    have H0 : Hid (Left w R (str (k :: r)) ∧ r.length ≤ 800000) := ⟨h, by simp at hs; omega⟩
    clear h hs
    split at hn
    · cases hn
      rename_i h8
      have H8 : Hid (8 < k.toNat) := h8
      clear h8
      go_enter Tryz.func83, Tryz.ntmps83
      go_wp2_with fail
      refine (upTo_form R k r 8 _ H0.out.1 H8.out (by have := H0.out.2; omega)).mono ?_
      rintro e w1 ⟨rfl, h1⟩
      exact ⟨rfl, rfl, h1⟩
    rename_i h8
    obtain ⟨K, hK⟩ : ∃ K : Nat, K = k.toNat := ⟨_, rfl⟩
    have HK : Hid (k.toNat = K) := hK.symm
    have hK8 : (K : Int) ≤ 8 := by omega
    have hwr : (K : Int) % 18446744073709551616 = (K : Int) := by omega
    rw [← hK] at hn
    clear hK h8
    split at hn
    · cases hn
      rename_i hl
      have HLL : Hid (r.length < K) := hl
      clear hl
      go_enter Tryz.func83, Tryz.ntmps83
      go_wp2_with fail
      refine (upTo_ok R k r 8 _ H0.out.1 (by rw [HK.out]; omega) (by have := H0.out.2; omega)).mono ?_
      rw [HK.out]
      rintro e w1 ⟨rfl, h1, h2⟩
      have H1 : Hid (Left w1 R (str r) ∧ w.grownBy w1 (some R)) := ⟨h1, h2⟩
      clear h1 h2
      go_wp2_with fail
      refine (takeS_err R r K _ H1.out.1 HLL.out (by have := H0.out.2; omega) (by unfold BB; omega)).mono ?_
      rintro e w2 ⟨rfl, rfl⟩
      exact ⟨rfl, rfl, H1.out.2⟩
    rename_i hl
    split at hn
    · cases hn
      rename_i hz
      have HZ : Hid (0 < K ∧ r.getD 0 0 = 0 ∧ K ≤ r.length) := ⟨hz.1, hz.2, by omega⟩
      clear hz hl
      go_enter Tryz.func83, Tryz.ntmps83
      go_wp2_with fail
      refine (upTo_ok R k r 8 _ H0.out.1 (by rw [HK.out]; omega) (by have := H0.out.2; omega)).mono ?_
      rw [HK.out]
      rintro e w1 ⟨rfl, h1, h2⟩
      have H1 : Hid (Left w1 R (str r) ∧ w.grownBy w1 (some R)) := ⟨h1, h2⟩
      clear h1 h2
      go_wp2_with fail
      refine (takeS_ok R r K _ H1.out.1 HZ.out.2.2 (by have := H0.out.2; omega)).mono ?_
      rintro e w2 ⟨rfl, h1, h2⟩
      have H2 : Hid (w.grownBy w2 (some R)) := grown2 H1.out.2 h2
      clear h1 h2
      obtain ⟨T, hT⟩ : ∃ T, T = str (r.take K) := ⟨_, rfl⟩
      rw [← hT]
      obtain ⟨r', hr'⟩ : ∃ r', r = 0 :: r' := by
        have h1 := HZ.out
        cases r with
        | nil => simp at h1; omega
        | cons c r' => exact ⟨r', by have := h1.2.1; simp at this; rw [this]⟩
      have htk : r.take K = 0 :: r'.take (K - 1) := by
        rw [hr', show K = (K - 1) + 1 by have := HZ.out.1; omega]
        rfl
      rw [htk] at hT
      have hb : T.toList.isEmpty = false := by rw [hT, str_empty]; rfl
      have hT0 : 0 < T.size := by rw [hT, str_size]; exact Nat.zero_lt_succ _
      have hne : ((T[0].toNat : Int) != 0) = false := by
        rw [str_get0 hT hT0]
        rfl
      clear hT htk hr'
      go_wp2_with fail
      refine (formed_no _).mono ?_
      rintro e w3 ⟨rfl, rfl⟩
      exact ⟨rfl, rfl, H2.out⟩
    · cases hn
end Go.Proofs.YtnedghhcidohnaaGreat

/-! Bytes as arithmetic: what was put is joined again; numbers are told apart by their bytes. -/
namespace Go.Proofs.YtnedghhcidohnaaGreat
open Go.RowKit

theorem foldl_low (n k : Nat) : ∀ a : Nat, (lowB n k).foldl (fun n d => n * 256 + d.toNat) a = a * 256 ^ k + n % 256 ^ k := by
  induction k with
  | zero => intro a; simp [lowB, Nat.mod_one]
  | succ k ih =>
    intro a
    rw [lowB, List.foldl_cons, ih]
    have h1 : (UInt8.ofNat (n / 256 ^ k)).toNat = n / 256 ^ k % 256 := by simp
    rw [h1, Nat.mod_pow_succ, Nat.pow_succ, Nat.add_mul, Nat.mul_assoc, Nat.mul_comm 256 (256 ^ k), Nat.mul_comm (n / 256 ^ k % 256)]
    omega

theorem join_low (n k : Nat) : joinL (lowB n k) = n % 256 ^ k := by
  unfold joinL
  rw [foldl_low]
  simp

theorem bitLen_lt (n b : Nat) : bitLen n ≤ b ↔ n < 2 ^ b := by
  unfold bitLen
  split
  · rename_i h
    subst h
    have := Nat.two_pow_pos b
    omega
  · rename_i h
    rw [← Nat.log2_lt h]
    omega

theorem cntB_lt (n : Nat) : n < 256 ^ cntB n := by
  have h : bitLen n ≤ 8 * cntB n := by unfold cntB; omega
  have := (bitLen_lt n _).1 h
  rwa [Nat.pow_mul] at this

theorem cntB_min (n k : Nat) (h : n < 256 ^ k) : cntB n ≤ k := by
  have h1 : n < 2 ^ (8 * k) := by rwa [Nat.pow_mul]
  have := (bitLen_lt n _).2 h1
  unfold cntB
  omega

theorem join_put (n : Nat) : joinL (lowB n (cntB n)) = n := by rw [join_low, Nat.mod_eq_of_lt (cntB_lt n)]

theorem cntB_mono {m n : Nat} (h : m ≤ n) : cntB m ≤ cntB n := cntB_min m _ (Nat.lt_of_le_of_lt h (cntB_lt n))

theorem putL_length (n : Nat) : (putL n).length = cntB n + 1 := by simp [putL, lowB_length]

theorem byte_toNat {k : Nat} (h : k ≤ 8) : (UInt8.ofNat k).toNat = k := by simp; omega

theorem putL_inj {m n : Nat} (hm : m < 2 ^ 64) (hn : n < 2 ^ 64) (h : putL m = putL n) : m = n := by
  unfold putL at h
  obtain ⟨h1, h2⟩ := List.cons.inj h
  have e : cntB m = cntB n := by
    have := congrArg UInt8.toNat h1
    rwa [byte_toNat (cntB_le m hm), byte_toNat (cntB_le n hn)] at this
  have := congrArg joinL h2
  rwa [join_put, join_put] at this

theorem str_inj {s t : List UInt8} : str s = str t ↔ s = t := ⟨fun h => by unfold str at h; injection h with h; simpa using h, fun h => by rw [h]⟩
theorem str_beq (s t : List UInt8) : ((str s).toList == (str t).toList) = (s == t) := by rw [Lib.toList_data, Lib.toList_data]; rfl

theorem put_s (x : Int) (w : World) (hx : 0 ≤ x) (hB : x < BB) :
    Calls Tryz.prog 49 #[.int .u64 x] w fun e w' => e = .returned (.string (str (putL x.toNat))) ∧ Below w.heap.size w w' := put_any x w hx hB
end Go.Proofs.YtnedghhcidohnaaGreat

/-! The reference's fixed. -/
namespace Go.Proofs.YtnedghhcidohnaaGreat
open Go.RowKit

theorem ownB_nil (w : World) : OwnB (w.alloc (.cells #[] 5)) w.heap.size w.heap.size 0 0 [] :=
  ⟨rfl, Nat.le_refl _, Nat.le_refl _, by unfold maxLen; omega, _, (0, 0), heap_alloc_new w _, rfl, .inl (Nat.zero_le _), rfl⟩

theorem take_nextY {A : Type} (t : List A) (k : Nat) (h : k < t.length) : t.take (k + 1) = t.take k ++ [t[k]] := by
  rw [List.take_add_one, List.getElem?_eq_getElem h]
  rfl

theorem lowB_getD (n k j : Nat) (h : j < k) : (lowB n k).getD j 0 = UInt8.ofNat (n / 256 ^ (k - (j + 1))) := by
  induction k generalizing j with
  | zero => omega
  | succ k ih =>
    cases j with
    | zero => simp [lowB]
    | succ j =>
      rw [lowB, List.getD_cons_succ, ih j (by omega)]
      rw [show k + 1 - (j + 1 + 1) = k - (j + 1) by omega]

theorem lowB_taken (n k j : Nat) (h : j < k) : (lowB n k).take (j + 1) = (lowB n k).take j ++ [UInt8.ofNat (n / 256 ^ (k - (j + 1)))] := by
  have hl : j < (lowB n k).length := by rw [lowB_length]; exact h
  rw [take_nextY _ j hl]
  have := lowB_getD n k j h
  rw [List.getD_eq_getElem?_getD, List.getElem?_eq_getElem hl] at this
  simp at this
  rw [this]

set_option maxRecDepth 100000 in
set_option maxHeartbeats 4000000 in
theorem fixed_any (X : Nat) (k : Nat) (w : World) (hB : X < 18446744073709551616) (hk : k ≤ 8) :
    Calls Tryz.prog 52 #[.int .u64 (X : Int), .int .i64 k] w fun e w' => e = .returned (.string (str (lowB X k))) ∧ Below w.heap.size w w' := by
  have hk2 : (k : Int) ≤ 8 := by omega
  have HX : Hid (X < 18446744073709551616) := hB
  clear hB
  go_enter Tryz.func52, Tryz.ntmps52
  go_wp2_with fail
  go_loopg [5, 6] k (fun n s5 s6 wr => ∃ (j g cap : Nat), j ≤ k ∧ k - j ≤ n ∧ s6 = .int .i64 ((k : Int) - 1 - (j : Int)) ∧ s5 = .slice (some ⟨g, 0, none⟩) j cap ∧ Hid (OwnB wr w.heap.size g j cap ((lowB X k).take j) ∧ Below w.heap.size w wr))
  case atStart => exact ⟨0, w.heap.size, 0, Nat.zero_le _, by omega, by go_num, rfl, ownB_nil _, (Below.refl _ _).alloc (Nat.le_refl _) _⟩
  case round =>
    obtain ⟨j, g, cap, hj, hjn, rfl, rfl, hO⟩ := hrel
    by_cases h0 : j = k
    · subst h0
      have e0 : (j : Int) - 1 - (j : Int) = -1 := by omega
      rw [e0]
      have hcv := fun src => hO.out.1.string (P := Tryz.prog) src 9
      have hst := OwnB.string (P := Tryz.prog) hO.out.1 58 9 (by kernel_rfl) (by kernel_rfl) (by kernel_rfl)
      have HB : Hid (Below w.heap.size w wr ∧ (⟨((lowB X j).take j).toArray⟩ : ByteArray) = str (lowB X j)) := by
        refine ⟨hO.out.2, ?_⟩
        rw [List.take_of_length_le (by rw [lowB_length]; exact Nat.le_refl _)]
        rfl
      rw [HB.out.2] at hst
      clear hO e0 hcv
      go_wp2_with fail
      go_ret
      exact ⟨rfl, HB.out.1⟩
    · obtain ⟨i, hi⟩ : ∃ i, k = i + 1 + j := ⟨k - 1 - j, by omega⟩
      have hij : (k : Int) - 1 - (j : Int) = (i : Int) := by omega
      rw [hij]
      have hi8 : (i : Int) ≤ 7 := by omega
      have i0' : (0 : Int) ≤ (i : Int) := by omega
      have hbv : Value.int .u8 ((X : Int) / 2 ^ (8 * i) % 256) = u8v (UInt8.ofNat (X / 256 ^ (k - (j + 1)))) := by
        have e : (2 : Int) ^ (8 * i) = ((256 ^ i : Nat) : Int) := by rw [Int.pow_mul]; simp
        rw [e, show k - (j + 1) = i by omega]
        unfold u8v
        congr 1
      have HR : Hid (OwnB wr w.heap.size g j cap ((lowB X k).take j) ∧ Below w.heap.size w wr ∧ Value.int .u8 ((X : Int) / 2 ^ (8 * i) % 256) = u8v (UInt8.ofNat (X / 256 ^ (k - (j + 1)))) ∧ (lowB X k).take (j + 1) = (lowB X k).take j ++ [UInt8.ofNat (X / 256 ^ (k - (j + 1)))]) := ⟨hO.out.1, hO.out.2, hbv, lowB_taken X k j (by omega)⟩
      obtain ⟨i0, hi0, hz0, hz1, hz2⟩ := info_parts (by kernel_rfl : (Tryz.prog.info? 5).map (fun i => (i.zero, i.size, i.bytes)) = some (some (.int .u8 0), 1, 1))
      have hji : ((k : Int) - 1 - (j : Int)) - 1 = (k : Int) - 1 - ((j + 1 : Nat) : Int) := by omega
      have HK : Hid (k = i + 1 + j ∧ _) := ⟨hi, hjn⟩
      have hjk : j ≤ 7 := by omega
      clear hO hij hbv h0 hi hji hj hjn
      go_wp2_with (at_builtin; refine wpList_append_byte _ rfl (.tmp 14) (.tmp 20) 58 rfl w.heap.size i0 (by kernel_rfl) hi0 hz0 hz1 hz2 g j cap _ rfl (HR.out.1.alloc _) ⟨wr.heap.size, 0, none⟩ 1 (UInt8.ofNat (X / 256 ^ (k - (j + 1)))) rfl ((cell_one wr _ 5).trans (congrArg some HR.out.2.2.1)) (by omega) (by have := HR.out.2.1.size; simp; omega) ?_; intro g2 c2 w2 hown2 hgr2 hk2)
      go_roundg (k - (j + 1))
      case measure => have := HK.out; omega
      case rel =>
        refine ⟨j + 1, g2, c2, by have := HK.out; omega, Nat.le_refl _, ?_, rfl, ?_, ?_⟩
        · congr 1
          have := HK.out
          omega
        · rw [HR.out.2.2.2]
          exact hown2
        · exact below_grow (HR.out.2.1.alloc HR.out.2.1.size _) hgr2 HR.out.1.lt.1
end Go.Proofs.YtnedghhcidohnaaGreat
