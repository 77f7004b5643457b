/-
  What was put is got; beginnings of what was put are too short.
-/
import Derived.Test.YtmmbgfbliekkgaaOctK
namespace Go.Proofs.Ytmmbgfbliekkgaa
open Go.RowKit

theorem low_first (n : Nat) (h : 0 < cntB n) : (lowB n (cntB n)).getD 0 0 ≠ 0 := by
  obtain ⟨k, hk⟩ : ∃ k, cntB n = k + 1 := ⟨cntB n - 1, by omega⟩
  have hlt := cntB_lt n
  have hge : 256 ^ k ≤ n := by
    rcases Nat.lt_or_ge n (256 ^ k) with h1 | h1
    · have := cntB_min n k h1
      omega
    · exact h1
  rw [hk] at hlt ⊢
  rw [lowB, List.getD_cons_zero]
  have h1 : n / 256 ^ k < 256 := by
    rw [Nat.div_lt_iff_lt_mul (Nat.pow_pos (by decide)), Nat.mul_comm, ← Nat.pow_succ]
    exact hlt
  have h2 : 0 < n / 256 ^ k := Nat.div_pos hge (Nat.pow_pos (by decide))
  intro e
  have := congrArg UInt8.toNat e
  simp at this
  omega

theorem numL_put (n : Nat) (h : n < 2 ^ 64) (r : List UInt8) : numL (putL n ++ r) = .ok (n, r) := by
  have h8 := cntB_le n h
  have e : (UInt8.ofNat (cntB n)).toNat = cntB n := byte_toNat h8
  have hl : (lowB n (cntB n)).length = cntB n := lowB_length _ _
  show numL (UInt8.ofNat (cntB n) :: (lowB n (cntB n) ++ r)) = _
  simp only [numL, e]
  rw [if_neg (by omega), if_neg (by rw [List.length_append, hl]; omega), if_neg, List.take_left' hl, List.drop_left' hl, join_put]
  rintro ⟨h1, h2⟩
  apply low_first n h1
  rw [List.getD_eq_getElem?_getD, List.getElem?_append_left (by omega)] at h2
  rw [List.getD_eq_getElem?_getD]
  exact h2

theorem numL_cut (n : Nat) (h : n < 2 ^ 64) (k : Nat) (hk : k < (putL n).length) : numL ((putL n).take k) = .error 60 := by
  have h8 := cntB_le n h
  have e : (UInt8.ofNat (cntB n)).toNat = cntB n := byte_toNat h8
  have hl : (lowB n (cntB n)).length = cntB n := lowB_length _ _
  rw [putL_length] at hk
  cases k with
  | zero => rfl
  | succ k =>
    show numL (UInt8.ofNat (cntB n) :: (lowB n (cntB n)).take k) = _
    simp only [numL, e]
    rw [if_neg (by omega), if_pos (by rw [List.length_take, hl]; omega)]

theorem take_split (a b : List UInt8) (k : Nat) : (a ++ b).take k = if k < a.length then a.take k else a ++ b.take (k - a.length) := by
  split
  · rename_i h
    rw [List.take_append_of_le_length (by omega)]
  · rename_i h
    rw [List.take_append, List.take_of_length_le (by omega)]

theorem textL_cut (s : List UInt8) (hs : s.length ≤ 80000) (k : Nat) (hk : k < (putT s).length) : textL ((putT s).take k) = .error 60 := by
  have h64 : s.length < 2 ^ 64 := by omega
  unfold putT at hk ⊢
  rw [List.length_append] at hk
  rw [take_split]
  unfold textL
  by_cases h : k < (putL s.length).length
  · rw [if_pos h, numL_cut s.length h64 k h]
  · rw [if_neg h, numL_put s.length h64]
    simp only
    rw [if_pos (by rw [List.length_take]; omega)]

theorem natL_cut (xs : List Int) (hx : xs.length ≤ 8) (k : Nat) (hk : k < (putN xs).length) : natL ((putN xs).take k) = .error 60 := by
  have h64 : xs.length < 2 ^ 64 := by omega
  unfold putN at hk ⊢
  rw [List.length_append, limbB_length, List.length_reverse] at hk
  rw [take_split]
  unfold natL
  by_cases h : k < (putL xs.length).length
  · rw [if_pos h, numL_cut xs.length h64 k h]
  · rw [if_neg h, numL_put xs.length h64]
    simp only
    rw [if_neg (by omega), if_pos (by rw [List.length_take, limbB_length, List.length_reverse]; omega)]

end Go.Proofs.Ytmmbgfbliekkgaa
