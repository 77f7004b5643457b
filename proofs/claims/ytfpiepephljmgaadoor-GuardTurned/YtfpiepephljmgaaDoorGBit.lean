/-
  Bytes as one number, the first one lowest: bits turned, and what First tells of a frame with bits turned within 32 of one another.
-/
import Derived.Test.YtfpiepephljmgaaDoorGOne
namespace Go.Proofs.YtfpiepephljmgaaDoor
open Go.RowKit

theorem le_lt (s : List UInt8) : le s < 2 ^ (8 * s.length) := by
  induction s with
  | nil => simp [le]
  | cons b s ih =>
    have hb := b.toNat_lt
    have e : 2 ^ (8 * (b :: s).length) = 256 * 2 ^ (8 * s.length) := by
      rw [List.length_cons, Nat.mul_add, Nat.pow_add, Nat.mul_comm]
    rw [e]
    simp only [le]
    omega
theorem le_append (s t : List UInt8) : le (s ++ t) = le s + 2 ^ (8 * s.length) * le t := by
  induction s with
  | nil => simp [le]
  | cons b s ih =>
    have e : 2 ^ (8 * (b :: s).length) = 256 * 2 ^ (8 * s.length) := by
      rw [List.length_cons, Nat.mul_add, Nat.pow_add, Nat.mul_comm]
    rw [e, List.cons_append, le, le, ih, Nat.mul_add, Nat.mul_assoc, Nat.add_assoc]
theorem le_take (s : List UInt8) (m : Nat) (h : m ≤ s.length) : le (s.take m) = le s % 2 ^ (8 * m) := by
  have h1 := le_append (s.take m) (s.drop m)
  have h2 := le_lt (s.take m)
  have h3 : (s.take m).length = m := by simp; omega
  rw [List.take_append_drop, h3] at h1
  rw [h3] at h2
  rw [h1, Nat.add_mul_mod_self_left, Nat.mod_eq_of_lt h2]
theorem le_drop (s : List UInt8) (m : Nat) (h : m ≤ s.length) : le (s.drop m) = le s / 2 ^ (8 * m) := by
  have h1 := le_append (s.take m) (s.drop m)
  have h2 := le_lt (s.take m)
  have h3 : (s.take m).length = m := by simp; omega
  rw [List.take_append_drop, h3] at h1
  rw [h3] at h2
  rw [h1, Nat.add_mul_div_left _ _ (Nat.two_pow_pos _), Nat.div_eq_of_lt h2, Nat.zero_add]
theorem le_inj : ∀ (s t : List UInt8), s.length = t.length → le s = le t → s = t
  | [], [], _, _ => rfl
  | a :: s, b :: t, h, e => by
    have ha := a.toNat_lt
    have hb := b.toNat_lt
    simp only [le] at e
    have e1 : a.toNat = b.toNat := by omega
    have e2 : le s = le t := by omega
    rw [UInt8.toNat_inj.1 e1, le_inj s t (by simpa using h) e2]
  | [], _ :: _, h, _ => by simp at h
  | _ :: _, [], h, _ => by simp at h

theorem mul_xor (k a b : Nat) : 2 ^ k * (a ^^^ b) = (2 ^ k * a) ^^^ (2 ^ k * b) := by
  apply Nat.eq_of_testBit_eq
  intro i
  rw [Nat.testBit_xor, Nat.mul_comm, Nat.mul_comm _ a, Nat.mul_comm _ b, Nat.testBit_mul_two_pow, Nat.testBit_mul_two_pow, Nat.testBit_mul_two_pow, Nat.testBit_xor]
  cases decide (k ≤ i) <;> simp
theorem mod_xor (k a b : Nat) : (a ^^^ b) % 2 ^ k = (a % 2 ^ k) ^^^ (b % 2 ^ k) := by
  apply Nat.eq_of_testBit_eq
  intro i
  rw [Nat.testBit_xor, Nat.testBit_mod_two_pow, Nat.testBit_mod_two_pow, Nat.testBit_mod_two_pow, Nat.testBit_xor]
  cases decide (i < k) <;> simp
theorem div_xor (k a b : Nat) : (a ^^^ b) / 2 ^ k = (a / 2 ^ k) ^^^ (b / 2 ^ k) := by
  apply Nat.eq_of_testBit_eq
  intro i
  rw [Nat.testBit_xor, Nat.testBit_div_two_pow, Nat.testBit_div_two_pow, Nat.testBit_div_two_pow, Nat.testBit_xor]

theorem le_set (s : List UInt8) (i : Nat) (h : i < s.length) (c b : UInt8) (hc : c = s[i]) : le (s.set i (c ^^^ b)) = le s ^^^ (2 ^ (8 * i) * b.toNat) := by
  induction s generalizing i with
  | nil => simp at h
  | cons a t ih =>
    have ha : a.toNat < 2 ^ 8 := a.toNat_lt
    have e : ∀ (x : UInt8) (u : List UInt8), le (x :: u) = (2 ^ 8 * le u) ^^^ x.toNat := by
      intro x u
      rw [join_xor 8 _ _ x.toNat_lt]
      simp only [le]
      omega
    cases i with
    | zero =>
      obtain rfl : c = a := hc
      rw [List.set_cons_zero, e, e, UInt8.toNat_xor]
      simp only [Nat.mul_zero, Nat.pow_zero, Nat.one_mul]
      ac_rfl
    | succ i =>
      have h2 := ih i (by simpa using h) hc
      rw [List.set_cons_succ, e, e, h2, mul_xor, ← Nat.mul_assoc, ← Nat.pow_add, show 8 + 8 * i = 8 * (i + 1) by omega]
      ac_rfl

/-- Some bits turned, that are within 32 of one another, in what is summed: the sum is another. -/
theorem crc_turned (s t : List UInt8) (hl : t.length = s.length) (base W : Nat) (h0 : W ≠ 0) (h1 : W < 2 ^ 32) (hb : base ≤ 8 * s.length) (he : le t = le s ^^^ (2 ^ base * W)) : crc t ≠ crc s := by
  intro hc
  unfold crc at hc
  have h2 : crcF 4294967295 t = crcF 4294967295 s := by
    have := congrArg (· ^^^ 4294967295) hc
    simp only [Nat.xor_assoc, Nat.xor_self, Nat.xor_zero] at this
    exact this
  rw [crcF_le, crcF_le, hl, he, ← Nat.xor_assoc, st_xor] at h2
  have h3 : st (8 * s.length) (2 ^ base * W) = 0 := by
    have := congrArg (st (8 * s.length) (4294967295 ^^^ le s) ^^^ ·) h2
    simp only [← Nat.xor_assoc, Nat.xor_self, Nat.zero_xor] at this
    exact this
  rw [show 8 * s.length = base + (8 * s.length - base) by omega, st_add, st_pow] at h3
  exact st_ne _ h1 h0 h3

theorem pow_div_lt {a b c : Nat} (h : 2 ^ a * b < 2 ^ c) (hb : b ≠ 0) : a < c := by
  have h1 : 2 ^ a * 1 ≤ 2 ^ a * b := Nat.mul_le_mul_left _ (Nat.pos_of_ne_zero hb)
  rw [Nat.mul_one] at h1
  exact (Nat.pow_lt_pow_iff_right (by decide)).1 (Nat.lt_of_le_of_lt h1 h)

theorem mod_zero {k base W : Nat} (h : k ≤ base) : 2 ^ base * W % 2 ^ k = 0 := by
  rw [show base = k + (base - k) by omega, Nat.pow_add, Nat.mul_assoc, Nat.mul_mod_right]

/-- A frame with some bits turned behind its length and ahead of its sum. -/
theorem turned_body (f : Frm) (h : f.ok) (X : List UInt8) (hX : X.length = (putF f).length) (base W : Nat) (h0 : W ≠ 0) (h1 : W < 2 ^ 32) (hb : 32 ≤ base) (ht : 2 ^ base * W < 2 ^ (8 * (20 + f.text.length))) (he : le X = le (putF f) ^^^ (2 ^ base * W)) : firstL X = .error 70 := by
  have hl := putF_length f
  have hok := h.2.2
  have hbl := pow_div_lt ht h0
  have e4 : X.take 4 = (putF f).take 4 := by
    apply le_inj
    · simp; omega
    · rw [le_take _ _ (by omega), le_take _ _ (by omega), he, mod_xor, mod_zero (by omega), Nat.xor_zero]
  have p4' : (putF f).take 4 = lowB f.text.length 4 := by
    simp only [putF, frmL, headL, List.append_assoc]
    exact tk (lowB_length _ _)
  have ed : X.drop (20 + f.text.length) = (putF f).drop (20 + f.text.length) := by
    apply le_inj
    · simp; omega
    · rw [le_drop _ _ (by omega), le_drop _ _ (by omega), he, div_xor, Nat.div_eq_of_lt ht, Nat.xor_zero]
  have ek : le (X.take (20 + f.text.length)) = le (frmL f) ^^^ (2 ^ base * W) := by
    have pk : (putF f).take (20 + f.text.length) = frmL f := tk (frmL_length f)
    rw [le_take _ _ (by omega), he, mod_xor, Nat.mod_eq_of_lt ht, ← le_take _ _ (by omega), pk]
  have pd : (X.take (24 + f.text.length)).drop (20 + f.text.length) = lowB (crc (frmL f)) 4 := by
    rw [List.take_of_length_le (by omega), ed]
    exact dr (frmL_length f)
  have hc := crc_turned (frmL f) (X.take (20 + f.text.length)) (by rw [frmL_length]; simp; omega) base W h0 h1 (by rw [frmL_length]; omega) ek
  have hne : X ≠ [] := by intro e; rw [e] at hX; simp at hX; omega
  unfold firstL
  rw [e4, p4', join_low _ _ (by rw [p4]; omega), if_neg hne, if_neg (by omega), if_neg (by omega), if_neg (by omega), pd, join_low _ _ (by rw [p4]; have := crc_lt (frmL f); omega), if_pos (fun e => hc e.symm)]

/-- A frame with some bits of its sum turned. -/
theorem turned_sum (f : Frm) (h : f.ok) (X : List UInt8) (hX : X.length = (putF f).length) (base W : Nat) (h0 : W ≠ 0) (hb : 8 * (20 + f.text.length) ≤ base) (he : le X = le (putF f) ^^^ (2 ^ base * W)) : firstL X = .error 70 := by
  have hl := putF_length f
  have hok := h.2.2
  have e4 : X.take 4 = (putF f).take 4 := by
    apply le_inj
    · simp; omega
    · rw [le_take _ _ (by omega), le_take _ _ (by omega), he, mod_xor, mod_zero (by omega), Nat.xor_zero]
  have p4' : (putF f).take 4 = lowB f.text.length 4 := by
    simp only [putF, frmL, headL, List.append_assoc]
    exact tk (lowB_length _ _)
  have pk : (putF f).take (20 + f.text.length) = frmL f := tk (frmL_length f)
  have ek : X.take (20 + f.text.length) = frmL f := by
    apply le_inj
    · rw [frmL_length]; simp; omega
    · rw [le_take _ _ (by omega), he, mod_xor, mod_zero hb, Nat.xor_zero, ← le_take _ _ (by omega), pk]
  have pd : (putF f).drop (20 + f.text.length) = lowB (crc (frmL f)) 4 := dr (frmL_length f)
  have hnd : X.drop (20 + f.text.length) ≠ lowB (crc (frmL f)) 4 := by
    intro e
    have h2 := congrArg le e
    rw [← pd, le_drop _ _ (by omega), le_drop _ _ (by omega), he, div_xor] at h2
    have h3 : 2 ^ base * W / 2 ^ (8 * (20 + f.text.length)) = 0 := by
      have := congrArg (le (putF f) / 2 ^ (8 * (20 + f.text.length)) ^^^ ·) h2
      simp only [← Nat.xor_assoc, Nat.xor_self, Nat.zero_xor] at this
      exact this
    rw [show base = 8 * (20 + f.text.length) + (base - 8 * (20 + f.text.length)) by omega, Nat.pow_add, Nat.mul_assoc, Nat.mul_div_cancel_left _ (Nat.two_pow_pos _)] at h3
    rcases Nat.mul_eq_zero.1 h3 with h4 | h4
    · have := Nat.two_pow_pos (base - 8 * (20 + f.text.length)); omega
    · exact h0 h4
  have hne : X ≠ [] := by intro e; rw [e] at hX; simp at hX; omega
  have hdl : (X.drop (20 + f.text.length)).length = 4 := by simp; omega
  have hj : joinL (X.drop (20 + f.text.length)) ≠ crc (frmL f) := by
    intro e
    have h5 := low_join (X.drop (20 + f.text.length))
    rw [hdl, e] at h5
    exact hnd h5.symm
  unfold firstL
  rw [e4, p4', join_low _ _ (by rw [p4]; omega), if_neg hne, if_neg (by omega), if_neg (by omega), if_neg (by omega), List.take_of_length_le (by omega : X.length ≤ 24 + f.text.length), ek, if_pos hj]

theorem turned_none (f : Frm) (h : f.ok) (X : List UInt8) (hX : X.length = (putF f).length) (he : le X = le (putF f)) : firstL X = .ok (f, []) := by
  rw [le_inj X _ hX he]
  have := first_put f [] h
  rwa [List.append_nil] at this
end Go.Proofs.YtfpiepephljmgaaDoor
