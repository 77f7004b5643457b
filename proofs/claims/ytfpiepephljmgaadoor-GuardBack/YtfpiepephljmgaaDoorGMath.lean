/-
  The sum of bytes: a step, steps, what they make of words; linear; no word of 32 bits that is not 0 becomes 0.
-/
import Derived.Test.YtfpiepephljmgaaDoorRows
namespace Go.Proofs.YtfpiepephljmgaaDoor

/-- One step. -/
def stp (n : Nat) : Nat := if n % 2 = 1 then (n / 2) ^^^ 3988292384 else n / 2
/-- So many steps. -/
def st : Nat → Nat → Nat
  | 0, n => n
  | k + 1, n => st k (stp n)

theorem div2_xor (a b : Nat) : (a ^^^ b) / 2 = (a / 2) ^^^ (b / 2) := by
  have := Nat.shiftRight_xor_distrib (a := a) (b := b) (i := 1)
  simpa [Nat.shiftRight_eq_div_pow] using this

theorem stp_xor (a b : Nat) : stp (a ^^^ b) = stp a ^^^ stp b := by
  unfold stp
  rw [div2_xor]
  have h : (a ^^^ b) % 2 = 1 ↔ ¬ (a % 2 = 1 ↔ b % 2 = 1) := Nat.xor_mod_two_eq_one
  by_cases ha : a % 2 = 1 <;> by_cases hb : b % 2 = 1 <;> simp only [ha, hb, h, iff_true, iff_self, not_true, if_true, if_false, not_false_iff, iff_false]
  · rw [← Nat.xor_assoc, Nat.xor_assoc (a / 2), Nat.xor_comm 3988292384, ← Nat.xor_assoc, Nat.xor_assoc _ 3988292384, Nat.xor_self, Nat.xor_zero]
  · rw [Nat.xor_assoc, Nat.xor_comm (b / 2), ← Nat.xor_assoc]
  · rw [Nat.xor_assoc]

theorem st_xor (k a b : Nat) : st k (a ^^^ b) = st k a ^^^ st k b := by
  induction k generalizing a b with
  | zero => rfl
  | succ k ih => simp only [st]; rw [stp_xor, ih]

theorem st_add (j k n : Nat) : st (j + k) n = st k (st j n) := by
  induction j generalizing n with
  | zero => simp [st]
  | succ j ih => rw [Nat.succ_add]; simp only [st]; exact ih _

theorem stp_two (n : Nat) : stp (2 * n) = n := by
  unfold stp
  rw [if_neg (by omega)]
  omega

theorem st_pow (k n : Nat) : st k (2 ^ k * n) = n := by
  induction k with
  | zero => simp [st]
  | succ k ih =>
    simp only [st]
    rw [show 2 ^ (k + 1) * n = 2 * (2 ^ k * n) by rw [Nat.pow_succ, Nat.mul_comm (2 ^ k) 2, Nat.mul_assoc], stp_two, ih]

theorem st_zero (k : Nat) : st k 0 = 0 := by simpa using st_pow k 0

theorem stp_lt {n : Nat} (h : n < 2 ^ 32) : stp n < 2 ^ 32 := by
  unfold stp
  split
  · exact Nat.xor_lt_two_pow (by omega) (by decide)
  · omega

theorem st_lt (k : Nat) {n : Nat} (h : n < 2 ^ 32) : st k n < 2 ^ 32 := by
  induction k generalizing n with
  | zero => exact h
  | succ k ih => exact ih (stp_lt h)

theorem xor_none {a b : Nat} (h : a ^^^ b = 0) : a = b := by
  have : a ^^^ b ^^^ b = 0 ^^^ b := by rw [h]
  rw [Nat.xor_assoc, Nat.xor_self, Nat.xor_zero, Nat.zero_xor] at this
  exact this

theorem stp_ne {n : Nat} (h : n < 2 ^ 32) (h0 : n ≠ 0) : stp n ≠ 0 := by
  unfold stp
  split
  · intro e
    have := xor_none e
    omega
  · omega

theorem st_ne (k : Nat) {n : Nat} (h : n < 2 ^ 32) (h0 : n ≠ 0) : st k n ≠ 0 := by
  induction k generalizing n with
  | zero => exact h0
  | succ k ih => exact ih (stp_lt h) (stp_ne h h0)

theorem split_xor (k n : Nat) : n = (2 ^ k * (n / 2 ^ k)) ^^^ (n % 2 ^ k) := by
  apply Nat.eq_of_testBit_eq
  intro i
  rw [Nat.testBit_xor, Nat.testBit_mod_two_pow, Nat.mul_comm, Nat.testBit_mul_two_pow]
  by_cases h : i < k
  · simp [h, show ¬ k ≤ i by omega]
  · simp [h, show k ≤ i by omega, Nat.testBit_div_two_pow]

theorem join_xor (k m r : Nat) (h : r < 2 ^ k) : (2 ^ k * m) ^^^ r = 2 ^ k * m + r := by
  have h2 := split_xor k (2 ^ k * m + r)
  rw [Nat.mul_add_div (Nat.two_pow_pos k), Nat.div_eq_of_lt h, Nat.add_zero, Nat.mul_add_mod, Nat.mod_eq_of_lt h] at h2
  exact h2.symm

/-- What four steps make of a half byte. -/
def tab : List Int := [0, 498536548, 997073096, 651767980, 1994146192, 1802195444, 1303535960, 1342533948, 3988292384, 4027552580, 3604390888, 3412177804, 2607071920, 2262029012, 2685067896, 3183342108]

theorem tab_at : ∀ i, i < 16 → (tab.getD i 0) = ((st 4 i : Nat) : Int) := by decide

theorem st4 (n : Nat) : st 4 n = (n / 16) ^^^ st 4 (n % 16) := by
  conv => lhs; rw [split_xor 4 n, st_xor, st_pow]

/-- A byte more. -/
def byt (c : Nat) (b : UInt8) : Nat := st 8 (c ^^^ b.toNat)
def crcF (c : Nat) (s : List UInt8) : Nat := s.foldl byt c
/-- The sum of bytes. -/
def crc (s : List UInt8) : Nat := crcF 4294967295 s ^^^ 4294967295

/-- The bytes as one number, the first one lowest. -/
def le : List UInt8 → Nat
  | [] => 0
  | b :: s => b.toNat + 256 * le s

theorem crcF_le (c : Nat) (s : List UInt8) : crcF c s = st (8 * s.length) (c ^^^ le s) := by
  induction s generalizing c with
  | nil => simp [crcF, le, st]
  | cons b s ih =>
    have hb : b.toNat < 2 ^ 8 := b.toNat_lt
    have e : le (b :: s) = (2 ^ 8 * le s) ^^^ b.toNat := by rw [join_xor 8 _ _ hb]; simp only [le]; omega
    show crcF (byt c b) s = _
    rw [ih, e, List.length_cons, show 8 * (s.length + 1) = 8 + 8 * s.length by omega, st_add]
    congr 1
    rw [Nat.xor_comm (2 ^ 8 * le s), ← Nat.xor_assoc, st_xor 8 _ (2 ^ 8 * le s), st_pow]
    rfl

theorem byt_lt {c : Nat} (h : c < 2 ^ 32) (b : UInt8) : byt c b < 2 ^ 32 :=
  st_lt 8 (Nat.xor_lt_two_pow h (Nat.lt_of_lt_of_le b.toNat_lt (by decide)))
theorem crcF_lt {c : Nat} (h : c < 2 ^ 32) (s : List UInt8) : crcF c s < 2 ^ 32 := by
  induction s generalizing c with
  | nil => exact h
  | cons b s ih => exact ih (byt_lt h b)
theorem crc_lt (s : List UInt8) : crc s < 2 ^ 32 := Nat.xor_lt_two_pow (crcF_lt (by decide) s) (by decide)

theorem crcF_snoc (c : Nat) (s : List UInt8) (b : UInt8) : crcF c (s ++ [b]) = byt (crcF c s) b := by simp [crcF]

theorem crc_shown : crc [49, 50, 51, 52, 53, 54, 55, 56, 57] = 3421780262 := by decide +kernel
end Go.Proofs.YtfpiepephljmgaaDoor
