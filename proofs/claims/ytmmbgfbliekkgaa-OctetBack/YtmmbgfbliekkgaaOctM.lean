/-
  Bytes as arithmetic: what was put is joined again; numbers are told apart by their bytes.
-/
import Derived.Test.YtmmbgfbliekkgaaOctD
namespace Go.Proofs.Ytmmbgfbliekkgaa
open Go.RowKit

theorem foldl_low (n k : Nat) : ∀ a : Nat, (lowB n k).foldl (fun n d => n * 256 + d.toNat) a = a * 256 ^ k + n % 256 ^ k := by
  induction k with
  | zero => intro a; simp [lowB, Nat.mod_one]
  | succ k ih =>
    intro a
    rw [lowB, List.foldl_cons, ih]
    have h1 : (UInt8.ofNat (n / 256 ^ k)).toNat = n / 256 ^ k % 256 := by simp
    rw [h1, Nat.mod_pow_succ, Nat.pow_succ, Nat.add_mul, Nat.mul_assoc, Nat.mul_comm 256 (256 ^ k), Nat.mul_comm (n / 256 ^ k % 256)]
    omega

theorem join_low (n k : Nat) : joinL (lowB n k) = n % 256 ^ k := by
  unfold joinL
  rw [foldl_low]
  simp

theorem bitLen_lt (n b : Nat) : bitLen n ≤ b ↔ n < 2 ^ b := by
  unfold bitLen
  split
  · rename_i h
    subst h
    have := Nat.two_pow_pos b
    omega
  · rename_i h
    rw [← Nat.log2_lt h]
    omega

theorem cntB_lt (n : Nat) : n < 256 ^ cntB n := by
  have h : bitLen n ≤ 8 * cntB n := by unfold cntB; omega
  have := (bitLen_lt n _).1 h
  rwa [Nat.pow_mul] at this

theorem cntB_min (n k : Nat) (h : n < 256 ^ k) : cntB n ≤ k := by
  have h1 : n < 2 ^ (8 * k) := by rwa [Nat.pow_mul]
  have := (bitLen_lt n _).2 h1
  unfold cntB
  omega

theorem join_put (n : Nat) : joinL (lowB n (cntB n)) = n := by rw [join_low, Nat.mod_eq_of_lt (cntB_lt n)]

theorem cntB_mono {m n : Nat} (h : m ≤ n) : cntB m ≤ cntB n := cntB_min m _ (Nat.lt_of_le_of_lt h (cntB_lt n))

theorem putL_length (n : Nat) : (putL n).length = cntB n + 1 := by simp [putL, lowB_length]

theorem byte_toNat {k : Nat} (h : k ≤ 8) : (UInt8.ofNat k).toNat = k := by simp; omega

theorem putL_inj {m n : Nat} (hm : m < 2 ^ 64) (hn : n < 2 ^ 64) (h : putL m = putL n) : m = n := by
  unfold putL at h
  obtain ⟨h1, h2⟩ := List.cons.inj h
  have e : cntB m = cntB n := by
    have := congrArg UInt8.toNat h1
    rwa [byte_toNat (cntB_le m hm), byte_toNat (cntB_le n hn)] at this
  have := congrArg joinL h2
  rwa [join_put, join_put] at this

theorem str_inj {s t : List UInt8} : str s = str t ↔ s = t := ⟨fun h => by unfold str at h; injection h with h; simpa using h, fun h => by rw [h]⟩
theorem str_beq (s t : List UInt8) : ((str s).toList == (str t).toList) = (s == t) := by rw [Lib.toList_data, Lib.toList_data]; rfl

theorem put_s (x : Int) (w : World) (hx : 0 ≤ x) (hB : x < BB) :
    Calls Try.prog 15 #[.int .u64 x] w fun e w' => e = .returned (.string (str (putL x.toNat))) ∧ Below w.heap.size w w' := put_any x w hx hB
end Go.Proofs.Ytmmbgfbliekkgaa
