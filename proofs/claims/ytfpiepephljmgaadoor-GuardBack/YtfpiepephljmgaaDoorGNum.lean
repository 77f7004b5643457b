/-
  The number that bytes are, and the bytes of a number: guard.numberOf and guard.bytesOf.
-/
import Derived.Test.YtfpiepephljmgaaDoorGSum
import Derived.Laws.Bits64b
import Derived.Deep.OwnRows
import Derived.Lib.ConvBytes
import Derived.Lib.FrozenHead2
namespace Go.Proofs.YtfpiepephljmgaaDoor
open Go.RowKit

/-- The number that bytes are, the highest one first. -/
def joinL (t : List UInt8) : Nat := t.foldl (fun n d => n * 256 + d.toNat) 0

theorem joinL_snoc (t : List UInt8) (d : UInt8) : joinL (t ++ [d]) = joinL t * 256 + d.toNat := by simp [joinL, List.foldl_append]
theorem foldl_lt (t : List UInt8) : ∀ n : Nat, t.foldl (fun n d => n * 256 + d.toNat) n < (n + 1) * 256 ^ t.length := by
  induction t with
  | nil => intro n; simp
  | cons d t ih =>
    intro n
    have h := ih (n * 256 + d.toNat)
    have hd := d.toNat_lt
    rw [List.foldl_cons, List.length_cons, Nat.pow_succ, Nat.mul_comm (256 ^ t.length), ← Nat.mul_assoc]
    exact Nat.lt_of_lt_of_le h (Nat.mul_le_mul_right _ (by omega))
theorem joinL_lt (t : List UInt8) : joinL t < 256 ^ t.length := by
  have := foldl_lt t 0
  simpa [joinL] using this

theorem or_byte (v c : Nat) (hv : v < 72057594037927936) (hc : c < 256) : bits .or .u64 ((v : Int) * 256) (c : Int) = ((v * 256 + c : Nat) : Int) := by
  have e : (v : Int) * 256 = ((v * 256 : Nat) : Int) := by omega
  rw [e, bits_or_u64_nat _ _ (by omega) (by omega)]
  have := Nat.two_pow_add_eq_or_of_lt (i := 8) (b := c) (by omega) v
  rw [Nat.mul_comm v 256, ← this]

set_option maxRecDepth 100000 in
set_option maxHeartbeats 2000000 in
theorem numberOf_any (t : List UInt8) (w : World) (hl : t.length ≤ 8) :
    Calls Tryd.prog 23 #[.string (str t)] w fun e w' => e = .returned (.int .u64 (joinL t : Nat)) ∧ w' = w := by
  have hsz : (str t).size = t.length := str_size t
  obtain ⟨L, hL⟩ : ∃ L, L = t.length := ⟨_, rfl⟩
  rw [← hL] at hsz
  have HL : Hid (L = t.length) := hL
  have hl2 : (L : Int) ≤ 8 := by omega
  clear hL hl
  go_enter Tryd.func23, Tryd.ntmps23
  go_wp2
  go_loopw [3, 7] (fun d i wr => ∃ (k v : Nat), k ≤ L ∧ d = .int .u64 v ∧ i = .int .i64 k ∧ wr = w ∧ Hid (v = joinL (t.take k))) (fun _ i _ => L - (intOf i).toNat)
  case atStart => exact ⟨0, 0, Nat.zero_le _, rfl, rfl, rfl, rfl⟩
  case round =>
    obtain ⟨k, v, hk, rfl, rfl, rfl, hv⟩ := hrel
    by_cases hlt : k < L
    · have hlt' : (k : Int) < (L : Int) := by omega
      have hkl : k < t.length := by have := HL.out; omega
      have hks : k < (str t).size := by omega
      have hst : (str t)[k] = t[k] := rfl
      obtain ⟨b, hb⟩ : ∃ b, b = t[k] := ⟨_, rfl⟩
      rw [← hb] at hst
      have hlen : (t.take k).length ≤ 7 := by simp; omega
      have hv4 : v < 72057594037927936 := by
        rw [hv.out]
        have := joinL_lt (t.take k)
        have h7 : 256 ^ (t.take k).length ≤ 256 ^ 7 := Nat.pow_le_pow_right (by decide) hlen
        have e7 : (256 : Nat) ^ 7 = 72057594037927936 := by decide
        omega
      have hbt := b.toNat_lt
      have x1 := or_byte v b.toNat hv4 (by omega)
      have HV : Hid (v * 256 + b.toNat = joinL (t.take (k + 1))) := by
        have h9 : v * 256 + b.toNat = joinL (t.take (k + 1)) := by rw [take_next t k hkl, joinL_snoc, ← hv.out, hb]; rfl
        exact h9
      obtain ⟨z, hz⟩ : ∃ z, z = v * 256 + b.toNat := ⟨_, rfl⟩
      rw [← hz] at x1 HV
      have hv5 : (v : Int) < 72057594037927936 := by omega
      have x2 : bits .or .u64 ((v : Int) * 256) (IntKind.u64.wrap (b.toNat : Int)) = (z : Int) := by
        rw [IntKind.wrap_u64, Int.emod_eq_of_lt (by omega) (by omega)]
        exact x1
      clear hv hz hb hv4 hkl hlen hbt
      go_wp2
      go_roundw
      case rel => exact ⟨k + 1, z, by omega, by go_num, by go_num, by first | rfl | trivial, HV.out⟩
      case measure => simp [intOf]; omega
    · have hkt : k = L := by omega
      have HV : Hid (v = joinL t) := by
        have h := hv.out
        rw [hkt, HL.out, List.take_length] at h
        exact h
      clear hv
      go_wp2
      go_ret
      rw [← HV.out]
      exact ⟨rfl, rfl⟩
end Go.Proofs.YtfpiepephljmgaaDoor
