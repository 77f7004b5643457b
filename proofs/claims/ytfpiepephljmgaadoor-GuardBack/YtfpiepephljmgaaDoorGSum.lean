/-
  guard.Sum, and what shows that a text has a sum.
-/
import Derived.Test.YtfpiepephljmgaaDoorGMath
import Derived.WalkKit
import Derived.WalkSpells
import Derived.WalkLawsBesides
import Derived.Deep.QuietTactic
import Derived.BigQuiet
import Derived.Deep.RegionWith
import Derived.Deep.CutRange
import Derived.Lib.LaidTab
import Derived.Lib.Strings
import Derived.Below
namespace Go.Proofs.YtfpiepephljmgaaDoor
open Go.RowKit

/-- The table of half bytes lies in its place. -/
def Tab (w : World) : Prop := ∀ i, i < 16 → w.cell? ⟨0, i, none⟩ = some (.int .u32 (tab.getD i 0))

/-- A text of bytes. -/
def str (s : List UInt8) : ByteArray := ⟨s.toArray⟩
theorem str_size (s : List UInt8) : (str s).size = s.length := by simp [str, ByteArray.size]

theorem wrap_u32n (n : Nat) (h : n < 4294967296) : IntKind.u32.wrap (n : Int) = (n : Int) := by
  simp only [IntKind.wrap, IntKind.bits, IntKind.signed]
  simp
  omega

theorem xor_u32 (a b : Nat) (ha : a < 4294967296) (hb : b < 4294967296) : bits .xor .u32 (a : Int) (b : Int) = ((a ^^^ b : Nat) : Int) := by
  have hx : a ^^^ b < 2 ^ 32 := Nat.xor_lt_two_pow (by omega) (by omega)
  have h1 : (BitVec.ofInt 32 (a : Int)).toNat = a := by
    rw [BitVec.ofInt_natCast, BitVec.toNat_ofNat]; exact Nat.mod_eq_of_lt (by omega)
  have h2 : (BitVec.ofInt 32 (b : Int)).toNat = b := by
    rw [BitVec.ofInt_natCast, BitVec.toNat_ofNat]; exact Nat.mod_eq_of_lt (by omega)
  show IntKind.u32.wrap ((BitVec.ofInt 32 (a : Int) ^^^ BitVec.ofInt 32 (b : Int)).toNat : Int) = _
  rw [BitVec.toNat_xor, h1, h2, wrap_u32n _ (by omega)]

theorem and_u32 (a : Nat) (ha : a < 4294967296) : bits .and .u32 (a : Int) 15 = ((a % 16 : Nat) : Int) := by
  have h1 : (BitVec.ofInt 32 (a : Int)).toNat = a := by
    rw [BitVec.ofInt_natCast, BitVec.toNat_ofNat]; exact Nat.mod_eq_of_lt (by omega)
  have h2 : (BitVec.ofInt 32 (15 : Int)).toNat = 15 := by decide
  show IntKind.u32.wrap ((BitVec.ofInt 32 (a : Int) &&& BitVec.ofInt 32 (15 : Int)).toNat : Int) = _
  rw [BitVec.toNat_and, h1, h2, show a &&& 15 = a % 16 from Nat.and_two_pow_sub_one_eq_mod a 4, wrap_u32n _ (by omega)]

/-- What the table makes of a sum: four steps. -/
theorem half (w : World) (h : Tab w) (n : Nat) (hn : n < 4294967296) : ∃ t : Nat, bits .and .u32 (n : Int) 15 = ((n % 16 : Nat) : Int) ∧ w.cell? ⟨0, n % 16, none⟩ = some (.int .u32 (t : Int)) ∧ bits .xor .u32 ((n : Int) / 16) (t : Int) = ((st 4 n : Nat) : Int) ∧ st 4 n < 4294967296 := by
  have ht : st 4 (n % 16) < 2 ^ 32 := st_lt 4 (by omega)
  refine ⟨st 4 (n % 16), and_u32 n hn, ?_, ?_, st_lt 4 (by omega)⟩
  · rw [h _ (Nat.mod_lt _ (by decide)), tab_at _ (Nat.mod_lt _ (by decide))]
  · have e : (n : Int) / 16 = ((n / 16 : Nat) : Int) := by omega
    rw [e, xor_u32 _ _ (by omega) (by omega), ← st4]

theorem byt_half (c : Nat) (b : UInt8) : byt c b = st 4 (st 4 (c ^^^ b.toNat)) := st_add 4 4 _

theorem take_next (s : List UInt8) (k : Nat) (h : k < s.length) : s.take (k + 1) = s.take k ++ [s[k]] := by
  rw [List.take_add_one, List.getElem?_eq_getElem h]
  rfl

set_option maxRecDepth 100000 in
set_option maxHeartbeats 2000000 in
theorem sum_any (s : List UInt8) (w : World) (hT : Tab w) (hl : s.length ≤ 100000) :
    Calls Tryd.prog 17 #[.string (str s)] w fun e w' => e = .returned (.int .u32 ((crc s : Nat) : Int)) ∧ w' = w := by
  have HT : Hid (Tab w) := hT
  have hsz : (str s).size = s.length := str_size s
  obtain ⟨L, hL⟩ : ∃ L, L = s.length := ⟨_, rfl⟩
  rw [← hL] at hsz
  have HL : Hid (L = s.length) := hL
  have hl2 : (L : Int) ≤ 100000 := by omega
  clear hT hL
  go_enter Tryd.func17, Tryd.ntmps17
  go_wp2
  go_loopw [3, 7] (fun d i wr => ∃ (k v : Nat), k ≤ L ∧ d = .int .u32 v ∧ i = .int .i64 k ∧ wr = w ∧ Hid (v = crcF 4294967295 (s.take k))) (fun _ i _ => L - (intOf i).toNat)
  case atStart => exact ⟨0, 4294967295, Nat.zero_le _, rfl, rfl, rfl, rfl⟩
  case round =>
    obtain ⟨k, v, hk, rfl, rfl, rfl, hv⟩ := hrel
    by_cases hlt : k < L
    · have hlt' : (k : Int) < (L : Int) := by omega
      have hkl : k < s.length := by have := HL.out; omega
      have hks : k < (str s).size := by omega
      have hst : (str s)[k] = s[k] := rfl
      obtain ⟨b, hb⟩ : ∃ b, b = s[k] := ⟨_, rfl⟩
      rw [← hb] at hst
      have hv4 : v < 2 ^ 32 := by rw [hv.out]; exact crcF_lt (by decide) _
      have hbt := b.toNat_lt
      have x1 : bits .xor .u32 (v : Int) ((b.toNat : Int) % 4294967296) = ((v ^^^ b.toNat : Nat) : Int) := by
        rw [Int.emod_eq_of_lt (by omega) (by omega)]
        exact xor_u32 v b.toNat (by omega) (by omega)
      have hx4 : v ^^^ b.toNat < 2 ^ 32 := Nat.xor_lt_two_pow hv4 (by omega)
      obtain ⟨x, hx⟩ : ∃ x, x = v ^^^ b.toNat := ⟨_, rfl⟩
      rw [← hx] at x1 hx4
      obtain ⟨t, a1, c1, x2, h2⟩ := half _ HT.out x (by omega)
      obtain ⟨y, hy⟩ : ∃ y, y = st 4 x := ⟨_, rfl⟩
      rw [← hy] at x2 h2
      obtain ⟨u, a2, c2, x3, h3⟩ := half _ HT.out y (by omega)
      have HV : Hid (st 4 y = crcF 4294967295 (s.take (k + 1))) := by
        have h9 : st 4 y = crcF 4294967295 (s.take (k + 1)) := by rw [take_next s k hkl, crcF_snoc, byt_half, ← hv.out, hy, hx, hb]; rfl
        exact h9
      obtain ⟨z, hz⟩ : ∃ z, z = st 4 y := ⟨_, rfl⟩
      rw [← hz] at x3 HV
      obtain ⟨m, hm⟩ : ∃ m, m = x % 16 := ⟨_, rfl⟩
      rw [← hm] at a1 c1
      obtain ⟨n, hn⟩ : ∃ n, n = y % 16 := ⟨_, rfl⟩
      rw [← hn] at a2 c2
      have hm16 : m < 16 := by omega
      have hn16 : n < 16 := by omega
      have hm1 : (m : Int) < 16 := by omega
      have hn1 : (n : Int) < 16 := by omega
      clear hv hx hy hz hb hm hn h2 h3 hx4 hv4 hkl hbt
      go_wp2
      go_roundw
      case rel => exact ⟨k + 1, z, by omega, by go_num, by go_num, by first | rfl | trivial, HV.out⟩
      case measure => simp [intOf]; omega
    · have hkt : k = L := by omega
      have HV : Hid (v ^^^ 4294967295 = crc s ∧ v < 2 ^ 32) := by
        have h := hv.out
        rw [hkt, HL.out, List.take_length] at h
        rw [h]
        exact ⟨rfl, crcF_lt (by decide) _⟩
      clear hv
      go_wp2
      go_ret
      have h9 := HV.out
      refine ⟨?_, rfl⟩
      have e : bits .xor .u32 4294967295 (v : Int) = ((crc s : Nat) : Int) := by
        rw [← h9.1, Nat.xor_comm]
        exact xor_u32 4294967295 v (by decide) (by omega)
      first | exact congrArg (fun z => Ending.returned (Value.int IntKind.u32 z)) e | (simp only [e]; done)

theorem str_shown : (ByteArray.mk #[49, 50, 51, 52, 53, 54, 55, 56, 57]) = str [49, 50, 51, 52, 53, 54, 55, 56, 57] := rfl

set_option maxHeartbeats 1000000 in
theorem shown_any (w : World) (hT : Tab w) :
    Calls Tryd.prog 10 #[] w fun e w' => e = .returned (.bool true) ∧ w' = w := by
  have HT : Hid (Tab w) := hT
  clear hT
  go_enter Tryd.func10, Tryd.ntmps10
  go_wp2_with fail
  rw [str_shown]
  refine (sum_any _ _ HT.out (by decide)).mono ?_
  rw [crc_shown]
  rintro e w1 ⟨rfl, rfl⟩
  go_wp2
  go_ret
  exact ⟨rfl, rfl⟩
end Go.Proofs.YtfpiepephljmgaaDoor
