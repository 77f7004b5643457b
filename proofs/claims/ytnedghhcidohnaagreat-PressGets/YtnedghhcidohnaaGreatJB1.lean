/-
  Joined: Base · Mul64 · Len64 · Lead · Same · Shift1 · Cmp.
-/
import Derived.BigQuiet
import Derived.Deep.QuietTactic
import Derived.Deep.RegionWith
import Derived.Test.YtnedghhcidohnaaGreatRows
import Derived.WalkKit
import Derived.WalkLawsBesides
import Derived.WalkSpells
import Derived.Test.YtnedghhcidohnaaGreatJA1

/-! Rows of limbs in memory: what a slice of uint64 holds, and that it holds it still behind calls that make memory of their own. -/
namespace Go.Proofs.YtnedghhcidohnaaGreat
open Go.RowKit

/-- The slice that begins at 'ao', of n elements, holds the limbs xs. -/
structure RowAt (w : World) (ao : Option Addr) (n cap : Nat) (xs : List Int) : Prop where
  len : xs.length = n
  limbs : Limbs xs
  fits : n ≤ cap
  most : cap ≤ maxLen
  bare : ao = none → cap = 0
  cells : xs ≠ [] → ∃ b off, ao = some ⟨b, off, none⟩ ∧ b < w.heap.size ∧ ∀ j, j < xs.length → w.cell? ⟨b, off + j, none⟩ = some (.int .u64 (xs.getD j 0))

theorem RowAt.below {w w' : World} {ao : Option Addr} {n cap : Nat} {xs : List Int} (h : RowAt w ao n cap xs) (hb : Below w.heap.size w w') : RowAt w' ao n cap xs := by
  refine ⟨h.len, h.limbs, h.fits, h.most, h.bare, fun hne => ?_⟩
  obtain ⟨b, off, e, hlt, hc⟩ := h.cells hne
  exact ⟨b, off, e, Nat.lt_of_lt_of_le hlt hb.size, fun j hj => (hb.cell (p := ⟨b, off + j, none⟩) hlt).trans (hc j hj)⟩

theorem RowAt.drew {w : World} {ao : Option Addr} {n cap : Nat} {xs : List Int} (h : RowAt w ao n cap xs) : RowAt w.drew ao n cap xs := h.below (Below.refl _ _).drew

theorem RowAt.drewN {w : World} {ao : Option Addr} {n cap : Nat} {xs : List Int} (h : RowAt w ao n cap xs) (k : Nat) : RowAt (w.drewN k) ao n cap xs := h.below (below_drewN (Below.refl _ _) k)

theorem RowAt.nil (w : World) : RowAt w none 0 0 [] := ⟨rfl, by intro x hx; simp at hx, Nat.le_refl _, by unfold maxLen; omega, fun _ => rfl, fun h => by simp at h⟩
theorem Num.nil : Num [] 0 := ⟨by intro x hx; simp at hx, by intro n hn; simp at hn, rfl⟩

/-- A row that a call has made and owns is a row. -/
theorem RowAt.owns {w : World} {base n : Nat} {v : Value} {zs : List Int} (h : w.ownsRow base 56 1 v n (zs.map (Value.int .u64))) (hl : Limbs zs) : ∃ ao cap, v = .slice ao n cap ∧ RowAt w ao n cap zs := by
  have hlen : zs.length = n := by have := h.1; simpa using this
  rcases h.2 with ⟨rfl, h0⟩ | ⟨g, cap, cur, rfl, hg, hh, hnc, hcp, hcs, htake⟩
  · subst h0
    rw [List.length_eq_zero_iff.1 hlen]
    exact ⟨none, 0, rfl, RowAt.nil w⟩
  · refine ⟨_, cap, rfl, ⟨hlen, hl, hnc, hcp, by simp, fun _ => ⟨g, 0, rfl, lt_of_block hh, fun j hj => ?_⟩⟩⟩
    rw [Nat.zero_add, h.cellAt j (by omega)]
    simp [hj]

/-- The two worlds differ in draws alone. -/
structure Eqw (w' w : World) : Prop where
  heap : w'.heap = w.heap
  os : w'.os = w.os
  output : w'.output = w.output
  tape : w'.tape = w.tape

theorem Eqw.below {B : Nat} {a w w' : World} (h : Eqw w' w) (hb : Below B a w) : Below B a w' :=
  ⟨h.os.trans hb.os, h.tape.trans hb.tape, h.output.trans hb.output, by rw [h.heap]; exact hb.size, fun k hk => by rw [h.heap]; exact hb.block k hk⟩

/-- A block that is as it was. -/
theorem heapAt {B : Nat} {w w' : World} (h : Below B w w') {k : Nat} {o : Obj} (hk : k < B) (ho : w.heap[k]? = some o) : w'.heap[k]? = some o := (h.block k hk).trans ho

theorem ret_int {k : IntKind} {a b : Int} (h : a = b) : Ending.returned (.int k a) = .returned (.int k b) := by rw [h]

set_option maxHeartbeats 400000 in
theorem at_any (ao : Option Addr) (n cap : Nat) (xs : List Int) (i : Int) (w : World) (h : RowAt w ao n cap xs) (hi : -9223372036854775808 ≤ i) (hi' : i ≤ 9223372036854775807) :
    Calls Tryz.prog 147 #[.slice ao n cap, .int .i64 i] w fun e w' => e = .returned (.int .u64 (lim xs i)) ∧ w' = w := by
  obtain rfl := h.len
  have hl : xs.length ≤ maxLen := Nat.le_trans h.fits h.most
  unfold maxLen at hl
  by_cases h0 : i < 0
  · go_enter Tryz.func147, Tryz.ntmps147
    go_wp2
    go_ret
    exact ⟨ret_int (lim_neg _ _ h0).symm, rfl⟩
  · obtain ⟨k, rfl⟩ := Int.eq_ofNat_of_zero_le (by omega : 0 ≤ i)
    by_cases hk : k < xs.length
    · obtain ⟨b, off, rfl, hlt, hc⟩ := h.cells (by intro e; rw [e] at hk; simp at hk)
      have hck := hc k hk
      clear hc h
      go_enter Tryz.func147, Tryz.ntmps147
      go_wp2
      go_ret
      exact ⟨ret_int (by rw [lim_nat]; simp [hk]), rfl⟩
    · go_enter Tryz.func147, Tryz.ntmps147
      go_wp2
      go_ret
      exact ⟨ret_int (lim_past _ _ (by omega)).symm, rfl⟩

end Go.Proofs.YtnedghhcidohnaaGreat

/-! math/bits.Mul64: both halves of a product of limbs. -/
namespace Go.Proofs.YtnedghhcidohnaaGreat
open Go.RowKit

theorem wrapU (n : Int) : IntKind.u64.wrap n = n % BB := by
  simp [IntKind.wrap, IntKind.signed, IntKind.bits, BB]

theorem ret_tup2 {a b c d : Int} (h1 : a = c) (h2 : b = d) : Ending.returned (.tuple #[.int .u64 a, .int .u64 b]) = .returned (.tuple #[.int .u64 c, .int .u64 d]) := by rw [h1, h2]

theorem low_of (z : Int) (h0 : 0 ≤ z) (h1 : z < BB) : bits .and .u64 z 4294967295 = z % 4294967296 := and_low32 z h0 (by unfold BB at h1; exact h1)
theorem mod_bd (n : Int) : 0 ≤ n % BB ∧ n % BB < BB := ⟨Int.emod_nonneg _ (by have := BB_pos; omega), Int.emod_lt_of_pos _ BB_pos⟩

theorem hi_eq (x y : Int) (hx : 0 ≤ x) (hy : 0 ≤ y) (hxB : x < BB) (hyB : y < BB) :
    IntKind.u64.wrap (IntKind.u64.wrap (IntKind.u64.wrap (x / 4294967296 * (y / 4294967296)) +
      IntKind.u64.wrap (IntKind.u64.wrap (x / 4294967296 * bits .and .u64 y 4294967295) + IntKind.u64.wrap (bits .and .u64 x 4294967295 * bits .and .u64 y 4294967295) / 4294967296) / 4294967296) +
      IntKind.u64.wrap (bits .and .u64 (IntKind.u64.wrap (IntKind.u64.wrap (x / 4294967296 * bits .and .u64 y 4294967295) + IntKind.u64.wrap (bits .and .u64 x 4294967295 * bits .and .u64 y 4294967295) / 4294967296)) 4294967295 +
        IntKind.u64.wrap (bits .and .u64 x 4294967295 * (y / 4294967296))) / 4294967296) = x * y / BB := by
  rw [low_of x hx hxB, low_of y hy hyB]
  simp only [wrapU]
  rw [low_of _ (mod_bd _).1 (mod_bd _).2]
  have h := mul64_arith x y hx (by unfold BB at hxB; exact hxB) hy (by unfold BB at hyB; exact hyB)
  unfold BB
  exact h

set_option maxHeartbeats 400000 in
theorem mul64_any (x y : Int) (w : World) (hx : 0 ≤ x) (hy : 0 ≤ y) (hxB : x < BB) (hyB : y < BB) :
    Calls Tryz.prog 154 #[.int .u64 x, .int .u64 y] w fun e w' => e = .returned (.tuple #[.int .u64 (x * y / BB), .int .u64 (x * y % BB)]) ∧ w = w' := by
  have HX : Hid (x < BB) := hxB
  have HY : Hid (y < BB) := hyB
  clear hxB hyB
  go_enter Tryz.func154, Tryz.ntmps154
  go_wp2
  go_ret2
  exact ⟨ret_tup2 (hi_eq x y hx hy HX.out HY.out) (wrapU _), rfl⟩
end Go.Proofs.YtnedghhcidohnaaGreat

/-! math/bits.Len64: how many bits a limb has. -/
namespace Go.Proofs.YtnedghhcidohnaaGreat
open Go.RowKit
set_option linter.unusedVariables false

theorem wrap_two (k a n : Nat) (h : k ≤ 100) (ha : a ≤ 8) (hn : n = k + a) : wrap64 ((k : Int) + wrap64 (a : Int)) = (n : Int) := by unfold wrap64; omega
theorem wrap_zero (a : Nat) (ha : a ≤ 8) : wrap64 (wrap64 (a : Int)) = (a : Int) := by unfold wrap64; omega

theorem bitLen_up (x : Int) (b d : Nat) (hx : 0 ≤ x) (hd : d = 2 ^ b) (h : (d : Int) ≤ x) : bitLen x.toNat = b + bitLen (x / d).toNat := by
  obtain ⟨X, rfl⟩ := Int.eq_ofNat_of_zero_le hx
  subst hd
  have e : ((X : Int) / ((2 ^ b : Nat) : Int)).toNat = X / 2 ^ b := by rw [← Int.natCast_ediv]; rfl
  rw [e, Int.toNat_natCast]
  exact bitLen_shift X b (by have := Nat.div_pos (show 2 ^ b ≤ X by omega) (Nat.two_pow_pos b); omega)

theorem way7 (x : Int) (hx : 0 ≤ x) (hB : x < BB) (h0 : 4294967296 ≤ x) (h1 : 65536 ≤ x / 4294967296) (h2 : 256 ≤ x / 4294967296 / 65536) : wrap64 (56 + wrap64 ((bitLen (x / 4294967296 / 65536 / 256).toNat : Nat) : Int)) = ((bitLen x.toNat : Nat) : Int) := by
  unfold BB at hB
  refine wrap_two 56 _ _ (by omega) (bitLen_le8 _ (by omega)) ?_
  have e0 := bitLen_up (x) 32 4294967296 (by omega) (by decide) h0
  have e1 := bitLen_up (x / 4294967296) 16 65536 (by omega) (by decide) h1
  have e2 := bitLen_up (x / 4294967296 / 65536) 8 256 (by omega) (by decide) h2
  simp only [Int.cast_ofNat_Int] at e0 e1 e2
  omega
theorem way6 (x : Int) (hx : 0 ≤ x) (hB : x < BB) (h0 : 4294967296 ≤ x) (h1 : 65536 ≤ x / 4294967296) (h2 : x / 4294967296 / 65536 < 256) : wrap64 (48 + wrap64 ((bitLen (x / 4294967296 / 65536).toNat : Nat) : Int)) = ((bitLen x.toNat : Nat) : Int) := by
  unfold BB at hB
  refine wrap_two 48 _ _ (by omega) (bitLen_le8 _ (by omega)) ?_
  have e0 := bitLen_up (x) 32 4294967296 (by omega) (by decide) h0
  have e1 := bitLen_up (x / 4294967296) 16 65536 (by omega) (by decide) h1
  simp only [Int.cast_ofNat_Int] at e0 e1
  omega
theorem way5 (x : Int) (hx : 0 ≤ x) (hB : x < BB) (h0 : 4294967296 ≤ x) (h1 : x / 4294967296 < 65536) (h2 : 256 ≤ x / 4294967296) : wrap64 (40 + wrap64 ((bitLen (x / 4294967296 / 256).toNat : Nat) : Int)) = ((bitLen x.toNat : Nat) : Int) := by
  unfold BB at hB
  refine wrap_two 40 _ _ (by omega) (bitLen_le8 _ (by omega)) ?_
  have e0 := bitLen_up (x) 32 4294967296 (by omega) (by decide) h0
  have e1 := bitLen_up (x / 4294967296) 8 256 (by omega) (by decide) h2
  simp only [Int.cast_ofNat_Int] at e0 e1
  omega
theorem way4 (x : Int) (hx : 0 ≤ x) (hB : x < BB) (h0 : 4294967296 ≤ x) (h1 : x / 4294967296 < 65536) (h2 : x / 4294967296 < 256) : wrap64 (32 + wrap64 ((bitLen (x / 4294967296).toNat : Nat) : Int)) = ((bitLen x.toNat : Nat) : Int) := by
  unfold BB at hB
  refine wrap_two 32 _ _ (by omega) (bitLen_le8 _ (by omega)) ?_
  have e0 := bitLen_up (x) 32 4294967296 (by omega) (by decide) h0
  simp only [Int.cast_ofNat_Int] at e0
  omega
theorem way3 (x : Int) (hx : 0 ≤ x) (hB : x < BB) (h0 : x < 4294967296) (h1 : 65536 ≤ x) (h2 : 256 ≤ x / 65536) : wrap64 (24 + wrap64 ((bitLen (x / 65536 / 256).toNat : Nat) : Int)) = ((bitLen x.toNat : Nat) : Int) := by
  unfold BB at hB
  refine wrap_two 24 _ _ (by omega) (bitLen_le8 _ (by omega)) ?_
  have e0 := bitLen_up (x) 16 65536 (by omega) (by decide) h1
  have e1 := bitLen_up (x / 65536) 8 256 (by omega) (by decide) h2
  simp only [Int.cast_ofNat_Int] at e0 e1
  omega
theorem way2 (x : Int) (hx : 0 ≤ x) (hB : x < BB) (h0 : x < 4294967296) (h1 : 65536 ≤ x) (h2 : x / 65536 < 256) : wrap64 (16 + wrap64 ((bitLen (x / 65536).toNat : Nat) : Int)) = ((bitLen x.toNat : Nat) : Int) := by
  unfold BB at hB
  refine wrap_two 16 _ _ (by omega) (bitLen_le8 _ (by omega)) ?_
  have e0 := bitLen_up (x) 16 65536 (by omega) (by decide) h1
  simp only [Int.cast_ofNat_Int] at e0
  omega
theorem way1 (x : Int) (hx : 0 ≤ x) (hB : x < BB) (h0 : x < 4294967296) (h1 : x < 65536) (h2 : 256 ≤ x) : wrap64 (8 + wrap64 ((bitLen (x / 256).toNat : Nat) : Int)) = ((bitLen x.toNat : Nat) : Int) := by
  unfold BB at hB
  refine wrap_two 8 _ _ (by omega) (bitLen_le8 _ (by omega)) ?_
  have e0 := bitLen_up (x) 8 256 (by omega) (by decide) h2
  simp only [Int.cast_ofNat_Int] at e0
  omega
theorem way0 (x : Int) (hx : 0 ≤ x) (_h0 : x < 4294967296) (_h1 : x < 65536) (h2 : x < 256) : wrap64 (wrap64 ((bitLen x.toNat : Nat) : Int)) = ((bitLen x.toNat : Nat) : Int) := wrap_zero _ (bitLen_le8 _ (by omega))

set_option maxRecDepth 100000 in
set_option maxHeartbeats 1000000 in
theorem len64_any (x : Int) (w : World) (hx : 0 ≤ x) (hB : x < BB) :
    Calls Tryz.prog 79 #[.int .u64 x] w fun e w' => e = .returned (.int .i64 ((bitLen x.toNat : Nat) : Int)) ∧ w' = w := by
  have h0 : x ≤ 18446744073709551615 := by unfold BB at hB; omega
  have HB : Hid (x < BB) := hB
  clear hB
  go_enter Tryz.func79, Tryz.ntmps79
  go_wp2_with fail
  all_goals
    go_ret
    refine ⟨ret_int ?_, rfl⟩
    rw [len8tab_get]
    first
      | exact way7 x hx HB.out (by assumption) (by assumption) (by assumption)
      | exact way6 x hx HB.out (by assumption) (by assumption) (by assumption)
      | exact way5 x hx HB.out (by assumption) (by assumption) (by assumption)
      | exact way4 x hx HB.out (by assumption) (by assumption) (by assumption)
      | exact way3 x hx HB.out (by assumption) (by assumption) (by assumption)
      | exact way2 x hx HB.out (by assumption) (by assumption) (by assumption)
      | exact way1 x hx HB.out (by assumption) (by assumption) (by assumption)
      | exact way0 x hx (by assumption) (by assumption) (by assumption)
end Go.Proofs.YtnedghhcidohnaaGreat

/-! math/bits.LeadingZeros64: how many bits a limb lacks. -/
namespace Go.Proofs.YtnedghhcidohnaaGreat
open Go.RowKit

theorem bitLen_le64 {x : Int} (h0 : 0 ≤ x) (h1 : x < BB) : bitLen x.toNat ≤ 64 := by
  have h2 := (bitLen_spec x.toNat).2
  by_cases h3 : x.toNat = 0
  · rw [h3]; decide
  · have h4 := h2 h3
    have h5 : x.toNat < 2 ^ 64 := by unfold BB at h1; omega
    have h6 : 2 ^ (bitLen x.toNat - 1) < 2 ^ 64 := Nat.lt_of_le_of_lt h4 h5
    have h7 := (Nat.pow_lt_pow_iff_right (by omega)).1 h6
    omega

/-- By how many bits a limb that is not 0 must be shifted so that its highest bit is set. -/
theorem lead_up {x : Int} (h0 : 0 < x) (h1 : x < BB) : 9223372036854775808 ≤ x * 2 ^ (64 - bitLen x.toNat) ∧ (x + 1) * 2 ^ (64 - bitLen x.toNat) ≤ BB ∧ 64 - bitLen x.toNat ≤ 63 := by
  have hl := bitLen_le64 (Int.le_of_lt h0) h1
  have hs := bitLen_spec x.toNat
  have hn : x.toNat ≠ 0 := by omega
  have hlow := hs.2 hn
  have hup := hs.1
  obtain ⟨X, rfl⟩ := Int.eq_ofNat_of_zero_le (Int.le_of_lt h0)
  rw [Int.toNat_natCast] at *
  generalize bitLen X = k at *
  have hk : k ≠ 0 := by
    intro e
    subst e
    simp at hup
    omega
  obtain ⟨j, rfl⟩ : ∃ j, k = j + 1 := ⟨k - 1, by omega⟩
  have e1 : (2 : Nat) ^ (64 - (j + 1)) * 2 ^ (j + 1) = 2 ^ 64 := by rw [← Nat.pow_add]; congr 1; omega
  have e2 : (2 : Nat) ^ (64 - (j + 1)) * 2 ^ j = 2 ^ 63 := by rw [← Nat.pow_add]; congr 1; omega
  have m1 := Nat.mul_le_mul_left (2 ^ (64 - (j + 1))) (show 2 ^ j ≤ X by simpa using hlow)
  have m2 := Nat.mul_le_mul_left (2 ^ (64 - (j + 1))) (show X + 1 ≤ 2 ^ (j + 1) by omega)
  rw [e2, Nat.mul_comm] at m1
  rw [e1, Nat.mul_comm] at m2
  refine ⟨?_, ?_, by omega⟩
  · have : ((2 ^ 63 : Nat) : Int) ≤ ((X * 2 ^ (64 - (j + 1)) : Nat) : Int) := by exact_mod_cast m1
    simpa using this
  · have : (((X + 1) * 2 ^ (64 - (j + 1)) : Nat) : Int) ≤ ((2 ^ 64 : Nat) : Int) := by exact_mod_cast m2
    simpa [BB] using this

set_option maxHeartbeats 400000 in
theorem lead_any (x : Int) (w : World) (h0 : 0 ≤ x) (h1 : x < BB) :
    Calls Tryz.prog 134 #[.int .u64 x] w fun e w' => e = .returned (.int .i64 ((64 - bitLen x.toNat : Nat) : Int)) ∧ w' = w := by
  have hl := bitLen_le64 h0 h1
  have H1 : Hid (x < BB) := h1
  clear h1
  obtain ⟨k, hk⟩ : ∃ k, k = bitLen x.toNat := ⟨_, rfl⟩
  have HK : Hid (k = bitLen x.toNat) := hk
  rw [← hk] at hl ⊢
  clear hk
  go_enter Tryz.func134, Tryz.ntmps134
  go_wp2_with fail
  refine (len64_any x _ h0 H1.out).mono ?_
  rintro e w1 ⟨rfl, rfl⟩
  rw [← HK.out]
  go_wp2
  go_ret
  exact ⟨ret_int (by omega), rfl⟩

theorem lead_top (x : Int) (w : World) (h0 : 9223372036854775808 ≤ x) (h1 : x < BB) :
    Calls Tryz.prog 134 #[.int .u64 x] w fun e w' => e = .returned (.int .i64 0) ∧ w' = w := by
  refine (lead_any x w (by omega) h1).mono ?_
  rintro e w' ⟨rfl, rfl⟩
  have h := lead_up (by omega) h1
  have : 64 - bitLen x.toNat = 0 := by
    rcases Nat.eq_zero_or_pos (64 - bitLen x.toNat) with e | e
    · exact e
    · exfalso
      have h2 := h.2.1
      have h3 : (2 : Int) ^ 1 ≤ 2 ^ (64 - bitLen x.toNat) := by
        have := Nat.pow_le_pow_right (show 0 < 2 by omega) e
        exact_mod_cast this
      have h4 := Int.mul_le_mul_of_nonneg_left h3 (show 0 ≤ x + 1 by omega)
      unfold BB at h2
      omega
  rw [this]
  exact ⟨rfl, rfl⟩

end Go.Proofs.YtnedghhcidohnaaGreat

/-! The reference's Same: whether two rows are the same. -/
namespace Go.Proofs.YtnedghhcidohnaaGreat
open Go.RowKit

theorem Eqw.refl (w : World) : Eqw w w := ⟨rfl, rfl, rfl, rfl⟩
theorem Eqw.cell {w' w : World} (h : Eqw w' w) (a : Addr) : w'.cell? a = w.cell? a := by simp [World.cell?, h.heap]
theorem Eqw.drewN {w' w : World} (h : Eqw w' w) (n : Nat) : Eqw (w'.drewN n) w := ⟨h.heap, h.os, h.output, h.tape⟩
theorem Eqw.drew {w' w : World} (h : Eqw w' w) : Eqw w'.drew w := ⟨h.heap, h.os, h.output, h.tape⟩

theorem ret_bool {a b : Bool} (h : a = b) : Ending.returned (.bool a) = .returned (.bool b) := by rw [h]

theorem eq_of_getD {xs ys : List Int} (h : xs.length = ys.length) (hk : ∀ j, j < xs.length → xs.getD j 0 = ys.getD j 0) : xs = ys := by
  apply List.ext_getElem h
  intro i h1 h2
  have := hk i h1
  simpa [h1, h2] using this

set_option maxHeartbeats 400000 in
theorem same_any (ao bo : Option Addr) (na ca nb cb : Nat) (xs ys : List Int) (w : World) (ha : RowAt w ao na ca xs) (hb : RowAt w bo nb cb ys) :
    Calls Tryz.prog 86 #[.slice ao na ca, .slice bo nb cb] w fun e w' => e = .returned (.bool (decide (xs = ys))) ∧ Eqw w' w := by
  have hna : na ≤ 9223372036854775807 := by have := ha.fits; have := ha.most; unfold maxLen at this; omega
  have hnb : nb ≤ 9223372036854775807 := by have := hb.fits; have := hb.most; unfold maxLen at this; omega
  have hla := ha.len
  have hlb := hb.len
  have HLA : Hid _ := hla
  have HLB : Hid _ := hlb
  clear hla hlb
  by_cases hne : na = nb
  · subst hne
    by_cases h0 : na = 0
    · subst h0
      go_enter Tryz.func86, Tryz.ntmps86
      go_wp2
      refine wp_loop_rounds 1 ?_
      rw [rounds_succ]
      go_wp2
      go_ret
      exact ⟨ret_bool (by rw [List.length_eq_zero_iff.1 HLA.out, List.length_eq_zero_iff.1 HLB.out]; simp), Eqw.refl _⟩
    · obtain ⟨b1, o1, rfl, l1, c1⟩ := ha.cells (by intro e; have := HLA.out; rw [e] at this; simp at this; omega)
      obtain ⟨b2, o2, rfl, l2, c2⟩ := hb.cells (by intro e; have := HLB.out; rw [e] at this; simp at this; omega)
      have C1 : Hid _ := c1
      have C2 : Hid _ := c2
      clear c1 c2 ha hb
      go_enter Tryz.func86, Tryz.ntmps86
      go_wp2
      go_loopw [5] (fun i wr => ∃ k : Nat, k ≤ na ∧ i = .int .i64 k ∧ Eqw wr w ∧ ∀ j, j < k → xs.getD j 0 = ys.getD j 0) (fun i _ => na - (intOf i).toNat)
      case atStart => exact ⟨0, Nat.zero_le _, rfl, Eqw.refl _, fun j hj => absurd hj (Nat.not_lt_zero _)⟩
      case round =>
        obtain ⟨k, hk, rfl, hq, hz⟩ := hrel
        have HZ : Hid (∀ j, j < k → xs.getD j 0 = ys.getD j 0) := hz
        clear hz
        by_cases hlt : k < na
        · have hlt' : (k : Int) < (na : Int) := by omega
          obtain ⟨x, hx⟩ : ∃ x, x = xs.getD k 0 := ⟨_, rfl⟩
          obtain ⟨y, hy⟩ : ∃ y, y = ys.getD k 0 := ⟨_, rfl⟩
          have hcx : wr.cell? ⟨b1, o1 + k, none⟩ = some (.int .u64 x) := by rw [hq.cell, hx]; exact C1.out k (by have := HLA.out; omega)
          have hcy : wr.cell? ⟨b2, o2 + k, none⟩ = some (.int .u64 y) := by rw [hq.cell, hy]; exact C2.out k (by have := HLB.out; omega)
          have HX : Hid _ := hx
          have HY : Hid _ := hy
          have HQ : Hid _ := hq
          clear hx hy hq
          by_cases hxy : x = y
          · have hb0 : (x != y) = false := by simp [hxy]
            have HXY : Hid _ := hxy
            clear hxy
            go_wp2
            go_quiet (fail)
            go_wp2
            go_roundw
            case rel =>
              refine ⟨k + 1, by omega, by go_num, HQ.out.drewN _, fun j hj => ?_⟩
              by_cases e : j = k
              · rw [e, ← HX.out, ← HY.out]; exact HXY.out
              · exact HZ.out j (by omega)
            case measure => simp [intOf]; omega
          · have hb0 : (x != y) = true := by simp [hxy]
            go_wp2
            go_quiet (fail)
            go_wp2
            go_ret
            refine ⟨ret_bool ?_, HQ.out.drewN _⟩
            have : xs ≠ ys := fun e => hxy (by rw [HX.out, HY.out, e])
            simp [this]
        · go_wp2
          go_ret
          refine ⟨ret_bool ?_, hq⟩
          have : xs = ys := eq_of_getD (HLA.out.trans HLB.out.symm) (fun j hj => HZ.out j (by have := HLA.out; omega))
          simp [this]
  · have hb1 : ((na : Int) != (nb : Int)) = true := by rw [bne_iff_ne]; omega
    go_enter Tryz.func86, Tryz.ntmps86
    go_wp2
    go_ret
    refine ⟨ret_bool ?_, Eqw.refl _⟩
    have : xs ≠ ys := fun e => hne (by rw [← HLA.out, ← HLB.out, e])
    simp [this]

theorem same_yes (ao bo : Option Addr) (na ca nb cb : Nat) (xs ys : List Int) (w : World) (ha : RowAt w ao na ca xs) (hb : RowAt w bo nb cb ys) (h : xs = ys) :
    Calls Tryz.prog 86 #[.slice ao na ca, .slice bo nb cb] w fun e w' => e = .returned (.bool true) ∧ Below w.heap.size w w' :=
  (same_any ao bo na ca nb cb xs ys w ha hb).mono fun _ _ hh => ⟨hh.1.trans (ret_bool (by simp [h])), hh.2.below (Below.refl _ _)⟩

theorem same_no (ao bo : Option Addr) (na ca nb cb : Nat) (xs ys : List Int) (w : World) (ha : RowAt w ao na ca xs) (hb : RowAt w bo nb cb ys) (h : xs ≠ ys) :
    Calls Tryz.prog 86 #[.slice ao na ca, .slice bo nb cb] w fun e w' => e = .returned (.bool false) ∧ Below w.heap.size w w' :=
  (same_any ao bo na ca nb cb xs ys w ha hb).mono fun _ _ hh => ⟨hh.1.trans (ret_bool (by simp [h])), hh.2.below (Below.refl _ _)⟩

theorem RowAt.on {w w' w'' : World} {ao : Option Addr} {n cap : Nat} {xs : List Int} (h : RowAt w ao n cap xs) (hb : Below w.heap.size w w') (hb' : Below w'.heap.size w' w'') : RowAt w'' ao n cap xs := (h.below hb).below hb'
theorem chain {w w' w'' : World} (hb : Below w.heap.size w w') (hb' : Below w'.heap.size w' w'') : Below w.heap.size w w'' := hb.trans (hb'.mono hb.size)
end Go.Proofs.YtnedghhcidohnaaGreat

/-! The closures of limb.shiftUp and limb.shiftDown: one limb of a row that is shifted. -/
namespace Go.Proofs.YtnedghhcidohnaaGreat
open Go.RowKit

/-- What has no bits in common is added. -/
theorem or_add {a b : Int} {i : Nat} (ha : 0 ≤ a) (haB : a < BB) (hb : 0 ≤ b) (hbB : b < BB) (h1 : a % 2 ^ i = 0) (h2 : b < 2 ^ i) : bits .or .u64 a b = a + b := by
  obtain ⟨A, rfl⟩ := Int.eq_ofNat_of_zero_le ha
  obtain ⟨B, rfl⟩ := Int.eq_ofNat_of_zero_le hb
  unfold BB at haB hbB
  rw [u64_or_nat A B (by omega) (by omega), nat_join i A B (by exact_mod_cast h1) (by exact_mod_cast h2)]
  rfl
theorem or_add' {a b : Int} {i : Nat} (ha : 0 ≤ a) (haB : a < BB) (hb : 0 ≤ b) (hbB : b < BB) (h1 : b % 2 ^ i = 0) (h2 : a < 2 ^ i) : bits .or .u64 a b = a + b := by
  obtain ⟨A, rfl⟩ := Int.eq_ofNat_of_zero_le ha
  obtain ⟨B, rfl⟩ := Int.eq_ofNat_of_zero_le hb
  unfold BB at haB hbB
  rw [u64_or_nat A B (by omega) (by omega), Nat.or_comm, nat_join i B A (by exact_mod_cast h1) (by exact_mod_cast h2), Nat.add_comm]
  rfl

theorem pow_le_BB {r : Nat} (h : r ≤ 64) : (2 : Int) ^ r ≤ BB := by
  rw [← split_BB h]
  have h1 : (1 : Int) ≤ 2 ^ (64 - r) := two_pos _
  have := Int.mul_le_mul_of_nonneg_left h1 (Int.le_of_lt (two_pos r))
  simpa using this

set_option maxHeartbeats 1000000 in
theorem up1_any (ao : Option Addr) (na ca pa pl pr l r : Nat) (xs : List Int) (i : Nat) (w : World) (hi : i ≤ 3000000) (hl : l ≤ 1000000) (hr : r ≤ 63)
    (ha : RowAt w ao na ca xs) (hpa : w.cell? ⟨pa, 0, none⟩ = some (.slice ao na ca)) (hpl : w.cell? ⟨pl, 0, none⟩ = some (.int .i64 l)) (hpr : w.cell? ⟨pr, 0, none⟩ = some (.int .i64 r)) :
    Calls Tryz.prog 152 #[.int .i64 i, .pointer (some ⟨pa, 0, none⟩), .pointer (some ⟨pl, 0, none⟩), .pointer (some ⟨pr, 0, none⟩)] w fun e w' =>
      e = .returned (.int .u64 (upv xs l r i)) ∧ Eqw w' w := by
  have hw1 : IntKind.i64.wrap ((i : Int) - (l : Int)) = (i : Int) - (l : Int) := IntWalk.i64_in _ ⟨by omega, by omega⟩
  have hw2 : IntKind.i64.wrap ((i : Int) - (l : Int) - 1) = (i : Int) - (l : Int) - 1 := IntWalk.i64_in _ ⟨by omega, by omega⟩
  have hw3 : IntKind.i64.wrap (64 - (r : Int)) = ((64 - r : Nat) : Int) := by rw [IntWalk.i64_in _ ⟨by omega, by omega⟩]; omega
  have g1 : (0 : Int) ≤ (r : Int) := by omega
  have g2 : (r : Int) ≤ 64 := by omega
  have g3 : (0 : Int) ≤ ((64 - r : Nat) : Int) := by omega
  have g4 : ((64 - r : Nat) : Int) ≤ 64 := by omega
  have lx := lim_bd ha.limbs (i - l)
  have ly := lim_bd ha.limbs (i - l - 1)
  have hu := upv_bd ha.limbs l hr i
  have HA : Hid (RowAt w ao na ca xs) := ha
  have HU : Hid _ := hu
  clear ha hu
  go_enter Tryz.func152, Tryz.ntmps152
  go_wp2
  go_quiet ((go_at_call 147; exact Calls.quiet_of_same (at_any _ _ _ xs _ _ (HA.out.drewN _) (by omega) (by omega))))
  go_wp2
  go_ret
  have h := HU.out
  refine ⟨ret_int ?_, (Eqw.refl w).drewN _⟩
  rw [wrapU, or_add (i := r) (mod_bd _).1 (mod_bd _).2 h.2.2.2.1 (by have := pow_le_BB (show r ≤ 64 by omega); omega) h.2.2.1 h.2.2.2.2]
  rfl

set_option maxHeartbeats 1000000 in
theorem dn1_any (ao : Option Addr) (na ca pa pl pr l r : Nat) (xs : List Int) (i : Nat) (w : World) (hi : i ≤ 3000000) (hl : l ≤ 1000000) (hr : r ≤ 63)
    (ha : RowAt w ao na ca xs) (hpa : w.cell? ⟨pa, 0, none⟩ = some (.slice ao na ca)) (hpl : w.cell? ⟨pl, 0, none⟩ = some (.int .i64 l)) (hpr : w.cell? ⟨pr, 0, none⟩ = some (.int .i64 r)) :
    Calls Tryz.prog 151 #[.int .i64 i, .pointer (some ⟨pa, 0, none⟩), .pointer (some ⟨pl, 0, none⟩), .pointer (some ⟨pr, 0, none⟩)] w fun e w' =>
      e = .returned (.int .u64 (dnv xs l r i)) ∧ Eqw w' w := by
  have hw1 : IntKind.i64.wrap ((i : Int) + (l : Int)) = (i : Int) + (l : Int) := IntWalk.i64_in _ ⟨by omega, by omega⟩
  have hw2 : IntKind.i64.wrap ((i : Int) + (l : Int) + 1) = (i : Int) + (l : Int) + 1 := IntWalk.i64_in _ ⟨by omega, by omega⟩
  have hw3 : IntKind.i64.wrap (64 - (r : Int)) = ((64 - r : Nat) : Int) := by rw [IntWalk.i64_in _ ⟨by omega, by omega⟩]; omega
  have g1 : (0 : Int) ≤ (r : Int) := by omega
  have g2 : (r : Int) ≤ 64 := by omega
  have g3 : (0 : Int) ≤ ((64 - r : Nat) : Int) := by omega
  have g4 : ((64 - r : Nat) : Int) ≤ 64 := by omega
  have lx := lim_bd ha.limbs (i + l)
  have ly := lim_bd ha.limbs (i + l + 1)
  have hu := dnv_bd ha.limbs l hr i
  have HA : Hid (RowAt w ao na ca xs) := ha
  have HU : Hid _ := hu
  clear ha hu
  go_enter Tryz.func151, Tryz.ntmps151
  go_wp2
  go_quiet ((go_at_call 147; exact Calls.quiet_of_same (at_any _ _ _ xs _ _ (HA.out.drewN _) (by omega) (by omega))))
  go_wp2
  go_ret
  have h := HU.out
  refine ⟨ret_int ?_, (Eqw.refl w).drewN _⟩
  rw [wrapU, or_add' (i := 64 - r) h.2.2.2.1 (by have := pow_le_BB (show 64 - r ≤ 64 by omega); omega) (mod_bd _).1 (mod_bd _).2 h.2.2.1 h.2.2.2.2]
  rfl
end Go.Proofs.YtnedghhcidohnaaGreat

/-! limb.Cmp: below, the same, or above. -/
namespace Go.Proofs.YtnedghhcidohnaaGreat
open Go.RowKit

/-- -1, 0 or 1, as a is below b, the same, or above. -/
def cmpI (a b : Int) : Int := if a < b then -1 else if a = b then 0 else 1

theorem pv_alike {xs ys : List Int} {m : Nat} (h : ∀ j : Nat, m ≤ j → lim xs j = lim ys j) (n : Nat) (hn : m ≤ n) : pv xs n - pv xs m = pv ys n - pv ys m := by
  induction n with
  | zero => obtain rfl : m = 0 := by omega
            rfl
  | succ n ih =>
    by_cases e : m = n + 1
    · rw [e]; omega
    · have := ih (by omega)
      rw [pv, pv, h n (by omega)]
      omega

theorem pv_less {xs ys : List Int} (hx : Limbs xs) (hy : Limbs ys) {m : Nat} (h : ∀ j : Nat, m + 1 ≤ j → lim xs j = lim ys j) (hlt : lim xs m < lim ys m) : val xs < val ys := by
  have h1 := pv_alike h (max (max xs.length ys.length) (m + 1)) (by omega)
  rw [pv_val xs _ (by omega), pv_val ys _ (by omega), pv, pv] at h1
  have b1 := pv_bd hx m
  have b2 := pv_bd hy m
  have h2 : lim xs m + 1 ≤ lim ys m := hlt
  have h3 := Int.mul_le_mul_of_nonneg_right h2 (Int.le_of_lt (pw_pos m))
  rw [Int.add_mul, Int.one_mul] at h3
  omega

theorem val_alike {xs ys : List Int} (h : ∀ j : Nat, lim xs j = lim ys j) : val xs = val ys := by
  have h1 := pv_alike (m := 0) (fun j _ => h j) (max xs.length ys.length) (Nat.zero_le _)
  rw [pv_val xs _ (by omega), pv_val ys _ (by omega)] at h1
  simp [pv] at h1
  exact h1

end Go.Proofs.YtnedghhcidohnaaGreat
