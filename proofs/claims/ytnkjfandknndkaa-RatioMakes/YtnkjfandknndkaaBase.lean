/-
  Rows of limbs in memory: what a slice of uint64 holds, and that it holds it still behind calls that make memory of their own.
-/
import Derived.Test.YtnkjfandknndkaaRows
import Derived.Test.YtnkjfandknndkaaMath
import Derived.WalkKit
import Derived.WalkSpells
import Derived.WalkLawsBesides
import Derived.Deep.QuietTactic
import Derived.BigQuiet
import Derived.Deep.RegionWith
namespace Go.Proofs.Ytnkjfandknndkaa
open Go.RowKit

/-- The slice that begins at 'ao', of n elements, holds the limbs xs. -/
structure RowAt (w : World) (ao : Option Addr) (n cap : Nat) (xs : List Int) : Prop where
  len : xs.length = n
  limbs : Limbs xs
  fits : n ≤ cap
  most : cap ≤ maxLen
  bare : ao = none → cap = 0
  cells : xs ≠ [] → ∃ b off, ao = some ⟨b, off, none⟩ ∧ b < w.heap.size ∧ ∀ j, j < xs.length → w.cell? ⟨b, off + j, none⟩ = some (.int .u64 (xs.getD j 0))

theorem RowAt.below {w w' : World} {ao : Option Addr} {n cap : Nat} {xs : List Int} (h : RowAt w ao n cap xs) (hb : Below w.heap.size w w') : RowAt w' ao n cap xs := by
  refine ⟨h.len, h.limbs, h.fits, h.most, h.bare, fun hne => ?_⟩
  obtain ⟨b, off, e, hlt, hc⟩ := h.cells hne
  exact ⟨b, off, e, Nat.lt_of_lt_of_le hlt hb.size, fun j hj => (hb.cell (p := ⟨b, off + j, none⟩) hlt).trans (hc j hj)⟩

theorem RowAt.drew {w : World} {ao : Option Addr} {n cap : Nat} {xs : List Int} (h : RowAt w ao n cap xs) : RowAt w.drew ao n cap xs := h.below (Below.refl _ _).drew

theorem RowAt.drewN {w : World} {ao : Option Addr} {n cap : Nat} {xs : List Int} (h : RowAt w ao n cap xs) (k : Nat) : RowAt (w.drewN k) ao n cap xs := h.below (below_drewN (Below.refl _ _) k)

theorem RowAt.nil (w : World) : RowAt w none 0 0 [] := ⟨rfl, by intro x hx; simp at hx, Nat.le_refl _, by unfold maxLen; omega, fun _ => rfl, fun h => by simp at h⟩
theorem Num.nil : Num [] 0 := ⟨by intro x hx; simp at hx, by intro n hn; simp at hn, rfl⟩

/-- A row that a call has made and owns is a row. -/
theorem RowAt.owns {w : World} {base n : Nat} {v : Value} {zs : List Int} (h : w.ownsRow base 50 1 v n (zs.map (Value.int .u64))) (hl : Limbs zs) : ∃ ao cap, v = .slice ao n cap ∧ RowAt w ao n cap zs := by
  have hlen : zs.length = n := by have := h.1; simpa using this
  rcases h.2 with ⟨rfl, h0⟩ | ⟨g, cap, cur, rfl, hg, hh, hnc, hcp, hcs, htake⟩
  · subst h0
    rw [List.length_eq_zero_iff.1 hlen]
    exact ⟨none, 0, rfl, RowAt.nil w⟩
  · refine ⟨_, cap, rfl, ⟨hlen, hl, hnc, hcp, by simp, fun _ => ⟨g, 0, rfl, lt_of_block hh, fun j hj => ?_⟩⟩⟩
    rw [Nat.zero_add, h.cellAt j (by omega)]
    simp [hj]

/-- The two worlds differ in draws alone. -/
structure Eqw (w' w : World) : Prop where
  heap : w'.heap = w.heap
  os : w'.os = w.os
  output : w'.output = w.output
  tape : w'.tape = w.tape

theorem Eqw.below {B : Nat} {a w w' : World} (h : Eqw w' w) (hb : Below B a w) : Below B a w' :=
  ⟨h.os.trans hb.os, h.tape.trans hb.tape, h.output.trans hb.output, by rw [h.heap]; exact hb.size, fun k hk => by rw [h.heap]; exact hb.block k hk⟩

/-- A block that is as it was. -/
theorem heapAt {B : Nat} {w w' : World} (h : Below B w w') {k : Nat} {o : Obj} (hk : k < B) (ho : w.heap[k]? = some o) : w'.heap[k]? = some o := (h.block k hk).trans ho

theorem ret_int {k : IntKind} {a b : Int} (h : a = b) : Ending.returned (.int k a) = .returned (.int k b) := by rw [h]

set_option maxHeartbeats 400000 in
theorem at_any (ao : Option Addr) (n cap : Nat) (xs : List Int) (i : Int) (w : World) (h : RowAt w ao n cap xs) (hi : -9223372036854775808 ≤ i) (hi' : i ≤ 9223372036854775807) :
    Calls Try.prog 74 #[.slice ao n cap, .int .i64 i] w fun e w' => e = .returned (.int .u64 (lim xs i)) ∧ w' = w := by
  obtain rfl := h.len
  have hl : xs.length ≤ maxLen := Nat.le_trans h.fits h.most
  unfold maxLen at hl
  by_cases h0 : i < 0
  · go_enter Try.func74, Try.ntmps74
    go_wp2
    go_ret
    exact ⟨ret_int (lim_neg _ _ h0).symm, rfl⟩
  · obtain ⟨k, rfl⟩ := Int.eq_ofNat_of_zero_le (by omega : 0 ≤ i)
    by_cases hk : k < xs.length
    · obtain ⟨b, off, rfl, hlt, hc⟩ := h.cells (by intro e; rw [e] at hk; simp at hk)
      have hck := hc k hk
      clear hc h
      go_enter Try.func74, Try.ntmps74
      go_wp2
      go_ret
      exact ⟨ret_int (by rw [lim_nat]; simp [hk]), rfl⟩
    · go_enter Try.func74, Try.ntmps74
      go_wp2
      go_ret
      exact ⟨ret_int (lim_past _ _ (by omega)).symm, rfl⟩

end Go.Proofs.Ytnkjfandknndkaa
