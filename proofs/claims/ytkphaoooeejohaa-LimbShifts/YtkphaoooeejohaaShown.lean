/-
  The statements' anchor: that a carry goes on.
-/
import Derived.Test.YtkphaoooeejohaaAdd
import Derived.Test.YtkphaoooeejohaaSame
namespace Go.Proofs.Ytkphaoooeejohaa
open Go.RowKit

/-- A row that has just been laid. -/
theorem RowAt.laid (w : World) (zs : List Int) (hl : Limbs zs) (hn : zs.length ≤ maxLen) : RowAt (w.alloc (Obj.cells (zs.map (Value.int .u64)).toArray 36)) (some ⟨w.heap.size, 0, none⟩) zs.length zs.length zs := by
  have h := World.ownsRow_lit (base := 0) (e := 36) (size := 1) w (zs.map (Value.int .u64)).toArray zs.length (Nat.zero_le _) hn (by simp)
  obtain ⟨a, c, e, hr⟩ := RowAt.owns h hl
  cases e
  exact hr

theorem shown_num {r : List Int} (h : Num r (val [18446744073709551615] + val [1])) : r = [0, 1] := by
  refine h.one ⟨?_, ?_, ?_⟩
  · intro x hx
    simp at hx
    rcases hx with rfl | rfl <;> (unfold BB; omega)
  · intro n hn
    simp at hn
    subst hn
    simp
  · simp [val, BB]

set_option maxHeartbeats 400000 in
theorem shown_any (w : World) : Calls Try.prog 12 #[] w fun e w' => e = .returned (.bool true) ∧ Below w.heap.size w w' := by
  have h1 : RowAt (w.alloc (Obj.cells #[.int .u64 18446744073709551615] 36)) (some ⟨w.heap.size, 0, none⟩) 1 1 [18446744073709551615] := RowAt.laid w [18446744073709551615] (by intro x hx; simp at hx; subst hx; unfold BB; omega) (by simp [maxLen])
  have h2 : RowAt ((w.alloc (Obj.cells #[.int .u64 18446744073709551615] 36)).alloc (Obj.cells #[.int .u64 1] 36)) (some ⟨w.heap.size + 1, 0, none⟩) 1 1 [1] := by
    have := RowAt.laid (w.alloc (Obj.cells #[.int .u64 18446744073709551615] 36)) [1] (by intro x hx; simp at hx; subst hx; unfold BB; omega) (by simp [maxLen])
    simpa using this
  have H1 : Hid (RowAt ((w.alloc (Obj.cells #[.int .u64 18446744073709551615] 36)).alloc (Obj.cells #[.int .u64 1] 36)) (some ⟨w.heap.size, 0, none⟩) 1 1 [18446744073709551615]) := h1.below ((Below.refl _ _).alloc (Nat.le_refl _) _)
  have H2 : Hid (RowAt ((w.alloc (Obj.cells #[.int .u64 18446744073709551615] 36)).alloc (Obj.cells #[.int .u64 1] 36)) (some ⟨w.heap.size + 1, 0, none⟩) 1 1 [1]) := h2
  clear h1 h2
  go_enter Try.func12, Try.ntmps12
  go_wp2_with fail
  refine (add_any _ _ _ _ _ _ [18446744073709551615] [1] _ H1.out H2.out (by omega) (by omega)).mono ?_
  rintro e w1 ⟨ro, m, cap, r, rfl, hr, hnum, hm, hbel⟩
  have h3 : RowAt (w1.alloc (Obj.cells #[.int .u64 0, .int .u64 1] 36)) (some ⟨w1.heap.size, 0, none⟩) 2 2 [0, 1] := RowAt.laid w1 [0, 1] (by intro x hx; simp at hx; rcases hx with rfl | rfl <;> (unfold BB; omega)) (by simp [maxLen])
  have H3 : Hid (RowAt (w1.alloc (Obj.cells #[.int .u64 0, .int .u64 1] 36)) (some ⟨w1.heap.size, 0, none⟩) 2 2 [0, 1]) := h3
  have H4 : Hid (RowAt (w1.alloc (Obj.cells #[.int .u64 0, .int .u64 1] 36)) ro m cap r) := hr.below ((Below.refl _ _).alloc (Nat.le_refl _) _)
  have H5 : Hid (r = [0, 1]) := shown_num hnum
  have H6 : Hid (Below w.heap.size w w1) := (((Below.refl _ _).alloc (Nat.le_refl _) _).alloc (by simp) _).trans (hbel.mono (by simp; omega))
  have hz : w.heap.size ≤ w1.heap.size := H6.out.size
  clear hr hnum hm hbel h3 H1 H2
  go_wp2_with fail
  refine (same_any _ _ _ _ _ _ r [0, 1] _ H4.out H3.out).mono ?_
  rintro e w2 ⟨rfl, hq⟩
  go_wp2
  go_ret
  exact ⟨ret_bool (by rw [H5.out]; simp), hq.below (H6.out.alloc hz _)⟩
end Go.Proofs.Ytkphaoooeejohaa
