/-
  Layer 2's small functions, and the reference's: May, Of, Cmp, Same, held.
-/
import Derived.Test.YtghnmfkgpkikfaaDoorNatMath
import Derived.Test.YtghnmfkgpkikfaaDoorRCmp
import Derived.Test.YtghnmfkgpkikfaaDoorLaid
namespace Go.Proofs.YtghnmfkgpkikfaaDoor
open Go.RowKit

theorem trim_iff {xs : List Int} (m : Nat) (h : xs.length = m + 1) : Trim xs ↔ lim xs m ≠ 0 := by
  rw [lim_nat]
  constructor
  · exact fun t => t m h
  · intro t n hn
    obtain rfl : n = m := by omega
    exact t

set_option maxHeartbeats 400000 in
/-- nat.May. -/
theorem may_val (ao : Option Addr) (n cap : Nat) (xs : List Int) (w : World) (h : RowAt w ao n cap xs) (b : Bool) (hb : b = true ↔ May xs) :
    Calls Tryd.prog 13 #[.slice ao n cap] w fun e w' => e = .returned (.bool b) ∧ w = w' := by
  have hl : n ≤ maxLen := Nat.le_trans h.fits h.most
  unfold maxLen at hl
  have hlen := h.len
  by_cases h8 : 8 < n
  · have h8' : ¬ (n : Int) ≤ 8 := by omega
    have hbe : b = false := by
      cases b with
      | false => rfl
      | true => have := (hb.1 rfl).1; omega
    have HB : Hid (b = false) := hbe
    clear hb h hlen hbe
    go_enter Tryd.func13, Tryd.ntmps13
    go_wp2
    go_ret
    exact ⟨ret_bool HB.out.symm, rfl⟩
  · cases n with
    | zero =>
      have HB : Hid (b = true) := hb.2 (by rw [List.length_eq_zero_iff.1 hlen]; exact May.nil)
      clear hb h hlen
      go_enter Tryd.func13, Tryd.ntmps13
      go_wp2
      go_ret
      exact ⟨ret_bool HB.out.symm, rfl⟩
    | succ m =>
      obtain ⟨q, off, rfl, hlt, hc⟩ := h.cells (by intro e; rw [e] at hlen; simp at hlen)
      have hck := hc m (by omega)
      rw [← lim_nat] at hck
      have ht := trim_iff m hlen
      obtain ⟨x, hx⟩ : ∃ x, x = lim xs m := ⟨_, rfl⟩
      rw [← hx] at hck ht
      have hbe : b = (x != 0) := by
        cases b with
        | false =>
          have : x = 0 := by
            rcases Decidable.em (x = 0) with e | e
            · exact e
            · exact absurd (hb.2 ⟨by omega, ht.2 e⟩) (by simp)
          simp [this]
        | true => simp [ht.1 (hb.1 rfl).2]
      have HB : Hid (b = (x != 0)) := hbe
      have h8' : ((m + 1 : Nat) : Int) ≤ 8 := by omega
      clear hb h hc ht hx hlen hbe
      go_enter Tryd.func13, Tryd.ntmps13
      go_wp2
      go_ret
      exact ⟨ret_bool HB.out.symm, rfl⟩

set_option maxHeartbeats 400000 in
theorem of_any (x : Int) (w : World) (h0 : 0 ≤ x) (h1 : x < BB) :
    Calls Tryd.prog 42 #[.int .u64 x] w fun e w' => ∃ ro m cap r, e = .returned (.slice ro m cap) ∧ RowAt w' ro m cap r ∧ Num r x ∧ m ≤ 1 ∧ Below w.heap.size w w' := by
  have H : Hid (RowAt (w.alloc (Obj.cells #[.int .u64 x] 22)) (some ⟨w.heap.size, 0, none⟩) 1 1 [x]) := RowAt.laid w [x] (by intro y hy; simp at hy; subst hy; exact ⟨h0, h1⟩) (by simp [maxLen])
  go_enter Tryd.func42, Tryd.ntmps42
  go_wp2_with fail
  refine (trim_any _ _ _ [x] _ H.out (by omega)).mono ?_
  rintro e w1 ⟨ro, m, cap, r, rfl, g1, g2, g3, g4⟩
  rw [show val [x] = x by simp [val]] at g2
  have G : Hid (Num r x) := g2
  have G4 : Hid _ := g4
  clear g2 g4
  go_wp2
  go_ret
  exact ⟨ro, m, cap, r, rfl, g1, G.out, g3, chain ((Below.refl _ _).alloc (Nat.le_refl _) _) G4.out⟩

set_option maxHeartbeats 400000 in
theorem rof_any (x : Int) (w : World) (h0 : 0 ≤ x) (h1 : x < BB) :
    Calls Tryd.prog 7 #[.int .u64 x] w fun e w' => ∃ ro m cap r, e = .returned (.slice ro m cap) ∧ RowAt w' ro m cap r ∧ Num r x ∧ m ≤ 1 ∧ Below w.heap.size w w' := by
  have H : Hid (RowAt (w.alloc (Obj.cells #[.int .u64 x] 22)) (some ⟨w.heap.size, 0, none⟩) 1 1 [x]) := RowAt.laid w [x] (by intro y hy; simp at hy; subst hy; exact ⟨h0, h1⟩) (by simp [maxLen])
  go_enter Tryd.func7, Tryd.ntmps7
  go_wp2_with fail
  refine (rtrim_any _ _ _ [x] _ H.out (by omega)).mono ?_
  rintro e w1 ⟨ro, m, cap, r, rfl, g1, g2, g3, g4⟩
  rw [show val [x] = x by simp [val]] at g2
  have G : Hid (Num r x) := g2
  have G4 : Hid _ := g4
  clear g2 g4
  go_wp2
  go_ret
  exact ⟨ro, m, cap, r, rfl, g1, G.out, g3, chain ((Below.refl _ _).alloc (Nat.le_refl _) _) G4.out⟩

theorem ret2 {v : Value} {a b : Int} (h : a = b) : Ending.returned (.tuple #[v, .int .i64 a]) = .returned (.tuple #[v, .int .i64 b]) := by rw [h]

end Go.Proofs.YtghnmfkgpkikfaaDoor
