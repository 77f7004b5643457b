/-
  Layer 2's small functions, and the reference's: May, Of, Cmp, Same, held.
-/
import Derived.Test.YtmmbgfbliekkgaaNatMath
import Derived.Test.YtmmbgfbliekkgaaRCmp
import Derived.Test.YtmmbgfbliekkgaaLaid
namespace Go.Proofs.Ytmmbgfbliekkgaa
open Go.RowKit

theorem trim_iff {xs : List Int} (m : Nat) (h : xs.length = m + 1) : Trim xs ↔ lim xs m ≠ 0 := by
  rw [lim_nat]
  constructor
  · exact fun t => t m h
  · intro t n hn
    obtain rfl : n = m := by omega
    exact t

set_option maxHeartbeats 400000 in
/-- nat.May. -/
theorem may_val (ao : Option Addr) (n cap : Nat) (xs : List Int) (w : World) (h : RowAt w ao n cap xs) (b : Bool) (hb : b = true ↔ May xs) :
    Calls Try.prog 30 #[.slice ao n cap] w fun e w' => e = .returned (.bool b) ∧ w = w' := by
  have hl : n ≤ maxLen := Nat.le_trans h.fits h.most
  unfold maxLen at hl
  have hlen := h.len
  by_cases h8 : 8 < n
  · have h8' : ¬ (n : Int) ≤ 8 := by omega
    have hbe : b = false := by
      cases b with
      | false => rfl
      | true => have := (hb.1 rfl).1; omega
    have HB : Hid (b = false) := hbe
    clear hb h hlen hbe
    go_enter Try.func30, Try.ntmps30
    go_wp2
    go_ret
    exact ⟨ret_bool HB.out.symm, rfl⟩
  · cases n with
    | zero =>
      have HB : Hid (b = true) := hb.2 (by rw [List.length_eq_zero_iff.1 hlen]; exact May.nil)
      clear hb h hlen
      go_enter Try.func30, Try.ntmps30
      go_wp2
      go_ret
      exact ⟨ret_bool HB.out.symm, rfl⟩
    | succ m =>
      obtain ⟨q, off, rfl, hlt, hc⟩ := h.cells (by intro e; rw [e] at hlen; simp at hlen)
      have hck := hc m (by omega)
      rw [← lim_nat] at hck
      have ht := trim_iff m hlen
      obtain ⟨x, hx⟩ : ∃ x, x = lim xs m := ⟨_, rfl⟩
      rw [← hx] at hck ht
      have hbe : b = (x != 0) := by
        cases b with
        | false =>
          have : x = 0 := by
            rcases Decidable.em (x = 0) with e | e
            · exact e
            · exact absurd (hb.2 ⟨by omega, ht.2 e⟩) (by simp)
          simp [this]
        | true => simp [ht.1 (hb.1 rfl).2]
      have HB : Hid (b = (x != 0)) := hbe
      have h8' : ((m + 1 : Nat) : Int) ≤ 8 := by omega
      clear hb h hc ht hx hlen hbe
      go_enter Try.func30, Try.ntmps30
      go_wp2
      go_ret
      exact ⟨ret_bool HB.out.symm, rfl⟩

set_option maxHeartbeats 400000 in
/-- The reference's May. -/
theorem rmay_val (ao : Option Addr) (n cap : Nat) (xs : List Int) (w : World) (h : RowAt w ao n cap xs) (b : Bool) (hb : b = true ↔ May xs) :
    Calls Try.prog 33 #[.slice ao n cap] w fun e w' => e = .returned (.bool b) ∧ w = w' := by
  have hl : n ≤ maxLen := Nat.le_trans h.fits h.most
  unfold maxLen at hl
  have hlen := h.len
  by_cases h8 : 8 < n
  · have h8' : ¬ (n : Int) ≤ 8 := by omega
    have hbe : b = false := by
      cases b with
      | false => rfl
      | true => have := (hb.1 rfl).1; omega
    have HB : Hid (b = false) := hbe
    clear hb h hlen hbe
    go_enter Try.func33, Try.ntmps33
    go_wp2
    go_ret
    exact ⟨ret_bool HB.out.symm, rfl⟩
  · cases n with
    | zero =>
      have HB : Hid (b = true) := hb.2 (by rw [List.length_eq_zero_iff.1 hlen]; exact May.nil)
      clear hb h hlen
      go_enter Try.func33, Try.ntmps33
      go_wp2
      go_ret
      exact ⟨ret_bool HB.out.symm, rfl⟩
    | succ m =>
      obtain ⟨q, off, rfl, hlt, hc⟩ := h.cells (by intro e; rw [e] at hlen; simp at hlen)
      have hck := hc m (by omega)
      rw [← lim_nat] at hck
      have ht := trim_iff m hlen
      obtain ⟨x, hx⟩ : ∃ x, x = lim xs m := ⟨_, rfl⟩
      rw [← hx] at hck ht
      have hbe : b = (x != 0) := by
        cases b with
        | false =>
          have : x = 0 := by
            rcases Decidable.em (x = 0) with e | e
            · exact e
            · exact absurd (hb.2 ⟨by omega, ht.2 e⟩) (by simp)
          simp [this]
        | true => simp [ht.1 (hb.1 rfl).2]
      have HB : Hid (b = (x != 0)) := hbe
      have h8' : ((m + 1 : Nat) : Int) ≤ 8 := by omega
      clear hb h hc ht hx hlen hbe
      go_enter Try.func33, Try.ntmps33
      go_wp2
      go_ret
      exact ⟨ret_bool HB.out.symm, rfl⟩

set_option maxHeartbeats 400000 in
theorem of_any (x : Int) (w : World) (h0 : 0 ≤ x) (h1 : x < BB) :
    Calls Try.prog 64 #[.int .u64 x] w fun e w' => ∃ ro m cap r, e = .returned (.slice ro m cap) ∧ RowAt w' ro m cap r ∧ Num r x ∧ m ≤ 1 ∧ Below w.heap.size w w' := by
  have H : Hid (RowAt (w.alloc (Obj.cells #[.int .u64 x] 22)) (some ⟨w.heap.size, 0, none⟩) 1 1 [x]) := RowAt.laid w [x] (by intro y hy; simp at hy; subst hy; exact ⟨h0, h1⟩) (by simp [maxLen])
  go_enter Try.func64, Try.ntmps64
  go_wp2_with fail
  refine (trim_any _ _ _ [x] _ H.out (by omega)).mono ?_
  rintro e w1 ⟨ro, m, cap, r, rfl, g1, g2, g3, g4⟩
  rw [show val [x] = x by simp [val]] at g2
  have G : Hid (Num r x) := g2
  have G4 : Hid _ := g4
  clear g2 g4
  go_wp2
  go_ret
  exact ⟨ro, m, cap, r, rfl, g1, G.out, g3, chain ((Below.refl _ _).alloc (Nat.le_refl _) _) G4.out⟩

set_option maxHeartbeats 400000 in
theorem rof_any (x : Int) (w : World) (h0 : 0 ≤ x) (h1 : x < BB) :
    Calls Try.prog 29 #[.int .u64 x] w fun e w' => ∃ ro m cap r, e = .returned (.slice ro m cap) ∧ RowAt w' ro m cap r ∧ Num r x ∧ m ≤ 1 ∧ Below w.heap.size w w' := by
  have H : Hid (RowAt (w.alloc (Obj.cells #[.int .u64 x] 22)) (some ⟨w.heap.size, 0, none⟩) 1 1 [x]) := RowAt.laid w [x] (by intro y hy; simp at hy; subst hy; exact ⟨h0, h1⟩) (by simp [maxLen])
  go_enter Try.func29, Try.ntmps29
  go_wp2_with fail
  refine (rtrim_any _ _ _ [x] _ H.out (by omega)).mono ?_
  rintro e w1 ⟨ro, m, cap, r, rfl, g1, g2, g3, g4⟩
  rw [show val [x] = x by simp [val]] at g2
  have G : Hid (Num r x) := g2
  have G4 : Hid _ := g4
  clear g2 g4
  go_wp2
  go_ret
  exact ⟨ro, m, cap, r, rfl, g1, G.out, g3, chain ((Below.refl _ _).alloc (Nat.le_refl _) _) G4.out⟩

set_option maxHeartbeats 400000 in
theorem rnsame_any (ao bo : Option Addr) (na ca nb cb : Nat) (xs ys : List Int) (w : World) (ha : RowAt w ao na ca xs) (hb : RowAt w bo nb cb ys) :
    Calls Try.prog 27 #[.slice ao na ca, .slice bo nb cb] w fun e w' => e = .returned (.bool (decide (xs = ys))) ∧ Below w.heap.size w w' := by
  have HA : Hid _ := ha
  have HB : Hid _ := hb
  clear ha hb
  go_enter Try.func27, Try.ntmps27
  go_wp2_with fail
  refine (same_any _ _ _ _ _ _ xs ys _ HA.out HB.out).mono ?_
  rintro e w1 ⟨rfl, b1⟩
  have B1 : Hid _ := b1
  clear b1
  go_wp2
  go_ret
  exact ⟨rfl, B1.out.below (Below.refl _ _)⟩
theorem rnsame_yes (ao bo : Option Addr) (na ca nb cb : Nat) (xs ys : List Int) (w : World) (ha : RowAt w ao na ca xs) (hb : RowAt w bo nb cb ys) (h : xs = ys) :
    Calls Try.prog 27 #[.slice ao na ca, .slice bo nb cb] w fun e w' => e = .returned (.bool true) ∧ Below w.heap.size w w' :=
  (rnsame_any ao bo na ca nb cb xs ys w ha hb).mono fun _ _ hh => ⟨hh.1.trans (ret_bool (by simp [h])), hh.2⟩

theorem ret2 {v : Value} {a b : Int} (h : a = b) : Ending.returned (.tuple #[v, .int .i64 a]) = .returned (.tuple #[v, .int .i64 b]) := by rw [h]

end Go.Proofs.Ytmmbgfbliekkgaa
