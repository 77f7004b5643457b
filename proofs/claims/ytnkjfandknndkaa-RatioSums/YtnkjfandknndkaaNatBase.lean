/-
  Layer 2's small functions, and the reference's: May, Of, Cmp, Same, held.
-/
import Derived.Test.YtnkjfandknndkaaNatMath
import Derived.Test.YtnkjfandknndkaaRCmp
import Derived.Test.YtnkjfandknndkaaLaid
namespace Go.Proofs.Ytnkjfandknndkaa
open Go.RowKit

theorem trim_iff {xs : List Int} (m : Nat) (h : xs.length = m + 1) : Trim xs ↔ lim xs m ≠ 0 := by
  rw [lim_nat]
  constructor
  · exact fun t => t m h
  · intro t n hn
    obtain rfl : n = m := by omega
    exact t

set_option maxHeartbeats 400000 in
/-- nat.May. -/
theorem may_val (ao : Option Addr) (n cap : Nat) (xs : List Int) (w : World) (h : RowAt w ao n cap xs) (b : Bool) (hb : b = true ↔ May xs) :
    Calls Try.prog 55 #[.slice ao n cap] w fun e w' => e = .returned (.bool b) ∧ w = w' := by
  have hl : n ≤ maxLen := Nat.le_trans h.fits h.most
  unfold maxLen at hl
  have hlen := h.len
  by_cases h8 : 8 < n
  · have h8' : ¬ (n : Int) ≤ 8 := by omega
    have hbe : b = false := by
      cases b with
      | false => rfl
      | true => have := (hb.1 rfl).1; omega
    have HB : Hid (b = false) := hbe
    clear hb h hlen hbe
    go_enter Try.func55, Try.ntmps55
    go_wp2
    go_ret
    exact ⟨ret_bool HB.out.symm, rfl⟩
  · cases n with
    | zero =>
      have HB : Hid (b = true) := hb.2 (by rw [List.length_eq_zero_iff.1 hlen]; exact May.nil)
      clear hb h hlen
      go_enter Try.func55, Try.ntmps55
      go_wp2
      go_ret
      exact ⟨ret_bool HB.out.symm, rfl⟩
    | succ m =>
      obtain ⟨q, off, rfl, hlt, hc⟩ := h.cells (by intro e; rw [e] at hlen; simp at hlen)
      have hck := hc m (by omega)
      rw [← lim_nat] at hck
      have ht := trim_iff m hlen
      obtain ⟨x, hx⟩ : ∃ x, x = lim xs m := ⟨_, rfl⟩
      rw [← hx] at hck ht
      have hbe : b = (x != 0) := by
        cases b with
        | false =>
          have : x = 0 := by
            rcases Decidable.em (x = 0) with e | e
            · exact e
            · exact absurd (hb.2 ⟨by omega, ht.2 e⟩) (by simp)
          simp [this]
        | true => simp [ht.1 (hb.1 rfl).2]
      have HB : Hid (b = (x != 0)) := hbe
      have h8' : ((m + 1 : Nat) : Int) ≤ 8 := by omega
      clear hb h hc ht hx hlen hbe
      go_enter Try.func55, Try.ntmps55
      go_wp2
      go_ret
      exact ⟨ret_bool HB.out.symm, rfl⟩

set_option maxHeartbeats 400000 in
/-- The reference's May. -/
theorem rmay_val (ao : Option Addr) (n cap : Nat) (xs : List Int) (w : World) (h : RowAt w ao n cap xs) (b : Bool) (hb : b = true ↔ May xs) :
    Calls Try.prog 58 #[.slice ao n cap] w fun e w' => e = .returned (.bool b) ∧ w = w' := by
  have hl : n ≤ maxLen := Nat.le_trans h.fits h.most
  unfold maxLen at hl
  have hlen := h.len
  by_cases h8 : 8 < n
  · have h8' : ¬ (n : Int) ≤ 8 := by omega
    have hbe : b = false := by
      cases b with
      | false => rfl
      | true => have := (hb.1 rfl).1; omega
    have HB : Hid (b = false) := hbe
    clear hb h hlen hbe
    go_enter Try.func58, Try.ntmps58
    go_wp2
    go_ret
    exact ⟨ret_bool HB.out.symm, rfl⟩
  · cases n with
    | zero =>
      have HB : Hid (b = true) := hb.2 (by rw [List.length_eq_zero_iff.1 hlen]; exact May.nil)
      clear hb h hlen
      go_enter Try.func58, Try.ntmps58
      go_wp2
      go_ret
      exact ⟨ret_bool HB.out.symm, rfl⟩
    | succ m =>
      obtain ⟨q, off, rfl, hlt, hc⟩ := h.cells (by intro e; rw [e] at hlen; simp at hlen)
      have hck := hc m (by omega)
      rw [← lim_nat] at hck
      have ht := trim_iff m hlen
      obtain ⟨x, hx⟩ : ∃ x, x = lim xs m := ⟨_, rfl⟩
      rw [← hx] at hck ht
      have hbe : b = (x != 0) := by
        cases b with
        | false =>
          have : x = 0 := by
            rcases Decidable.em (x = 0) with e | e
            · exact e
            · exact absurd (hb.2 ⟨by omega, ht.2 e⟩) (by simp)
          simp [this]
        | true => simp [ht.1 (hb.1 rfl).2]
      have HB : Hid (b = (x != 0)) := hbe
      have h8' : ((m + 1 : Nat) : Int) ≤ 8 := by omega
      clear hb h hc ht hx hlen hbe
      go_enter Try.func58, Try.ntmps58
      go_wp2
      go_ret
      exact ⟨ret_bool HB.out.symm, rfl⟩

set_option maxHeartbeats 400000 in
theorem of_any (x : Int) (w : World) (h0 : 0 ≤ x) (h1 : x < BB) :
    Calls Try.prog 37 #[.int .u64 x] w fun e w' => ∃ ro m cap r, e = .returned (.slice ro m cap) ∧ RowAt w' ro m cap r ∧ Num r x ∧ m ≤ 1 ∧ Below w.heap.size w w' := by
  have H : Hid (RowAt (w.alloc (Obj.cells #[.int .u64 x] 50)) (some ⟨w.heap.size, 0, none⟩) 1 1 [x]) := RowAt.laid w [x] (by intro y hy; simp at hy; subst hy; exact ⟨h0, h1⟩) (by simp [maxLen])
  go_enter Try.func37, Try.ntmps37
  go_wp2_with fail
  refine (trim_any _ _ _ [x] _ H.out (by omega)).mono ?_
  rintro e w1 ⟨ro, m, cap, r, rfl, g1, g2, g3, g4⟩
  rw [show val [x] = x by simp [val]] at g2
  have G : Hid (Num r x) := g2
  have G4 : Hid _ := g4
  clear g2 g4
  go_wp2
  go_ret
  exact ⟨ro, m, cap, r, rfl, g1, G.out, g3, chain ((Below.refl _ _).alloc (Nat.le_refl _) _) G4.out⟩

set_option maxHeartbeats 400000 in
theorem rof_any (x : Int) (w : World) (h0 : 0 ≤ x) (h1 : x < BB) :
    Calls Try.prog 38 #[.int .u64 x] w fun e w' => ∃ ro m cap r, e = .returned (.slice ro m cap) ∧ RowAt w' ro m cap r ∧ Num r x ∧ m ≤ 1 ∧ Below w.heap.size w w' := by
  have H : Hid (RowAt (w.alloc (Obj.cells #[.int .u64 x] 50)) (some ⟨w.heap.size, 0, none⟩) 1 1 [x]) := RowAt.laid w [x] (by intro y hy; simp at hy; subst hy; exact ⟨h0, h1⟩) (by simp [maxLen])
  go_enter Try.func38, Try.ntmps38
  go_wp2_with fail
  refine (rtrim_any _ _ _ [x] _ H.out (by omega)).mono ?_
  rintro e w1 ⟨ro, m, cap, r, rfl, g1, g2, g3, g4⟩
  rw [show val [x] = x by simp [val]] at g2
  have G : Hid (Num r x) := g2
  have G4 : Hid _ := g4
  clear g2 g4
  go_wp2
  go_ret
  exact ⟨ro, m, cap, r, rfl, g1, G.out, g3, chain ((Below.refl _ _).alloc (Nat.le_refl _) _) G4.out⟩

set_option maxHeartbeats 400000 in
theorem rnsame_any (ao bo : Option Addr) (na ca nb cb : Nat) (xs ys : List Int) (w : World) (ha : RowAt w ao na ca xs) (hb : RowAt w bo nb cb ys) :
    Calls Try.prog 36 #[.slice ao na ca, .slice bo nb cb] w fun e w' => e = .returned (.bool (decide (xs = ys))) ∧ Below w.heap.size w w' := by
  have HA : Hid _ := ha
  have HB : Hid _ := hb
  clear ha hb
  go_enter Try.func36, Try.ntmps36
  go_wp2_with fail
  refine (same_any _ _ _ _ _ _ xs ys _ HA.out HB.out).mono ?_
  rintro e w1 ⟨rfl, b1⟩
  have B1 : Hid _ := b1
  clear b1
  go_wp2
  go_ret
  exact ⟨rfl, B1.out.below (Below.refl _ _)⟩
theorem rnsame_yes (ao bo : Option Addr) (na ca nb cb : Nat) (xs ys : List Int) (w : World) (ha : RowAt w ao na ca xs) (hb : RowAt w bo nb cb ys) (h : xs = ys) :
    Calls Try.prog 36 #[.slice ao na ca, .slice bo nb cb] w fun e w' => e = .returned (.bool true) ∧ Below w.heap.size w w' :=
  (rnsame_any ao bo na ca nb cb xs ys w ha hb).mono fun _ _ hh => ⟨hh.1.trans (ret_bool (by simp [h])), hh.2⟩

theorem ret2 {v : Value} {a b : Int} (h : a = b) : Ending.returned (.tuple #[v, .int .i64 a]) = .returned (.tuple #[v, .int .i64 b]) := by rw [h]

set_option maxHeartbeats 400000 in
/-- The reference's held: what comes of it, if it may be. -/
theorem held_any (ao : Option Addr) (n cap : Nat) (xs : List Int) (v : Int) (w : World) (h : RowAt w ao n cap xs) (hv : Num xs v) (ok : Prop) (hok : ok) :
    Calls Try.prog 83 #[.slice ao n cap] w fun e w' => (∃ ro m c r k, e = .returned (.tuple #[.slice ro m c, .int .i64 k]) ∧ RowAt w' ro m c r ∧ Out ok False v r k) ∧ w = w' := by
  have hl : n ≤ maxLen := Nat.le_trans h.fits h.most
  unfold maxLen at hl
  have hlen := h.len
  have h8 := hv.le8
  rw [hlen] at h8
  have HR : Hid (RowAt w ao n cap xs) := h
  have HV : Hid (Num xs v) := hv
  have HO : Hid ok := hok
  clear h hv hok hlen
  by_cases hn : 8 < n
  · have hn' : (8 : Int) < (n : Int) := by omega
    have HG : Hid (Big ≤ v) := by
      have : ¬ v < Big := fun hh => by have := h8.2 hh; omega
      exact (Int.not_lt.1 this)
    clear h8
    go_enter Try.func83, Try.ntmps83
    go_wp2
    go_ret2
    exact ⟨⟨none, 0, 0, [], 21, rfl, RowAt.nil _, .big HO.out (fun f => f) HG.out⟩, rfl⟩
  · have hn' : ¬ (8 : Int) < (n : Int) := by omega
    have HG : Hid (v < Big) := h8.1 (by omega)
    clear h8
    go_enter Try.func83, Try.ntmps83
    go_wp2
    go_ret2
    exact ⟨⟨ao, n, cap, xs, 0, rfl, HR.out, .fine xs HO.out (fun f => f) HG.out HV.out⟩, rfl⟩

end Go.Proofs.Ytnkjfandknndkaa
