/-
  limb.Trim: the one row of the same number.
-/
import Derived.Test.YtnkjfandknndkaaMul
namespace Go.Proofs.Ytnkjfandknndkaa
open Go.RowKit

set_option maxHeartbeats 400000 in
theorem trim1_any (ao : Option Addr) (na ca pa : Nat) (xs : List Int) (i : Nat) (w : World) (hi : i < na)
    (ha : RowAt w ao na ca xs) (hpa : w.cell? ⟨pa, 0, none⟩ = some (.slice ao na ca)) :
    Calls Try.prog 85 #[.int .i64 i, .pointer (some ⟨pa, 0, none⟩)] w fun e w' => e = .returned (.int .u64 (lim xs i)) ∧ w' = w := by
  obtain ⟨b, off, rfl, hlt, hc⟩ := ha.cells (by intro e; have := ha.len; rw [e] at this; simp at this; omega)
  have hck := hc i (by have := ha.len; omega)
  rw [← lim_nat] at hck
  clear hc ha
  have hi' : (i : Int) < (na : Int) := by omega
  go_enter Try.func85, Try.ntmps85
  go_wp2
  go_ret
  exact ⟨rfl, rfl⟩

/-- What the closure of Trim holds while the limbs zs have been told. -/
def TrimInv (w0 : World) (pa : Nat) (av : Value) (xs : List Int) (zs : List Int) (wr : World) : Prop :=
  Below w0.heap.size w0 wr ∧ wr.heap[pa]? = some (.cells #[av] 22 (0, 0)) ∧ val zs = pv xs zs.length

set_option maxHeartbeats 400000 in
theorem trim_core (ao : Option Addr) (na ca pa m1 : Nat) (xs : List Int) (w0 W : World) (ha : RowAt w0 ao na ca xs) (hna : na ≤ 900000) (t1 : Tl xs m1) (hbel : Below w0.heap.size w0 W) (hpa : W.heap[pa]? = some (.cells #[.slice ao na ca] 22 (0, 0))) :
    Calls Try.prog 84 #[.int .i64 m1, .func (.func 85) #[] #[.pointer (some ⟨pa, 0, none⟩)]] W fun e w' =>
      ∃ ro m cap r, e = .returned (.slice ro m cap) ∧ RowAt w' ro m cap r ∧ Num r (val xs) ∧ m ≤ na ∧ Below w0.heap.size w0 w' := by
  have hm : m1 ≤ na := by have := t1.1; have := ha.len; omega
  refine (build_any m1 85 _ (TrimInv w0 pa (.slice ao na ca) xs) W (by omega) ?_ (fun _ _ => by simp) ?_ ?_).mono ?_
  · exact ⟨hbel, hpa, by simp [val, pv]⟩
  · rintro zs w1 w2 ⟨h1, h2, h3⟩ hb12
    exact ⟨h1.trans (hb12.mono hbel.size), heapAt hb12 (lt_of_block hpa) h2, h3⟩
  · rintro zs wr hlt ⟨h1, h2, hval⟩
    have lx := lim_bd ha.limbs zs.length
    refine (trim1_any ao na ca pa xs zs.length wr (by omega) (ha.below h1) (cell_of_one h2)).mono ?_
    rintro e w' ⟨rfl, rfl⟩
    refine ⟨_, rfl, lx.1, lx.2, ⟨h1, h2, ?_⟩, fun _ _ => rfl, rfl⟩
    rw [val_snoc, List.length_append, List.length_singleton, pv, hval]
  · rintro e w' ⟨ro, cap, m, zs, rfl, hlen, hlm, htl, hrow, h1, -, hval⟩
    refine ⟨ro, m, cap, _, rfl, hrow, ?_, by have := htl.1; omega, h1⟩
    have hnum := Num.ofTl hlm htl
    rw [hval, hlen, ← val_take_pv xs m1 t1.1, t1.val] at hnum
    exact hnum

set_option maxHeartbeats 400000 in
theorem trim_any (ao : Option Addr) (na ca : Nat) (xs : List Int) (w : World) (ha : RowAt w ao na ca xs) (hna : na ≤ 900000) :
    Calls Try.prog 67 #[.slice ao na ca] w fun e w' => ∃ ro m cap r, e = .returned (.slice ro m cap) ∧ RowAt w' ro m cap r ∧ Num r (val xs) ∧ m ≤ na ∧ Below w.heap.size w w' := by
  have hmf : ∀ (fn : Fn) (first cap : Array Value) (w : World), (Instr.makeFunc fn first cap).run Try.prog w = .ok (.func fn first cap) w := fun _ _ _ _ => rfl
  obtain ⟨m1, t1⟩ := tl_ex xs
  have H : _ := trim_core ao na ca w.heap.size m1 xs w (w.alloc (Obj.cells #[.slice ao na ca] 22)) ha hna t1 ((Below.refl _ _).alloc (Nat.le_refl _) _) (heap_alloc_new w _)
  have HT : Hid (Tl xs m1) := t1
  have HH : Hid (∀ u : Unit, Calls Try.prog 84 #[.int .i64 m1, .func (.func 85) #[] #[.pointer (some ⟨w.heap.size, 0, none⟩)]] (w.alloc (Obj.cells #[.slice ao na ca] 22)) fun e w' =>
      ∃ ro m cap r, e = .returned (.slice ro m cap) ∧ RowAt w' ro m cap r ∧ Num r (val xs) ∧ m ≤ na ∧ Below w.heap.size w w') := fun _ => H
  have HA : Hid (RowAt (w.alloc (Obj.cells #[.slice ao na ca] 22)) ao na ca xs) := ha.below ((Below.refl _ _).alloc (Nat.le_refl _) _)
  clear H t1 ha
  go_enter Try.func67, Try.ntmps67
  go_wp2_with fail
  refine (trimLen_q _ _ _ m1 xs _ HA.out HT.out).mono ?_
  rintro e w1 ⟨rfl, hw⟩
  rw [hw]
  clear hw
  go_wp2_with fail
  refine (HH.out ()).mono ?_
  rintro e w1 ⟨ro, m, cap, r, rfl, h1, h2, h3, h4⟩
  go_wp2
  go_ret
  exact ⟨ro, m, cap, r, rfl, h1, h2, h3, h4⟩

theorem RowAt.cellAt {w : World} {b off n cap : Nat} {xs : List Int} (h : RowAt w (some ⟨b, off, none⟩) n cap xs) (j : Nat) (hj : j < n) : w.cell? ⟨b, off + j, none⟩ = some (.int .u64 (lim xs j)) := by
  obtain ⟨b', off', e, _, hc⟩ := h.cells (by intro e; have := h.len; rw [e] at this; simp at this; omega)
  cases e
  rw [hc j (by have := h.len; omega), lim_nat]

/-- Trim's result: nothing, or a row whose last limb is not 0. -/
theorem trim_shape (ao : Option Addr) (na ca : Nat) (xs : List Int) (w : World) (ha : RowAt w ao na ca xs) (hna : na ≤ 900000) :
    Calls Try.prog 67 #[.slice ao na ca] w fun e w' => Below w.heap.size w w' ∧ ((∃ ro cap, e = .returned (.slice ro 0 cap) ∧ RowAt w' ro 0 cap [] ∧ Num [] (val xs)) ∨
      ∃ b off m cap r, e = .returned (.slice (some ⟨b, off, none⟩) (m + 1) cap) ∧ RowAt w' (some ⟨b, off, none⟩) (m + 1) cap r ∧ Num r (val xs) ∧ lim r m ≠ 0 ∧ m + 1 ≤ na) := by
  refine (trim_any ao na ca xs w ha hna).mono ?_
  rintro e w' ⟨ro, m, cap, r, rfl, h1, h2, h3, h4⟩
  refine ⟨h4, ?_⟩
  have hl := h1.len
  cases m with
  | zero =>
    obtain rfl := List.length_eq_zero_iff.1 hl
    exact .inl ⟨ro, cap, rfl, h1, h2⟩
  | succ m =>
    obtain ⟨b, off, rfl, _, _⟩ := h1.cells (by intro e; rw [e] at hl; simp at hl)
    exact .inr ⟨b, off, m, cap, r, rfl, h1, h2, by rw [lim_nat]; exact h2.trim m hl, h3⟩
end Go.Proofs.Ytnkjfandknndkaa
