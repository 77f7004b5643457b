/-
  The reference's Cmp.
-/
import Derived.Test.YtnkjfandknndkaaWhole
import Derived.Test.YtnkjfandknndkaaCmp
import Derived.Test.YtnkjfandknndkaaBits
import Derived.Test.YtnkjfandknndkaaTrim
namespace Go.Proofs.Ytnkjfandknndkaa
open Go.RowKit

set_option maxHeartbeats 400000 in
theorem rcmp_loop (ao bo : Option Addr) (na ca nb cb : Nat) (xs ys : List Int) (w : World) (ha : RowAt w ao na ca xs) (hb : RowAt w bo nb cb ys) (hna : na ≤ 900000) (hnb : nb ≤ 900000) :
    Calls Try.prog 60 #[.slice ao na ca, .slice bo nb cb] w fun e w' => e = .returned (.int .i64 (cmpI (val xs) (val ys))) ∧ w = w' := by
  have HA : Hid (RowAt w ao na ca xs) := ha
  have HB : Hid (RowAt w bo nb cb ys) := hb
  clear ha hb
  go_enter Try.func60, Try.ntmps60
  go_wp2
  all_goals
    go_loop [5] (fun i => ∃ k : Nat, k ≤ max na nb ∧ i = .int .i64 ((k : Int) - 1) ∧ ∀ j : Nat, k ≤ j → lim xs j = lim ys j) (fun i => (intOf i + 1).toNat)
    case atStart =>
      refine ⟨max na nb, Nat.le_refl _, by go_num, fun j hj => ?_⟩
      rw [lim_past _ _ (by have := HA.out.len; omega), lim_past _ _ (by have := HB.out.len; omega)]
    case round =>
      obtain ⟨k, hk, rfl, hz⟩ := hrel
      have HZ : Hid (∀ j : Nat, k ≤ j → lim xs j = lim ys j) := hz
      clear hz
      by_cases hk0 : k = 0
      · subst hk0
        go_wp2_with fail
        go_ret
        exact ⟨ret_int (by rw [cmpI, val_alike (fun j => HZ.out j (Nat.zero_le _)), if_neg (by omega), if_pos rfl]), rfl⟩
      · obtain ⟨m, rfl⟩ := Nat.exists_eq_succ_of_ne_zero hk0
        have hm : ((m.succ : Nat) : Int) - 1 = (m : Int) := by omega
        rw [hm]
        clear hm
        have hm2 : m + 1 ≤ max na nb := hk
        have LX : Hid (Limbs xs) := HA.out.limbs
        have LY : Hid (Limbs ys) := HB.out.limbs
        obtain ⟨x, hx⟩ : ∃ x, x = lim xs m := ⟨_, rfl⟩
        obtain ⟨y, hy⟩ : ∃ y, y = lim ys m := ⟨_, rfl⟩
        have HX : Hid (x = lim xs m) := hx
        have HY : Hid (y = lim ys m) := hy
        clear hx hy
        rcases Int.lt_trichotomy x y with hlt | heq | hgt
        · go_wp2_with fail
          refine (rat_any _ _ _ xs m _ HA.out).mono ?_
          rintro e w1 ⟨rfl, hw⟩
          rw [hw, ← HX.out]
          clear hw
          go_wp2_with fail
          refine (rat_any _ _ _ ys m _ HB.out).mono ?_
          rintro e w1 ⟨rfl, hw⟩
          rw [hw, ← HY.out]
          clear hw
          go_wp2_with fail
          go_ret
          exact ⟨ret_int (by rw [cmpI, if_pos (pv_less LX.out LY.out HZ.out (by rw [← HX.out, ← HY.out]; exact hlt))]), rfl⟩
        · have h1 : ¬ x < y := by omega
          have h2 : ¬ y < x := by omega
          have HE : Hid (x = y) := heq
          clear heq
          go_wp2_with fail
          refine (rat_any _ _ _ xs m _ HA.out).mono ?_
          rintro e w1 ⟨rfl, hw⟩
          rw [hw, ← HX.out]
          clear hw
          go_wp2_with fail
          refine (rat_any _ _ _ ys m _ HB.out).mono ?_
          rintro e w1 ⟨rfl, hw⟩
          rw [hw, ← HY.out]
          clear hw
          go_wp2_with fail
          refine (rat_any _ _ _ xs m _ HA.out).mono ?_
          rintro e w1 ⟨rfl, hw⟩
          rw [hw, ← HX.out]
          clear hw
          go_wp2_with fail
          refine (rat_any _ _ _ ys m _ HB.out).mono ?_
          rintro e w1 ⟨rfl, hw⟩
          rw [hw, ← HY.out]
          clear hw
          go_wp2_with fail
          go_round
          case rel =>
            refine ⟨m, by omega, by go_num, fun j hj => ?_⟩
            by_cases e : j = m
            · rw [e, ← HX.out, ← HY.out]; exact HE.out
            · exact HZ.out j (by show m + 1 ≤ j; omega)
          case measure => simp [intOf]
        · have h1 : ¬ x < y := by omega
          go_wp2_with fail
          refine (rat_any _ _ _ xs m _ HA.out).mono ?_
          rintro e w1 ⟨rfl, hw⟩
          rw [hw, ← HX.out]
          clear hw
          go_wp2_with fail
          refine (rat_any _ _ _ ys m _ HB.out).mono ?_
          rintro e w1 ⟨rfl, hw⟩
          rw [hw, ← HY.out]
          clear hw
          go_wp2_with fail
          refine (rat_any _ _ _ xs m _ HA.out).mono ?_
          rintro e w1 ⟨rfl, hw⟩
          rw [hw, ← HX.out]
          clear hw
          go_wp2_with fail
          refine (rat_any _ _ _ ys m _ HB.out).mono ?_
          rintro e w1 ⟨rfl, hw⟩
          rw [hw, ← HY.out]
          clear hw
          go_wp2_with fail
          go_ret
          have hv := pv_less LY.out LX.out (fun j hj => (HZ.out j hj).symm) (by rw [← HX.out, ← HY.out]; exact hgt)
          exact ⟨ret_int (by rw [cmpI, if_neg (by omega), if_neg (by omega)]), rfl⟩

theorem rcmp_val (ao bo : Option Addr) (na ca nb cb : Nat) (xs ys : List Int) (w : World) (ha : RowAt w ao na ca xs) (hb : RowAt w bo nb cb ys) (hna : na ≤ 900000) (hnb : nb ≤ 900000) (c : Int) (hc : c = cmpI (val xs) (val ys)) :
    Calls Try.prog 60 #[.slice ao na ca, .slice bo nb cb] w fun e w' => e = .returned (.int .i64 c) ∧ Below w.heap.size w w' :=
  (rcmp_loop ao bo na ca nb cb xs ys w ha hb hna hnb).mono fun _ _ hh => ⟨hh.1.trans (ret_int hc.symm), hh.2 ▸ Below.refl _ _⟩
/-- The reference's Trim's result: nothing, or a row whose last limb is not 0. -/
theorem rtrim_shape (ao : Option Addr) (na ca : Nat) (xs : List Int) (w : World) (ha : RowAt w ao na ca xs) (hna : na ≤ 900000) :
    Calls Try.prog 28 #[.slice ao na ca] w fun e w' => Below w.heap.size w w' ∧ ((∃ ro cap, e = .returned (.slice ro 0 cap) ∧ RowAt w' ro 0 cap [] ∧ Num [] (val xs)) ∨
      ∃ b off m cap r, e = .returned (.slice (some ⟨b, off, none⟩) (m + 1) cap) ∧ RowAt w' (some ⟨b, off, none⟩) (m + 1) cap r ∧ Num r (val xs) ∧ lim r m ≠ 0 ∧ m + 1 ≤ na) := by
  refine (rtrim_any ao na ca xs w ha hna).mono ?_
  rintro e w' ⟨ro, m, cap, r, rfl, h1, h2, h3, h4⟩
  refine ⟨h4, ?_⟩
  have hl := h1.len
  cases m with
  | zero =>
    obtain rfl := List.length_eq_zero_iff.1 hl
    exact .inl ⟨ro, cap, rfl, h1, h2⟩
  | succ m =>
    obtain ⟨b, off, rfl, _, _⟩ := h1.cells (by intro e; rw [e] at hl; simp at hl)
    exact .inr ⟨b, off, m, cap, r, rfl, h1, h2, by rw [lim_nat]; exact h2.trim m hl, h3⟩

end Go.Proofs.Ytnkjfandknndkaa
