/-
  limb.Cmp: below, the same, or above.
-/
import Derived.Test.YtnkjfandknndkaaBase
namespace Go.Proofs.Ytnkjfandknndkaa
open Go.RowKit

/-- -1, 0 or 1, as a is below b, the same, or above. -/
def cmpI (a b : Int) : Int := if a < b then -1 else if a = b then 0 else 1

theorem pv_alike {xs ys : List Int} {m : Nat} (h : ∀ j : Nat, m ≤ j → lim xs j = lim ys j) (n : Nat) (hn : m ≤ n) : pv xs n - pv xs m = pv ys n - pv ys m := by
  induction n with
  | zero => obtain rfl : m = 0 := by omega
            rfl
  | succ n ih =>
    by_cases e : m = n + 1
    · rw [e]; omega
    · have := ih (by omega)
      rw [pv, pv, h n (by omega)]
      omega

theorem pv_less {xs ys : List Int} (hx : Limbs xs) (hy : Limbs ys) {m : Nat} (h : ∀ j : Nat, m + 1 ≤ j → lim xs j = lim ys j) (hlt : lim xs m < lim ys m) : val xs < val ys := by
  have h1 := pv_alike h (max (max xs.length ys.length) (m + 1)) (by omega)
  rw [pv_val xs _ (by omega), pv_val ys _ (by omega), pv, pv] at h1
  have b1 := pv_bd hx m
  have b2 := pv_bd hy m
  have h2 : lim xs m + 1 ≤ lim ys m := hlt
  have h3 := Int.mul_le_mul_of_nonneg_right h2 (Int.le_of_lt (pw_pos m))
  rw [Int.add_mul, Int.one_mul] at h3
  omega

theorem val_alike {xs ys : List Int} (h : ∀ j : Nat, lim xs j = lim ys j) : val xs = val ys := by
  have h1 := pv_alike (m := 0) (fun j _ => h j) (max xs.length ys.length) (Nat.zero_le _)
  rw [pv_val xs _ (by omega), pv_val ys _ (by omega)] at h1
  simp [pv] at h1
  exact h1

set_option maxHeartbeats 400000 in
theorem cmp_loop (ao bo : Option Addr) (na ca nb cb : Nat) (xs ys : List Int) (w : World) (ha : RowAt w ao na ca xs) (hb : RowAt w bo nb cb ys) (hna : na ≤ 900000) (hnb : nb ≤ 900000) :
    Calls Try.prog 48 #[.slice ao na ca, .slice bo nb cb] w fun e w' => e = .returned (.int .i64 (cmpI (val xs) (val ys))) ∧ w = w' := by
  have HA : Hid (RowAt w ao na ca xs) := ha
  have HB : Hid (RowAt w bo nb cb ys) := hb
  clear ha hb
  go_enter Try.func48, Try.ntmps48
  go_wp2
  all_goals
    go_loop [5, 6, 7] (fun i _ _ => ∃ k : Nat, k ≤ max na nb ∧ i = .int .i64 ((k : Int) - 1) ∧ ∀ j : Nat, k ≤ j → lim xs j = lim ys j) (fun i _ _ => (intOf i + 1).toNat)
    case atStart =>
      refine ⟨max na nb, Nat.le_refl _, by go_num, fun j hj => ?_⟩
      rw [lim_past _ _ (by have := HA.out.len; omega), lim_past _ _ (by have := HB.out.len; omega)]
    case round =>
      obtain ⟨k, hk, rfl, hz⟩ := hrel
      have HZ : Hid (∀ j : Nat, k ≤ j → lim xs j = lim ys j) := hz
      clear hz
      by_cases hk0 : k = 0
      · subst hk0
        go_wp2_with fail
        go_ret
        exact ⟨ret_int (by rw [cmpI, val_alike (fun j => HZ.out j (Nat.zero_le _)), if_neg (by omega), if_pos rfl]), rfl⟩
      · obtain ⟨m, rfl⟩ := Nat.exists_eq_succ_of_ne_zero hk0
        have hm : ((m.succ : Nat) : Int) - 1 = (m : Int) := by omega
        rw [hm]
        clear hm
        have hm2 : m + 1 ≤ max na nb := hk
        go_wp2_with fail
        refine (at_any _ _ _ xs _ _ HA.out (by omega) (by omega)).mono ?_
        rintro e w1 ⟨rfl, hw⟩
        subst hw
        go_wp2_with fail
        refine (at_any _ _ _ ys _ _ HB.out (by omega) (by omega)).mono ?_
        rintro e w1 ⟨rfl, hw⟩
        subst hw
        have LX : Hid (Limbs xs) := HA.out.limbs
        have LY : Hid (Limbs ys) := HB.out.limbs
        obtain ⟨x, hx⟩ : ∃ x, x = lim xs m := ⟨_, rfl⟩
        obtain ⟨y, hy⟩ : ∃ y, y = lim ys m := ⟨_, rfl⟩
        rw [← hx, ← hy]
        have HX : Hid (x = lim xs m) := hx
        have HY : Hid (y = lim ys m) := hy
        clear hx hy HA HB
        rcases Int.lt_trichotomy x y with hlt | heq | hgt
        · go_wp2_with fail
          go_ret
          exact ⟨ret_int (by rw [cmpI, if_pos (pv_less LX.out LY.out HZ.out (by rw [← HX.out, ← HY.out]; exact hlt))]), rfl⟩
        · have h1 : ¬ x < y := by omega
          have h2 : ¬ y < x := by omega
          have HE : Hid (x = y) := heq
          clear heq
          go_wp2_with fail
          go_round
          case rel =>
            refine ⟨m, by omega, by go_num, fun j hj => ?_⟩
            by_cases e : j = m
            · rw [e, ← HX.out, ← HY.out]; exact HE.out
            · exact HZ.out j (by show m + 1 ≤ j; omega)
          case measure => simp [intOf]
        · have h1 : ¬ x < y := by omega
          go_wp2_with fail
          go_ret
          have hv := pv_less LY.out LX.out (fun j hj => (HZ.out j hj).symm) (by rw [← HX.out, ← HY.out]; exact hgt)
          exact ⟨ret_int (by rw [cmpI, if_neg (by omega), if_neg (by omega)]), rfl⟩

theorem cmp_lt (ao bo : Option Addr) (na ca nb cb : Nat) (xs ys : List Int) (w : World) (ha : RowAt w ao na ca xs) (hb : RowAt w bo nb cb ys) (hna : na ≤ 900000) (hnb : nb ≤ 900000) (h : val xs < val ys) :
    Calls Try.prog 48 #[.slice ao na ca, .slice bo nb cb] w fun e w' => e = .returned (.int .i64 (-1)) ∧ Below w.heap.size w w' :=
  (cmp_loop ao bo na ca nb cb xs ys w ha hb hna hnb).mono fun _ _ hh => ⟨hh.1.trans (ret_int (by rw [cmpI, if_pos h])), hh.2 ▸ Below.refl _ _⟩
theorem cmp_eq (ao bo : Option Addr) (na ca nb cb : Nat) (xs ys : List Int) (w : World) (ha : RowAt w ao na ca xs) (hb : RowAt w bo nb cb ys) (hna : na ≤ 900000) (hnb : nb ≤ 900000) (h : val xs = val ys) :
    Calls Try.prog 48 #[.slice ao na ca, .slice bo nb cb] w fun e w' => e = .returned (.int .i64 0) ∧ Below w.heap.size w w' :=
  (cmp_loop ao bo na ca nb cb xs ys w ha hb hna hnb).mono fun _ _ hh => ⟨hh.1.trans (ret_int (by rw [cmpI, if_neg (by omega), if_pos h])), hh.2 ▸ Below.refl _ _⟩
theorem cmp_gt (ao bo : Option Addr) (na ca nb cb : Nat) (xs ys : List Int) (w : World) (ha : RowAt w ao na ca xs) (hb : RowAt w bo nb cb ys) (hna : na ≤ 900000) (hnb : nb ≤ 900000) (h : val ys < val xs) :
    Calls Try.prog 48 #[.slice ao na ca, .slice bo nb cb] w fun e w' => e = .returned (.int .i64 1) ∧ Below w.heap.size w w' :=
  (cmp_loop ao bo na ca nb cb xs ys w ha hb hna hnb).mono fun _ _ hh => ⟨hh.1.trans (ret_int (by rw [cmpI, if_neg (by omega), if_neg (by omega)])), hh.2 ▸ Below.refl _ _⟩
end Go.Proofs.Ytnkjfandknndkaa
