/-
  The reader's natural.
-/
import Derived.Test.YtnedghhcidohnaaGreatJL1
import Derived.Test.YtnedghhcidohnaaGreatJH1
namespace Go.Proofs.YtnedghhcidohnaaGreat
open Go.RowKit

/-- Limb number i of bytes, the lowest one last. -/
def limbAt (t : List UInt8) (i : Nat) : Int := (joinL ((t.take (t.length - 8 * i)).drop (t.length - 8 * i - 8)) : Nat)
def limbsL (t : List UInt8) (n : Nat) : List Int := (List.range n).map (limbAt t)

theorem limbAt_bd (t : List UInt8) (i : Nat) : 0 ≤ limbAt t i ∧ limbAt t i < BB := by
  unfold limbAt
  have h1 := joinL_lt ((t.take (t.length - 8 * i)).drop (t.length - 8 * i - 8))
  have h2 : 256 ^ ((t.take (t.length - 8 * i)).drop (t.length - 8 * i - 8)).length ≤ 256 ^ 8 := Nat.pow_le_pow_right (by decide) (by simp; omega)
  have h3 : (256 : Nat) ^ 8 = 18446744073709551616 := by decide
  unfold BB
  omega

theorem limbsL_length (t : List UInt8) (n : Nat) : (limbsL t n).length = n := by simp [limbsL]
theorem limbsL_getD (t : List UInt8) (n j : Nat) (h : j < n) : (limbsL t n).getD j 0 = limbAt t j := by simp [limbsL, h]
theorem limbsL_limbs (t : List UInt8) (n : Nat) : Limbs (limbsL t n) := by
  intro x hx
  simp only [limbsL, List.mem_map] at hx
  obtain ⟨i, _, rfl⟩ := hx
  exact limbAt_bd t i

theorem takeI_ok (R : Nat) (s : List UInt8) (c : Nat) (x : Int) (hx : x = (c : Int)) (w : World) (h : Left w R (str s)) (hc : c ≤ s.length) (hs : s.length ≤ 1000000) :
    Calls Tryz.prog 104 #[.pointer (some ⟨R, 0, none⟩), .int .u64 x] w fun e w' => e = .returned (.string (str (s.take c))) ∧ Left w' R (str (s.drop c)) ∧ w.grownBy w' (some R) := by
  subst hx
  exact takeS_ok R s c w h hc hs

theorem joinedI (t : List UInt8) (T U : ByteArray) (a e k : Nat) (hT : T = str t) (hU : U = T.extract a e) (ha : a = t.length - 8 * k - 8) (he : e = t.length - 8 * k) (w : World) :
    Calls Tryz.prog 107 #[.string U] w fun r w' => r = .returned (.int .u64 (limbAt t k)) ∧ Below w.heap.size w w' := by
  subst hU hT ha he
  rw [ext_str]
  exact joined_any _ w (by simp; omega)

set_option maxRecDepth 100000 in
set_option maxHeartbeats 2000000 in
/-- From where the count is known to be one that may be, and there are bytes enough. -/
theorem natural_row (R : Nat) (s : List UInt8) (n : Nat) (r : List UInt8) (w : World) (h : Left w R (str s)) (hnum : numL s = .ok (n, r)) (hs : s.length ≤ 800000) (h8 : n ≤ 8) (hl : 8 * n ≤ r.length) (b : Bool) (hb : b = true ↔ May (limbsL (r.take (8 * n)) n)) :
    Calls Tryz.prog 109 #[.pointer (some ⟨R, 0, none⟩)] w fun e w' => w.grownBy w' (some R) ∧ if b then ∃ ao, e = .returned (.slice ao n n) ∧ RowAt w' ao n n (limbsL (r.take (8 * n)) n) ∧ Fresh w.heap.size ao ∧ Left w' R (str (r.drop (8 * n))) else e = pan 62 := by
  have H0 : Hid (Left w R (str s) ∧ numL s = .ok (n, r) ∧ s.length ≤ 800000 ∧ 8 * n ≤ r.length ∧ r.length ≤ s.length ∧ (b = true ↔ May (limbsL (r.take (8 * n)) n))) := ⟨h, hnum, hs, hl, (numL_rest hnum).1, hb⟩
  have hmk := run_make_row' (P := Tryz.prog) 43 56 (.int .u64 0) 8 Tryz.underlying43 Tryz.info56 rfl .u64 .u64 n (by omega) (by omega)
  have h8' : (n : Int) ≤ 8 := by omega
  clear h hnum hs hl hb
  go_enter Tryz.func109, Tryz.ntmps109
  go_wp2_with fail
  refine (number_ok R s n r _ H0.out.1 H0.out.2.1 H0.out.2.2.1).mono ?_
  rintro e w1 ⟨rfl, h1, h2⟩
  have H1 : Hid (Left w1 R (str r) ∧ w.grownBy w1 (some R)) := ⟨h1, h2⟩
  clear h1 h2
  go_wp2_with fail
  refine (formed_yes _).mono ?_
  rintro e w2 ⟨rfl, rfl⟩
  go_wp2_with fail
  refine (takeI_ok R r (8 * n) _ (by omega) _ H1.out.1 H0.out.2.2.2.1 (by have := H0.out.2.2; omega)).mono ?_
  rintro e w3 ⟨rfl, h1, h2⟩
  obtain ⟨t, ht⟩ : ∃ t, t = r.take (8 * n) := ⟨_, rfl⟩
  obtain ⟨T, hT⟩ : ∃ T, T = str t := ⟨_, rfl⟩
  rw [← ht, ← hT]
  have htl : t.length = 8 * n := by rw [ht]; have := H0.out.2.2.2.1; simp; omega
  have hTs : T.size = 8 * n := by rw [hT, str_size, htl]
  have H3 : Hid (Left w3 R (str (r.drop (8 * n))) ∧ w.grownBy w3 (some R) ∧ t = r.take (8 * n) ∧ T = str t ∧ t.length = 8 * n) := ⟨h1, grown2 H1.out.2 h2, ht, hT, htl⟩
  clear h1 h2 ht hT htl
  go_wp2_with fail
  clear hmk
  go_loopw [21, 6, 7] (fun i _ _ wr => ∃ k : Nat, k ≤ n ∧ i = .int .i64 k ∧ wr.rowIs w3.heap.size 56 n (fun j => .int .u64 (if j < k then limbAt t j else 0)) ∧ Below w3.heap.size w3 wr)
    (fun i _ _ _ => n - (intOf i).toNat)
  case atStart =>
    refine ⟨0, Nat.zero_le _, rfl, ?_, (Below.refl _ _).alloc (Nat.le_refl _) _⟩
    exact (World.rowIs_made w3 _ n 56).congr (fun i hi => by simp)
  case round =>
    obtain ⟨k, hk, rfl, hrow, hbel⟩ := hrel
    by_cases hlt : k < n
    · have g1 : (k : Int) < (n : Int) := by omega
      have g2 : (0 : Int) ≤ (k : Int) := by omega
      obtain ⟨en, hen⟩ : ∃ en : Nat, en = 8 * n - 8 * k := ⟨_, rfl⟩
      have g3 : 8 * (n : Int) - 8 * (k : Int) = (en : Int) := by omega
      have g4 : (en : Int) - 8 = ((en - 8 : Nat) : Int) := by omega
      have g5 : en - 8 ≤ en := by omega
      have g6 : en ≤ T.size := by omega
      have HE : Hid (en = 8 * n - 8 * k) := hen
      have HR : Hid (wr.rowIs w3.heap.size 56 n (fun j => .int .u64 (if j < k then limbAt t j else 0)) ∧ Below w3.heap.size w3 wr) := ⟨hrow, hbel⟩
      clear hrow hbel hen
      go_wp2_with fail
      refine (joinedI t T _ (en - 8) en k H3.out.2.2.2.1 rfl (by rw [H3.out.2.2.2.2, HE.out]) (by rw [H3.out.2.2.2.2, HE.out]) _).mono ?_
      rintro e w5 ⟨rfl, hb5⟩
      have hrow1 := HR.out.1.of_block (hb5.block _ HR.out.1.lt)
      have hcell := hrow1.cell hlt
      have hfree := hrow1.frozen k
      have HR1 : Hid (w5.rowIs w3.heap.size 56 n (fun j => .int .u64 (if j < k then limbAt t j else 0)) ∧ Below w3.heap.size w3 w5) := ⟨hrow1, chain HR.out.2 hb5⟩
      clear hrow1 hb5
      go_wp2
      go_roundw
      case rel =>
        refine ⟨k + 1, by omega, by go_num, ?_, HR1.out.2.setCell (by show w3.heap.size ≤ w3.heap.size; exact Nat.le_refl _) _⟩
        refine (World.rowIs.set HR1.out.1 k _).congr fun j hj => ?_
        by_cases e : j = k
        · subst e; simp
        · rw [if_neg e]
          by_cases e2 : j < k
          · rw [if_pos e2, if_pos (by omega)]
          · rw [if_neg e2, if_neg (by omega)]
      case measure => simp [intOf]; omega
    · obtain rfl : k = n := by omega
      have hR : RowAt wr (some ⟨w3.heap.size, 0, none⟩) k k (limbsL t k) := ⟨limbsL_length t k, limbsL_limbs t k, Nat.le_refl _, by unfold maxLen; omega, by simp, fun _ => ⟨_, _, rfl, hrow.lt, fun j hj => by
        rw [limbsL_length] at hj
        rw [Nat.zero_add, limbsL_getD t k j hj, hrow.cell hj, if_pos hj]⟩⟩
      have hg : w.grownBy wr (some R) := grown2 H3.out.2.1 (grown_below hbel _)
      have HN : Hid (RowAt wr (some ⟨w3.heap.size, 0, none⟩) k k (limbsL t k) ∧ w.grownBy wr (some R) ∧ Left wr R (str (r.drop (8 * k))) ∧ Fresh w.heap.size (some ⟨w3.heap.size, 0, none⟩)) := ⟨hR, hg, H3.out.1.below hbel, (Fresh.at _ _).mono H3.out.2.1.size⟩
      have HM : Hid (b = true ↔ May (limbsL t k)) := by rw [H3.out.2.2.1]; exact H0.out.2.2.2.2.2
      clear hR hg hrow hbel
      go_wp2_with fail
      refine (may_val _ _ _ _ _ HN.out.1 b HM.out).mono ?_
      rintro e w5 ⟨rfl, rfl⟩
      cases b with
      | true =>
        go_wp2_with fail
        refine (formed_yes _).mono ?_
        rintro e w6 ⟨rfl, rfl⟩
        go_wp2_with fail
        go_ret
        refine ⟨HN.out.2.1, ?_⟩
        rw [← H3.out.2.2.1]
        exact ⟨_, rfl, HN.out.1, HN.out.2.2.2, HN.out.2.2.1⟩
      | false =>
        go_wp2_with fail
        refine (formed_no _).mono ?_
        rintro e w6 ⟨rfl, rfl⟩
        exact ⟨rfl, HN.out.2.1, rfl⟩

theorem takeI_err (R : Nat) (s : List UInt8) (c : Nat) (x : Int) (hx : x = (c : Int)) (w : World) (h : Left w R (str s)) (hc : s.length < c) (hs : s.length ≤ 1000000) (hcb : (c : Int) < BB) :
    Calls Tryz.prog 104 #[.pointer (some ⟨R, 0, none⟩), .int .u64 x] w fun e w' => e = pan 60 ∧ w = w' := by
  subst hx
  exact takeS_err R s c w h hc hs hcb

/-- Whether a natural may be. -/
def mayB (xs : List Int) : Bool := decide (xs.length ≤ 8) && (decide (xs.length = 0) || decide (lim xs (xs.length - 1 : Nat) ≠ 0))
theorem mayB_iff (xs : List Int) : mayB xs = true ↔ May xs := by
  unfold mayB May
  cases h : xs.length with
  | zero =>
    obtain rfl := List.length_eq_zero_iff.1 h
    simp
    exact May.nil.2
  | succ m =>
    rw [trim_iff m h]
    simp

/-- The natural that s begins by, and what is behind; or the error. -/
def natL (s : List UInt8) : Except Int (List Int × List UInt8) :=
  match numL s with
  | .error e => .error e
  | .ok (n, r) => if 8 < n then .error 62 else if r.length < 8 * n then .error 60 else if mayB (limbsL (r.take (8 * n)) n) then .ok (limbsL (r.take (8 * n)) n, r.drop (8 * n)) else .error 62

theorem natural_ok (R : Nat) (s : List UInt8) (xs : List Int) (rest : List UInt8) (w : World) (h : Left w R (str s)) (hn : natL s = .ok (xs, rest)) (hs : s.length ≤ 800000) :
    Calls Tryz.prog 109 #[.pointer (some ⟨R, 0, none⟩)] w fun e w' => ∃ ao n, e = .returned (.slice ao n n) ∧ RowAt w' ao n n xs ∧ Fresh w.heap.size ao ∧ Left w' R (str rest) ∧ w.grownBy w' (some R) := by
  unfold natL at hn
  split at hn
  · cases hn
  rename_i n r hnum
  split at hn
  · cases hn
  rename_i h8
  split at hn
  · cases hn
  rename_i hl
  split at hn
  · rename_i hm
    injection hn with hn
    obtain ⟨rfl, rfl⟩ := Prod.mk.inj hn
    refine (natural_row R s n r w h hnum hs (by omega) (by omega) true ⟨fun _ => (mayB_iff _).1 hm, fun _ => rfl⟩).mono ?_
    rintro e w' ⟨h1, ao, h2, h3, h4, h5⟩
    exact ⟨ao, n, h2, h3, h4, h5, h1⟩
  · cases hn

set_option maxRecDepth 100000 in
set_option maxHeartbeats 2000000 in
theorem natural_err (R : Nat) (s : List UInt8) (k : Int) (w : World) (h : Left w R (str s)) (hn : natL s = .error k) (hs : s.length ≤ 800000) :
    Calls Tryz.prog 109 #[.pointer (some ⟨R, 0, none⟩)] w fun e w' => e = pan k ∧ w.grownBy w' (some R) := by
  unfold natL at hn
  split at hn
  · cases hn
    rename_i hnum
    have H0 : Hid (Left w R (str s) ∧ numL s = .error k ∧ s.length ≤ 800000) := ⟨h, hnum, hs⟩
    clear h hnum hs
    go_enter Tryz.func109, Tryz.ntmps109
    go_wp2_with fail
    refine (number_err R s k _ H0.out.1 H0.out.2.1 H0.out.2.2).mono ?_
    rintro e w1 ⟨rfl, h1⟩
    exact ⟨rfl, rfl, h1⟩
  rename_i n r hnum
  have h64 := (numL_rest hnum).2
  have hrl := (numL_rest hnum).1
  split at hn
  · cases hn
    rename_i h8
    have h8a : decide ((n : Int) ≤ 8) = false := decide_eq_false (by omega)
    have h8b : decide (n ≤ 8) = false := decide_eq_false (by omega)
    have H0 : Hid (Left w R (str s) ∧ numL s = .ok (n, r) ∧ s.length ≤ 800000) := ⟨h, hnum, hs⟩
    clear h hnum hs h8 h64 hrl
    go_enter Tryz.func109, Tryz.ntmps109
    go_wp2_with fail
    refine (number_ok R s n r _ H0.out.1 H0.out.2.1 H0.out.2.2).mono ?_
    rintro e w1 ⟨rfl, h1, h2⟩
    have H1 : Hid (w.grownBy w1 (some R)) := h2
    clear h1 h2
    go_wp2_with fail
    refine (formed_no _).mono ?_
    rintro e w2 ⟨rfl, rfl⟩
    exact ⟨rfl, rfl, H1.out⟩
  rename_i h8
  split at hn
  · cases hn
    rename_i hl
    have h8a : (n : Int) ≤ 8 := by omega
    have H0 : Hid (Left w R (str s) ∧ numL s = .ok (n, r) ∧ s.length ≤ 800000 ∧ r.length < 8 * n ∧ r.length ≤ s.length) := ⟨h, hnum, hs, hl, hrl⟩
    clear h hnum hs hl hrl h8 h64
    go_enter Tryz.func109, Tryz.ntmps109
    go_wp2_with fail
    refine (number_ok R s n r _ H0.out.1 H0.out.2.1 H0.out.2.2.1).mono ?_
    rintro e w1 ⟨rfl, h1, h2⟩
    have H1 : Hid (Left w1 R (str r) ∧ w.grownBy w1 (some R)) := ⟨h1, h2⟩
    clear h1 h2
    go_wp2_with fail
    refine (formed_yes _).mono ?_
    rintro e w2 ⟨rfl, rfl⟩
    go_wp2_with fail
    refine (takeI_err R r (8 * n) _ (by omega) _ H1.out.1 H0.out.2.2.2.1 (by have := H0.out.2.2; omega) (by unfold BB; omega)).mono ?_
    rintro e w3 ⟨rfl, rfl⟩
    exact ⟨rfl, rfl, H1.out.2⟩
  rename_i hl
  split at hn
  · cases hn
  · rename_i hm
    cases hn
    refine (natural_row R s n r w h hnum hs (by omega) (by omega) false ⟨(fun e => by cases e), fun e => absurd ((mayB_iff _).2 e) hm⟩).mono ?_
    rintro e w' ⟨h1, h2⟩
    exact ⟨h2, h1⟩
end Go.Proofs.YtnedghhcidohnaaGreat
