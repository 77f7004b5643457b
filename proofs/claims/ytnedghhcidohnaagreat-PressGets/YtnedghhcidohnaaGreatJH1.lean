/-
  Joined: RCmp · NatBase · RSub · RMul · RDivMath · RNat.
-/
import Derived.Test.YtnedghhcidohnaaGreatJB1
import Derived.Test.YtnedghhcidohnaaGreatJA1
import Derived.Test.YtnedghhcidohnaaGreatJE1
import Derived.Test.YtnedghhcidohnaaGreatJG1
import Derived.Test.YtnedghhcidohnaaGreatJC1

/-! The reference's Cmp. -/
namespace Go.Proofs.YtnedghhcidohnaaGreat
open Go.RowKit

set_option maxHeartbeats 400000 in
theorem rcmp_loop (ao bo : Option Addr) (na ca nb cb : Nat) (xs ys : List Int) (w : World) (ha : RowAt w ao na ca xs) (hb : RowAt w bo nb cb ys) (hna : na ≤ 900000) (hnb : nb ≤ 900000) :
    Calls Tryz.prog 113 #[.slice ao na ca, .slice bo nb cb] w fun e w' => e = .returned (.int .i64 (cmpI (val xs) (val ys))) ∧ w = w' := by
  have HA : Hid (RowAt w ao na ca xs) := ha
  have HB : Hid (RowAt w bo nb cb ys) := hb
  clear ha hb
  go_enter Tryz.func113, Tryz.ntmps113
  go_wp2
  all_goals
    go_loop [5] (fun i => ∃ k : Nat, k ≤ max na nb ∧ i = .int .i64 ((k : Int) - 1) ∧ ∀ j : Nat, k ≤ j → lim xs j = lim ys j) (fun i => (intOf i + 1).toNat)
    case atStart =>
      refine ⟨max na nb, Nat.le_refl _, by go_num, fun j hj => ?_⟩
      rw [lim_past _ _ (by have := HA.out.len; omega), lim_past _ _ (by have := HB.out.len; omega)]
    case round =>
      obtain ⟨k, hk, rfl, hz⟩ := hrel
      have HZ : Hid (∀ j : Nat, k ≤ j → lim xs j = lim ys j) := hz
      clear hz
      by_cases hk0 : k = 0
      · subst hk0
        go_wp2_with fail
        go_ret
        exact ⟨ret_int (by rw [cmpI, val_alike (fun j => HZ.out j (Nat.zero_le _)), if_neg (by omega), if_pos rfl]), rfl⟩
      · obtain ⟨m, rfl⟩ := Nat.exists_eq_succ_of_ne_zero hk0
        have hm : ((m.succ : Nat) : Int) - 1 = (m : Int) := by omega
        rw [hm]
        clear hm
        have hm2 : m + 1 ≤ max na nb := hk
        have LX : Hid (Limbs xs) := HA.out.limbs
        have LY : Hid (Limbs ys) := HB.out.limbs
        obtain ⟨x, hx⟩ : ∃ x, x = lim xs m := ⟨_, rfl⟩
        obtain ⟨y, hy⟩ : ∃ y, y = lim ys m := ⟨_, rfl⟩
        have HX : Hid (x = lim xs m) := hx
        have HY : Hid (y = lim ys m) := hy
        clear hx hy
        rcases Int.lt_trichotomy x y with hlt | heq | hgt
        · go_wp2_with fail
          refine (rat_any _ _ _ xs m _ HA.out).mono ?_
          rintro e w1 ⟨rfl, hw⟩
          rw [hw, ← HX.out]
          clear hw
          go_wp2_with fail
          refine (rat_any _ _ _ ys m _ HB.out).mono ?_
          rintro e w1 ⟨rfl, hw⟩
          rw [hw, ← HY.out]
          clear hw
          go_wp2_with fail
          go_ret
          exact ⟨ret_int (by rw [cmpI, if_pos (pv_less LX.out LY.out HZ.out (by rw [← HX.out, ← HY.out]; exact hlt))]), rfl⟩
        · have h1 : ¬ x < y := by omega
          have h2 : ¬ y < x := by omega
          have HE : Hid (x = y) := heq
          clear heq
          go_wp2_with fail
          refine (rat_any _ _ _ xs m _ HA.out).mono ?_
          rintro e w1 ⟨rfl, hw⟩
          rw [hw, ← HX.out]
          clear hw
          go_wp2_with fail
          refine (rat_any _ _ _ ys m _ HB.out).mono ?_
          rintro e w1 ⟨rfl, hw⟩
          rw [hw, ← HY.out]
          clear hw
          go_wp2_with fail
          refine (rat_any _ _ _ xs m _ HA.out).mono ?_
          rintro e w1 ⟨rfl, hw⟩
          rw [hw, ← HX.out]
          clear hw
          go_wp2_with fail
          refine (rat_any _ _ _ ys m _ HB.out).mono ?_
          rintro e w1 ⟨rfl, hw⟩
          rw [hw, ← HY.out]
          clear hw
          go_wp2_with fail
          go_round
          case rel =>
            refine ⟨m, by omega, by go_num, fun j hj => ?_⟩
            by_cases e : j = m
            · rw [e, ← HX.out, ← HY.out]; exact HE.out
            · exact HZ.out j (by show m + 1 ≤ j; omega)
          case measure => simp [intOf]
        · have h1 : ¬ x < y := by omega
          go_wp2_with fail
          refine (rat_any _ _ _ xs m _ HA.out).mono ?_
          rintro e w1 ⟨rfl, hw⟩
          rw [hw, ← HX.out]
          clear hw
          go_wp2_with fail
          refine (rat_any _ _ _ ys m _ HB.out).mono ?_
          rintro e w1 ⟨rfl, hw⟩
          rw [hw, ← HY.out]
          clear hw
          go_wp2_with fail
          refine (rat_any _ _ _ xs m _ HA.out).mono ?_
          rintro e w1 ⟨rfl, hw⟩
          rw [hw, ← HX.out]
          clear hw
          go_wp2_with fail
          refine (rat_any _ _ _ ys m _ HB.out).mono ?_
          rintro e w1 ⟨rfl, hw⟩
          rw [hw, ← HY.out]
          clear hw
          go_wp2_with fail
          go_ret
          have hv := pv_less LY.out LX.out (fun j hj => (HZ.out j hj).symm) (by rw [← HX.out, ← HY.out]; exact hgt)
          exact ⟨ret_int (by rw [cmpI, if_neg (by omega), if_neg (by omega)]), rfl⟩

theorem rcmp_val (ao bo : Option Addr) (na ca nb cb : Nat) (xs ys : List Int) (w : World) (ha : RowAt w ao na ca xs) (hb : RowAt w bo nb cb ys) (hna : na ≤ 900000) (hnb : nb ≤ 900000) (c : Int) (hc : c = cmpI (val xs) (val ys)) :
    Calls Tryz.prog 113 #[.slice ao na ca, .slice bo nb cb] w fun e w' => e = .returned (.int .i64 c) ∧ Below w.heap.size w w' :=
  (rcmp_loop ao bo na ca nb cb xs ys w ha hb hna hnb).mono fun _ _ hh => ⟨hh.1.trans (ret_int hc.symm), hh.2 ▸ Below.refl _ _⟩
/-- The reference's Trim's result: nothing, or a row whose last limb is not 0. -/
theorem rtrim_shape (ao : Option Addr) (na ca : Nat) (xs : List Int) (w : World) (ha : RowAt w ao na ca xs) (hna : na ≤ 900000) :
    Calls Tryz.prog 119 #[.slice ao na ca] w fun e w' => Below w.heap.size w w' ∧ ((∃ ro cap, e = .returned (.slice ro 0 cap) ∧ RowAt w' ro 0 cap [] ∧ Num [] (val xs)) ∨
      ∃ b off m cap r, e = .returned (.slice (some ⟨b, off, none⟩) (m + 1) cap) ∧ RowAt w' (some ⟨b, off, none⟩) (m + 1) cap r ∧ Num r (val xs) ∧ lim r m ≠ 0 ∧ m + 1 ≤ na) := by
  refine (rtrim_any ao na ca xs w ha hna).mono ?_
  rintro e w' ⟨ro, m, cap, r, rfl, h1, h2, h3, h4⟩
  refine ⟨h4, ?_⟩
  have hl := h1.len
  cases m with
  | zero =>
    obtain rfl := List.length_eq_zero_iff.1 hl
    exact .inl ⟨ro, cap, rfl, h1, h2⟩
  | succ m =>
    obtain ⟨b, off, rfl, _, _⟩ := h1.cells (by intro e; rw [e] at hl; simp at hl)
    exact .inr ⟨b, off, m, cap, r, rfl, h1, h2, by rw [lim_nat]; exact h2.trim m hl, h3⟩

end Go.Proofs.YtnedghhcidohnaaGreat

/-! Layer 2's small functions, and the reference's: May, Of, Cmp, Same, held. -/
namespace Go.Proofs.YtnedghhcidohnaaGreat
open Go.RowKit

theorem trim_iff {xs : List Int} (m : Nat) (h : xs.length = m + 1) : Trim xs ↔ lim xs m ≠ 0 := by
  rw [lim_nat]
  constructor
  · exact fun t => t m h
  · intro t n hn
    obtain rfl : n = m := by omega
    exact t

set_option maxHeartbeats 400000 in
/-- nat.May. -/
theorem may_val (ao : Option Addr) (n cap : Nat) (xs : List Int) (w : World) (h : RowAt w ao n cap xs) (b : Bool) (hb : b = true ↔ May xs) :
    Calls Tryz.prog 101 #[.slice ao n cap] w fun e w' => e = .returned (.bool b) ∧ w = w' := by
  have hl : n ≤ maxLen := Nat.le_trans h.fits h.most
  unfold maxLen at hl
  have hlen := h.len
  by_cases h8 : 8 < n
  · have h8' : ¬ (n : Int) ≤ 8 := by omega
    have hbe : b = false := by
      cases b with
      | false => rfl
      | true => have := (hb.1 rfl).1; omega
    have HB : Hid (b = false) := hbe
    clear hb h hlen hbe
    go_enter Tryz.func101, Tryz.ntmps101
    go_wp2
    go_ret
    exact ⟨ret_bool HB.out.symm, rfl⟩
  · cases n with
    | zero =>
      have HB : Hid (b = true) := hb.2 (by rw [List.length_eq_zero_iff.1 hlen]; exact May.nil)
      clear hb h hlen
      go_enter Tryz.func101, Tryz.ntmps101
      go_wp2
      go_ret
      exact ⟨ret_bool HB.out.symm, rfl⟩
    | succ m =>
      obtain ⟨q, off, rfl, hlt, hc⟩ := h.cells (by intro e; rw [e] at hlen; simp at hlen)
      have hck := hc m (by omega)
      rw [← lim_nat] at hck
      have ht := trim_iff m hlen
      obtain ⟨x, hx⟩ : ∃ x, x = lim xs m := ⟨_, rfl⟩
      rw [← hx] at hck ht
      have hbe : b = (x != 0) := by
        cases b with
        | false =>
          have : x = 0 := by
            rcases Decidable.em (x = 0) with e | e
            · exact e
            · exact absurd (hb.2 ⟨by omega, ht.2 e⟩) (by simp)
          simp [this]
        | true => simp [ht.1 (hb.1 rfl).2]
      have HB : Hid (b = (x != 0)) := hbe
      have h8' : ((m + 1 : Nat) : Int) ≤ 8 := by omega
      clear hb h hc ht hx hlen hbe
      go_enter Tryz.func101, Tryz.ntmps101
      go_wp2
      go_ret
      exact ⟨ret_bool HB.out.symm, rfl⟩

set_option maxHeartbeats 400000 in
/-- The reference's May. -/
theorem rmay_val (ao : Option Addr) (n cap : Nat) (xs : List Int) (w : World) (h : RowAt w ao n cap xs) (b : Bool) (hb : b = true ↔ May xs) :
    Calls Tryz.prog 59 #[.slice ao n cap] w fun e w' => e = .returned (.bool b) ∧ w = w' := by
  have hl : n ≤ maxLen := Nat.le_trans h.fits h.most
  unfold maxLen at hl
  have hlen := h.len
  by_cases h8 : 8 < n
  · have h8' : ¬ (n : Int) ≤ 8 := by omega
    have hbe : b = false := by
      cases b with
      | false => rfl
      | true => have := (hb.1 rfl).1; omega
    have HB : Hid (b = false) := hbe
    clear hb h hlen hbe
    go_enter Tryz.func59, Tryz.ntmps59
    go_wp2
    go_ret
    exact ⟨ret_bool HB.out.symm, rfl⟩
  · cases n with
    | zero =>
      have HB : Hid (b = true) := hb.2 (by rw [List.length_eq_zero_iff.1 hlen]; exact May.nil)
      clear hb h hlen
      go_enter Tryz.func59, Tryz.ntmps59
      go_wp2
      go_ret
      exact ⟨ret_bool HB.out.symm, rfl⟩
    | succ m =>
      obtain ⟨q, off, rfl, hlt, hc⟩ := h.cells (by intro e; rw [e] at hlen; simp at hlen)
      have hck := hc m (by omega)
      rw [← lim_nat] at hck
      have ht := trim_iff m hlen
      obtain ⟨x, hx⟩ : ∃ x, x = lim xs m := ⟨_, rfl⟩
      rw [← hx] at hck ht
      have hbe : b = (x != 0) := by
        cases b with
        | false =>
          have : x = 0 := by
            rcases Decidable.em (x = 0) with e | e
            · exact e
            · exact absurd (hb.2 ⟨by omega, ht.2 e⟩) (by simp)
          simp [this]
        | true => simp [ht.1 (hb.1 rfl).2]
      have HB : Hid (b = (x != 0)) := hbe
      have h8' : ((m + 1 : Nat) : Int) ≤ 8 := by omega
      clear hb h hc ht hx hlen hbe
      go_enter Tryz.func59, Tryz.ntmps59
      go_wp2
      go_ret
      exact ⟨ret_bool HB.out.symm, rfl⟩

set_option maxHeartbeats 400000 in
theorem of_any (x : Int) (w : World) (h0 : 0 ≤ x) (h1 : x < BB) :
    Calls Tryz.prog 129 #[.int .u64 x] w fun e w' => ∃ ro m cap r, e = .returned (.slice ro m cap) ∧ RowAt w' ro m cap r ∧ Num r x ∧ m ≤ 1 ∧ Below w.heap.size w w' := by
  have H : Hid (RowAt (w.alloc (Obj.cells #[.int .u64 x] 56)) (some ⟨w.heap.size, 0, none⟩) 1 1 [x]) := RowAt.laid w [x] (by intro y hy; simp at hy; subst hy; exact ⟨h0, h1⟩) (by simp [maxLen])
  go_enter Tryz.func129, Tryz.ntmps129
  go_wp2_with fail
  refine (trim_any _ _ _ [x] _ H.out (by omega)).mono ?_
  rintro e w1 ⟨ro, m, cap, r, rfl, g1, g2, g3, g4⟩
  rw [show val [x] = x by simp [val]] at g2
  have G : Hid (Num r x) := g2
  have G4 : Hid _ := g4
  clear g2 g4
  go_wp2
  go_ret
  exact ⟨ro, m, cap, r, rfl, g1, G.out, g3, chain ((Below.refl _ _).alloc (Nat.le_refl _) _) G4.out⟩

set_option maxHeartbeats 400000 in
theorem rof_any (x : Int) (w : World) (h0 : 0 ≤ x) (h1 : x < BB) :
    Calls Tryz.prog 90 #[.int .u64 x] w fun e w' => ∃ ro m cap r, e = .returned (.slice ro m cap) ∧ RowAt w' ro m cap r ∧ Num r x ∧ m ≤ 1 ∧ Below w.heap.size w w' := by
  have H : Hid (RowAt (w.alloc (Obj.cells #[.int .u64 x] 56)) (some ⟨w.heap.size, 0, none⟩) 1 1 [x]) := RowAt.laid w [x] (by intro y hy; simp at hy; subst hy; exact ⟨h0, h1⟩) (by simp [maxLen])
  go_enter Tryz.func90, Tryz.ntmps90
  go_wp2_with fail
  refine (rtrim_any _ _ _ [x] _ H.out (by omega)).mono ?_
  rintro e w1 ⟨ro, m, cap, r, rfl, g1, g2, g3, g4⟩
  rw [show val [x] = x by simp [val]] at g2
  have G : Hid (Num r x) := g2
  have G4 : Hid _ := g4
  clear g2 g4
  go_wp2
  go_ret
  exact ⟨ro, m, cap, r, rfl, g1, G.out, g3, chain ((Below.refl _ _).alloc (Nat.le_refl _) _) G4.out⟩

set_option maxHeartbeats 400000 in
theorem rnsame_any (ao bo : Option Addr) (na ca nb cb : Nat) (xs ys : List Int) (w : World) (ha : RowAt w ao na ca xs) (hb : RowAt w bo nb cb ys) :
    Calls Tryz.prog 58 #[.slice ao na ca, .slice bo nb cb] w fun e w' => e = .returned (.bool (decide (xs = ys))) ∧ Below w.heap.size w w' := by
  have HA : Hid _ := ha
  have HB : Hid _ := hb
  clear ha hb
  go_enter Tryz.func58, Tryz.ntmps58
  go_wp2_with fail
  refine (same_any _ _ _ _ _ _ xs ys _ HA.out HB.out).mono ?_
  rintro e w1 ⟨rfl, b1⟩
  have B1 : Hid _ := b1
  clear b1
  go_wp2
  go_ret
  exact ⟨rfl, B1.out.below (Below.refl _ _)⟩
theorem rnsame_yes (ao bo : Option Addr) (na ca nb cb : Nat) (xs ys : List Int) (w : World) (ha : RowAt w ao na ca xs) (hb : RowAt w bo nb cb ys) (h : xs = ys) :
    Calls Tryz.prog 58 #[.slice ao na ca, .slice bo nb cb] w fun e w' => e = .returned (.bool true) ∧ Below w.heap.size w w' :=
  (rnsame_any ao bo na ca nb cb xs ys w ha hb).mono fun _ _ hh => ⟨hh.1.trans (ret_bool (by simp [h])), hh.2⟩

theorem ret2 {v : Value} {a b : Int} (h : a = b) : Ending.returned (.tuple #[v, .int .i64 a]) = .returned (.tuple #[v, .int .i64 b]) := by rw [h]

set_option maxHeartbeats 400000 in
/-- The reference's held: what comes of it, if it may be. -/
theorem held_any (ao : Option Addr) (n cap : Nat) (xs : List Int) (v : Int) (w : World) (h : RowAt w ao n cap xs) (hv : Num xs v) (ok : Prop) (hok : ok) :
    Calls Tryz.prog 120 #[.slice ao n cap] w fun e w' => (∃ ro m c r k, e = .returned (.tuple #[.slice ro m c, .int .i64 k]) ∧ RowAt w' ro m c r ∧ Out ok False v r k) ∧ w = w' := by
  have hl : n ≤ maxLen := Nat.le_trans h.fits h.most
  unfold maxLen at hl
  have hlen := h.len
  have h8 := hv.le8
  rw [hlen] at h8
  have HR : Hid (RowAt w ao n cap xs) := h
  have HV : Hid (Num xs v) := hv
  have HO : Hid ok := hok
  clear h hv hok hlen
  by_cases hn : 8 < n
  · have hn' : (8 : Int) < (n : Int) := by omega
    have HG : Hid (Big ≤ v) := by
      have : ¬ v < Big := fun hh => by have := h8.2 hh; omega
      exact (Int.not_lt.1 this)
    clear h8
    go_enter Tryz.func120, Tryz.ntmps120
    go_wp2
    go_ret2
    exact ⟨⟨none, 0, 0, [], 21, rfl, RowAt.nil _, .big HO.out (fun f => f) HG.out⟩, rfl⟩
  · have hn' : ¬ (8 : Int) < (n : Int) := by omega
    have HG : Hid (v < Big) := h8.1 (by omega)
    clear h8
    go_enter Tryz.func120, Tryz.ntmps120
    go_wp2
    go_ret2
    exact ⟨⟨ao, n, cap, xs, 0, rfl, HR.out, .fine xs HO.out (fun f => f) HG.out HV.out⟩, rfl⟩

end Go.Proofs.YtnedghhcidohnaaGreat

/-! The reference's Sub. -/
namespace Go.Proofs.YtnedghhcidohnaaGreat
open Go.RowKit

theorem rsub_step {v c p q P x y s : Int} (h : v - c * P = p - q) (hs : s = x + HH - y - c) : v + (s % HH) * P - (1 - s / HH) * (P * HH) = (p + x * P) - (q + y * P) := by
  have h1 := Int.emod_add_mul_ediv s HH
  have h2 : (s % HH + HH * (s / HH)) * P = s * P := by rw [h1]
  rw [hs] at h2 ⊢
  grind

/-- What the loop of the reference's Sub holds. -/
structure RSubInv (w2 : World) (dx dy : List Int) (k g c : Nat) (cv : Int) (zs : List Int) (wr : World) : Prop where
  own : OwnR wr w2.heap.size g k c zs
  bel : Below w2.heap.size w2 wr
  halves : Halves zs
  len : zs.length = k
  c0 : 0 ≤ cv
  c1 : cv ≤ 1
  val : hval zs - cv * HH ^ k = hpv dx k - hpv dy k

theorem RSubInv.next {w2 : World} {dx dy : List Int} {k g c : Nat} {cv : Int} {zs : List Int} {wr wq : World} (h : RSubInv w2 dx dy k g c cv zs wr) (hx : Halves dx) (hy : Halves dy)
    {s : Int} (hs : s = lim dx k + 4294967296 - lim dy k - cv) (hq : Eqw wq wr) {gg cp : Nat} {w1 : World} (ho : OwnR w1 w2.heap.size gg (k + 1) cp (zs ++ [s % 4294967296])) (hg : (wq.alloc (Obj.cells #[.int .u64 (s % 4294967296)] 56)).grownBy w1 (some g)) :
    RSubInv w2 dx dy (k + 1) gg cp (1 - s / 4294967296) (zs ++ [s % 4294967296]) w1 := by
  have bx := half_bd hx k
  have bY := half_bd hy k
  have hgw := h.own.lt
  have c0 := h.c0
  have c1 := h.c1
  have hb := hq.below h.bel
  refine ⟨ho, (hb.alloc hb.size _).grown hg (by simp; have := hb.size; omega) (fun j hj => by cases hj; exact hgw.1), halves_snoc h.halves (by omega) (by unfold HH; omega), by simp [h.len], ?_, ?_, ?_⟩
  · unfold HH at bx bY; omega
  · unfold HH at bx bY; omega
  · rw [hval_snoc, h.len, hw_succ, hpv, hpv]
    exact rsub_step h.val hs

theorem Eqw.own {w' w : World} (h : Eqw w' w) {base g n cap : Nat} {zs : List Int} (ho : OwnR w base g n cap zs) : OwnR w' base g n cap zs := by
  unfold OwnR World.ownsRow at *
  rw [h.heap]
  exact ho

theorem rsub_end {dx dy zs : List Int} {L : Nat} {cv : Int} (hx : Halves dx) (hy : Halves dy) (hz : Halves zs) (lx : dx.length = L) (lz : zs.length = L) (hle : hval dy ≤ hval dx) (c0 : 0 ≤ cv) (c1 : cv ≤ 1) (h : hval zs - cv * HH ^ L = hpv dx L - hpv dy L) : hval zs = hval dx - hval dy := by
  have bx := hval_bd hx
  rw [lx] at bx
  have bz := hval_bd hz
  rw [lz] at bz
  have e1 : hpv dx L = hval dx := hpv_val dx L (by omega)
  have e2 : hpv dy L = hval dy := by
    rcases Nat.lt_or_ge dy.length L with h' | h'
    · exact hpv_val dy L (by omega)
    · have hm := (hpv_mono hy h').2
      rw [hpv_val dy dy.length (Nat.le_refl _)] at hm
      exact (hm (by omega)).symm
  rw [e1, e2] at h
  have hc : cv = 0 ∨ cv = 1 := by omega
  rcases hc with rfl | rfl
  · omega
  · omega

set_option maxRecDepth 100000 in
set_option maxHeartbeats 2000000 in
theorem rsub_ok (ao bo : Option Addr) (na ca nb cb : Nat) (xs ys : List Int) (w : World) (ha : RowAt w ao na ca xs) (hb : RowAt w bo nb cb ys) (hna : na ≤ 90000) (hnb : nb ≤ 90000) (hle : val ys ≤ val xs) :
    Calls Tryz.prog 115 #[.slice ao na ca, .slice bo nb cb] w fun e w' => ∃ ro m cap r, e = .returned (.tuple #[.slice ro m cap, .bool true]) ∧ RowAt w' ro m cap r ∧ Num r (val xs - val ys) ∧ Below w.heap.size w w' := by
  obtain ⟨i0, hi, hz0, hz1, hz2⟩ := info_parts Tryz.info56
  have HA : Hid (RowAt w ao na ca xs) := ha
  have HB : Hid (RowAt w bo nb cb ys) := hb
  have HX : Hid (Halves (hd xs) ∧ (hd xs).length = 2 * na ∧ hval (hd xs) = val xs) := ⟨hd_halves ha.limbs, by rw [hd_length, ha.len], hd_val xs⟩
  have HY : Hid (Halves (hd ys) ∧ (hd ys).length = 2 * nb ∧ hval (hd ys) = val ys) := ⟨hd_halves hb.limbs, by rw [hd_length, hb.len], hd_val ys⟩
  have HV : Hid (val ys ≤ val xs) := hle
  obtain ⟨cc, hcc⟩ : ∃ c, c = cmpI (val xs) (val ys) := ⟨_, rfl⟩
  have hc0 : ¬ cc < 0 := by rw [hcc, cmpI, if_neg (by omega)]; split <;> omega
  have HC : Hid (cc = cmpI (val xs) (val ys)) := hcc
  clear ha hb hle hcc
  go_enter Tryz.func115, Tryz.ntmps115
  go_wp2_with fail
  refine (rcmp_val _ _ _ _ _ _ xs ys _ HA.out HB.out (by omega) (by omega) cc HC.out).mono ?_
  rintro e w0 ⟨rfl, b0⟩
  have B0 : Hid (Below w.heap.size w w0) := b0
  clear b0
  go_wp2_with fail
  refine (digits_any _ _ _ xs _ (HA.out.below B0.out) (by omega)).mono ?_
  rintro e w1 ⟨xo, xc, rfl, hx1, b1⟩
  have X1 : Hid (RowAt w1 xo (2 * na) xc (hd xs)) := hx1
  have B1 : Hid (Below w.heap.size w w1) := chain B0.out b1
  clear hx1 b1 B0
  go_wp2_with fail
  refine (digits_any _ _ _ ys _ (HB.out.below B1.out) (by omega)).mono ?_
  rintro e w2 ⟨yo, yc, rfl, hy2, b2⟩
  have X2 : Hid (RowAt w2 xo (2 * na) xc (hd xs)) := X1.out.below b2
  have Y2 : Hid (RowAt w2 yo (2 * nb) yc (hd ys)) := hy2
  have B2 : Hid (Below w.heap.size w w2) := chain B1.out b2
  clear hy2 b2 X1 B1 HA HB HC hc0
  generalize hd xs = dx at *
  generalize hd ys = dy at *
  by_cases hn0 : na = 0
  · subst hn0
    have HR : Hid (RowAt (w2.alloc (Obj.cells #[] 56)) (some ⟨w2.heap.size, 0, none⟩) 0 0 []) := (OwnR.nil w2).row (by intro x hx; simp at hx)
    have hz : dx = [] := List.length_eq_zero_iff.1 HX.out.2.1
    have HE : Hid (val xs - val ys = 0) := by
      show val xs - val ys = 0
      have h1 := HX.out.2.2
      have h2 := (hval_bd HY.out.1).1
      have h3 := HV.out
      rw [hz] at h1
      simp [hval] at h1
      rw [HY.out.2.2] at h2
      omega
    clear hz
    go_wp2_with fail
    refine wp_loop_rounds 1 ?_
    rw [rounds_succ]
    go_wp2_with fail
    refine (whole_any _ _ _ [] _ HR.out (by intro x hx; simp at hx) (by omega)).mono ?_
    rintro e w3 ⟨ro, m, cp, r, rfl, h1, h2, h3, h4⟩
    go_wp2
    go_ret2
    refine ⟨ro, m, cp, r, rfl, h1, by rw [HE.out]; exact h2, chain B2.out (chain ((Below.refl _ _).alloc (Nat.le_refl _) _) h4)⟩
  · obtain ⟨b, off, rfl, hlt, hc⟩ := X2.out.cells (by intro e; have := HX.out.2.1; rw [e] at this; simp at this; omega)
    have HC : Hid (∀ j, j < 2 * na → w2.cell? ⟨b, off + j, none⟩ = some (.int .u64 (lim dx j))) := fun j hj => by rw [hc j (by rw [HX.out.2.1]; exact hj), lim_nat]
    clear hc
    go_wp2_with fail
    go_loopw [8, 9, 10, 11] (fun o cr i _ wr => ∃ (k g c : Nat) (cv : Int) (zs : List Int), k ≤ 2 * na ∧ i = .int .i64 k ∧ o = .slice (some ⟨g, 0, none⟩) k c ∧ cr = .int .u64 cv ∧ RSubInv w2 dx dy k g c cv zs wr) (fun _ _ i _ _ => 2 * na - (intOf i).toNat)
    case atStart => exact ⟨0, w2.heap.size, 0, 0, [], Nat.zero_le _, rfl, rfl, rfl, ⟨OwnR.nil w2, (Below.refl _ _).alloc (Nat.le_refl _) _, by intro x hx; simp at hx, rfl, Int.le_refl _, by omega, by simp [hval, hpv]⟩⟩
    case round =>
      obtain ⟨k, g, c, cv, zs, hkM, rfl, rfl, rfl, hinv⟩ := hrel
      have HI : Hid (RSubInv w2 dx dy k g c cv zs wr) := hinv
      have c0 := hinv.c0
      have c1 := hinv.c1
      have hsz : w2.heap.size ≤ wr.heap.size := hinv.bel.size
      by_cases hlt2 : k < 2 * na
      · have g1 : (0 : Int) ≤ (k : Int) := by omega
        have g2 : (k : Int) < ((2 * na : Nat) : Int) := by omega
        have hcx : wr.cell? ⟨b, off + k, none⟩ = some (.int .u64 (lim dx k)) := (hinv.bel.cell (p := ⟨b, off + k, none⟩) hlt).trans (HC.out k hlt2)
        have bx := half_bd HX.out.1 k
        have bY := half_bd HY.out.1 k
        obtain ⟨x, hx⟩ : ∃ x, x = lim dx k := ⟨_, rfl⟩
        rw [← hx] at bx hcx
        have EX : Hid (x = lim dx k) := hx
        unfold HH at bx bY
        have x0 := bx.1
        have x1 := bx.2
        have y0 := bY.1
        have y1 := bY.2
        have q1 : IntKind.u64.wrap (x + 4294967296) = x + 4294967296 := IntWalk.u64_in _ ⟨by omega, by omega⟩
        have q2 : IntKind.u64.wrap (x + 4294967296 - lim dy k) = x + 4294967296 - lim dy k := IntWalk.u64_in _ ⟨by omega, by omega⟩
        have q3 : IntKind.u64.wrap (x + 4294967296 - lim dy k - cv) = x + 4294967296 - lim dy k - cv := IntWalk.u64_in _ ⟨by omega, by omega⟩
        clear hinv hx bx bY
        go_wp2_with fail
        go_quiet ((go_at_call 127; exact Calls.quiet_of_same (rat_any _ _ _ dy k _ ((Y2.out.below HI.out.bel).drewN _))))
        obtain ⟨s, hs⟩ : ∃ s, s = x + 4294967296 - lim dy k - cv := ⟨_, rfl⟩
        have s0 : 0 ≤ s := by omega
        have s1 : s ≤ 8589934591 := by omega
        have HS : Hid (s = lim dx k + 4294967296 - lim dy k - cv) := by rw [hs, EX.out]; rfl
        rw [← hs]
        clear hs q1 q2 q3
        go_wp2_with (at_builtin; refine wpList_append_lies _ rfl (.tmp 38) (.tmp 41) 42 rfl w2.heap.size 56 i0 (.int .u64 0) 1 8 Tryz.underlying42 hi hz0 hz1 hz2 rfl (by decide) _ k (zs.map (Value.int .u64)) rfl ((((Eqw.refl wr).drewN nq).own HI.out.own).alloc _) ⟨wr.heap.size, 0, none⟩ 1 1 [.int .u64 (s % 4294967296)] rfl rfl (World.news_of_block (cs := #[.int .u64 (s % 4294967296)]) (t := 56) (fr := (0, 0)) (heap_alloc_new (wr.drewN nq) _)) (by simp [Value.oneCell']) (by omega) (by unfold maxLen; omega) (by omega) (by simp; omega) (wr.heap.size + 1) (by simp) ?_)
        intro gg cp w3 hown1 hgrow _ _
        have hr := HI.out.next HX.out.1 HY.out.1 HS.out ((Eqw.refl wr).drewN nq) (by unfold OwnR; rw [List.map_append]; exact hown1) hgrow
        have HR : Hid _ := hr
        clear hr hown1 hgrow
        go_wp2_with fail
        go_roundw
        case rel => exact ⟨k + 1, gg, cp, _, _, by omega, by go_num, rfl, rfl, HR.out⟩
        case measure => simp [intOf]; omega
      · have HR : Hid (RowAt wr (some ⟨g, 0, none⟩) k c zs) := HI.out.own.row HI.out.halves.limbs
        have HK : Hid (k = 2 * na) := by show k = 2 * na; omega
        clear hinv
        go_wp2_with fail
        refine (whole_any _ _ _ zs _ HR.out HI.out.halves (by omega)).mono ?_
        rintro e w3 ⟨ro, m, cp, r, rfl, h1, h2, h3, h4⟩
        go_wp2
        go_ret2
        refine ⟨ro, m, cp, r, rfl, h1, ?_, chain B2.out (chain HI.out.bel h4)⟩
        rw [rsub_end HX.out.1 HY.out.1 HI.out.halves (by rw [HK.out]; exact HX.out.2.1) HI.out.len (by rw [HX.out.2.2, HY.out.2.2]; exact HV.out) c0 c1 HI.out.val, HX.out.2.2, HY.out.2.2] at h2
        exact h2

set_option maxHeartbeats 400000 in
theorem rsub_no (ao bo : Option Addr) (na ca nb cb : Nat) (xs ys : List Int) (w : World) (ha : RowAt w ao na ca xs) (hb : RowAt w bo nb cb ys) (hna : na ≤ 90000) (hnb : nb ≤ 90000) (hlt : val xs < val ys) :
    Calls Tryz.prog 115 #[.slice ao na ca, .slice bo nb cb] w fun e w' => e = .returned (.tuple #[.slice none 0 0, .bool false]) ∧ Below w.heap.size w w' := by
  have HA : Hid (RowAt w ao na ca xs) := ha
  have HB : Hid (RowAt w bo nb cb ys) := hb
  have HC : Hid (-1 = cmpI (val xs) (val ys)) := by rw [cmpI, if_pos hlt]; rfl
  clear ha hb hlt
  go_enter Tryz.func115, Tryz.ntmps115
  go_wp2_with fail
  refine (rcmp_val _ _ _ _ _ _ xs ys _ HA.out HB.out (by omega) (by omega) (-1) HC.out).mono ?_
  rintro e w0 ⟨rfl, b0⟩
  go_wp2_with fail
  go_ret2
  exact ⟨rfl, b0⟩
end Go.Proofs.YtnedghhcidohnaaGreat

/-! The reference's Mul. -/
namespace Go.Proofs.YtnedghhcidohnaaGreat
open Go.RowKit

theorem hval_set (os : List Int) (j : Nat) (v : Int) (h : j < os.length) : hval (os.set j v) = hval os + (v - lim os j) * HH ^ j := by
  induction os generalizing j with
  | nil => simp at h
  | cons x xs ih =>
    cases j with
    | zero => simp [hval, lim]; omega
    | succ j =>
      have e : lim (x :: xs) ((j + 1 : Nat) : Int) = lim xs j := by rw [lim_nat, lim_nat]; simp
      rw [List.set_cons_succ, hval, hval, ih j (by simpa using h), e, hw_succ]
      grind

theorem hval_zeros (k : Nat) : hval (List.replicate k 0) = 0 := by
  induction k with
  | zero => rfl
  | succ k ih => rw [List.replicate_succ, hval, ih]; simp
theorem halves_zeros (k : Nat) : Halves (List.replicate k 0) := fun x hx => by rw [List.eq_of_mem_replicate hx]; exact ⟨Int.le_refl _, HH_pos⟩
theorem halves_set {os : List Int} (h : Halves os) (j : Nat) {v : Int} (h0 : 0 ≤ v) (h1 : v < HH) : Halves (os.set j v) := by
  intro x hx
  rcases List.mem_or_eq_of_mem_set hx with h' | h'
  · exact h x h'
  · rw [h']; exact ⟨h0, h1⟩

theorem half_mul {x y : Int} (hx : 0 ≤ x) (hy : 0 ≤ y) (hxB : x < HH) (hyB : y < HH) : 0 ≤ x * y ∧ x * y ≤ 18446744065119617025 := by
  refine ⟨Int.mul_nonneg hx hy, ?_⟩
  have := Int.mul_le_mul (show x ≤ 4294967295 by unfold HH at hxB; omega) (show y ≤ 4294967295 by unfold HH at hyB; omega) hy (by omega : (0 : Int) ≤ 4294967295)
  simpa using this

/-- What the inner loop of the reference's Mul holds. -/
structure RMulInv (w2 : World) (dx dy : List Int) (g c L i k : Nat) (cv : Int) (os : List Int) (wr : World) : Prop where
  own : OwnR wr w2.heap.size g L c os
  bel : Below w2.heap.size w2 wr
  halves : Halves os
  len : os.length = L
  c0 : 0 ≤ cv
  c1 : cv < HH
  val : hval os + cv * HH ^ (i + k) = hpv dx i * hval dy + lim dx i * HH ^ i * hpv dy k
  most : k ≤ dy.length + 1

theorem RMulInv.go {w2 : World} {dx dy : List Int} {g c L i k : Nat} {cv : Int} {os : List Int} {wr : World} (h : RMulInv w2 dx dy g c L i k cv os wr) (hx : Halves dx) (hy : Halves dy) (hgo : k < dy.length ∨ 0 < cv) : k ≤ dy.length := by
  rcases hgo with h' | h'
  · omega
  · rcases Nat.lt_or_ge dy.length k with hk | hk
    · exfalso
      have hv := h.val
      rw [hpv_val dy k (by omega)] at hv
      have e : hpv dx i * hval dy + lim dx i * HH ^ i * hval dy = hpv dx (i + 1) * hval dy := by rw [hpv]; grind
      rw [e] at hv
      have b1 := hpv_bd hx (i + 1)
      have b2 := hval_bd hy
      have b3 := (hval_bd h.halves).1
      have h1 : hpv dx (i + 1) * hval dy ≤ HH ^ (i + 1) * hval dy := Int.mul_le_mul_of_nonneg_right (Int.le_of_lt b1.2) b2.1
      have h2 : HH ^ (i + 1) * hval dy < HH ^ (i + 1) * HH ^ dy.length := Int.mul_lt_mul_of_pos_left b2.2 (hw_pos _)
      rw [← hw_add] at h2
      have h3 := hw_le (show i + 1 + dy.length ≤ i + k by omega)
      have h4 : (1 : Int) * HH ^ (i + k) ≤ cv * HH ^ (i + k) := Int.mul_le_mul_of_nonneg_right h' (Int.le_of_lt (hw_pos _))
      omega
    · exact hk

theorem rmul_step {v c x y P o s p q Hi K : Int} (h : v + c * P = p + x * Hi * q) (hP : P = Hi * K) (hs : s = o + x * y + c) : v + (s % HH - o) * P + s / HH * (P * HH) = p + x * Hi * (q + y * K) := by
  have h1 := Int.emod_add_mul_ediv s HH
  have h2 : (s % HH + HH * (s / HH)) * P = s * P := by rw [h1]
  have h3 : x * Hi * (y * K) = x * y * P := by rw [hP]; grind
  rw [hs] at h2 ⊢
  grind

theorem RMulInv.next {w2 : World} {dx dy : List Int} {g c L i k : Nat} {cv : Int} {os : List Int} {wr wq : World} (h : RMulInv w2 dx dy g c L i k cv os wr) (hx : Halves dx) (hy : Halves dy) (hgo : k ≤ dy.length) (hL : i + k < L)
    {s : Int} (hs : s = lim os ((i + k : Nat) : Int) + lim dx i * lim dy k + cv) (hq : Eqw wq wr) :
    RMulInv w2 dx dy g c L i (k + 1) (s / 4294967296) (os.set (i + k) (s % 4294967296)) (wq.setCell ⟨g, i + k, none⟩ (.int .u64 (s % 4294967296))) := by
  have bx := half_bd hx i
  have bY := half_bd hy k
  have bo := half_bd h.halves (i + k)
  have bm := half_mul bx.1 bY.1 bx.2 bY.2
  have hgw := h.own.lt
  have c0 := h.c0
  have c1 := h.c1
  have hb := hq.below h.bel
  have hst := World.ownsRow.stored (hq.own h.own) (i + k) (.int .u64 (s % 4294967296))
  refine ⟨?_, hb.setCell hgw.1 _, halves_set h.halves _ (by omega) (by unfold HH; omega), by simp [h.len], ?_, ?_, ?_, by omega⟩
  · unfold OwnR
    rw [List.map_set]
    exact hst.1
  · generalize lim dx i * lim dy k = P at *
    unfold HH at *; omega
  · generalize lim dx i * lim dy k = P at *
    unfold HH at *; omega
  · rw [hval_set os (i + k) _ (by rw [h.len]; exact hL), ← Nat.add_assoc, hw_succ, hpv]
    exact rmul_step h.val (hw_add i k) hs

/-- What the outer loop of the reference's Mul holds. -/
structure RMulOut (w2 : World) (g c L : Nat) (v : Int) (os : List Int) (wr : World) : Prop where
  own : OwnR wr w2.heap.size g L c os
  bel : Below w2.heap.size w2 wr
  halves : Halves os
  len : os.length = L
  val : hval os = v

set_option maxRecDepth 100000 in
set_option maxHeartbeats 4000000 in
theorem rmul_any (ao bo : Option Addr) (na ca nb cb : Nat) (xs ys : List Int) (w : World) (ha : RowAt w ao na ca xs) (hb : RowAt w bo nb cb ys) (hna : na ≤ 40000) (hnb : nb ≤ 40000) :
    Calls Tryz.prog 112 #[.slice ao na ca, .slice bo nb cb] w fun e w' => ∃ ro m cap r, e = .returned (.slice ro m cap) ∧ RowAt w' ro m cap r ∧ Num r (val xs * val ys) ∧ Below w.heap.size w w' := by
  obtain ⟨i0, hi, hz0, hz1, hz2⟩ := info_parts Tryz.info56
  have HA : Hid (RowAt w ao na ca xs) := ha
  have HB : Hid (RowAt w bo nb cb ys) := hb
  have HX : Hid (Halves (hd xs) ∧ (hd xs).length = 2 * na ∧ hval (hd xs) = val xs) := ⟨hd_halves ha.limbs, by rw [hd_length, ha.len], hd_val xs⟩
  have HY : Hid (Halves (hd ys) ∧ (hd ys).length = 2 * nb ∧ hval (hd ys) = val ys) := ⟨hd_halves hb.limbs, by rw [hd_length, hb.len], hd_val ys⟩
  clear ha hb
  go_enter Tryz.func112, Tryz.ntmps112
  go_wp2_with fail
  refine (digits_any _ _ _ xs _ HA.out (by omega)).mono ?_
  rintro e w1 ⟨xo, xc, rfl, hx1, b1⟩
  have X1 : Hid (RowAt w1 xo (2 * na) xc (hd xs)) := hx1
  have B1 : Hid (Below w.heap.size w w1) := b1
  clear hx1 b1
  go_wp2_with fail
  refine (digits_any _ _ _ ys _ (HB.out.below B1.out) (by omega)).mono ?_
  rintro e w2 ⟨yo, yc, rfl, hy2, b2⟩
  have X2 : Hid (RowAt w2 xo (2 * na) xc (hd xs)) := X1.out.below b2
  have Y2 : Hid (RowAt w2 yo (2 * nb) yc (hd ys)) := hy2
  have B2 : Hid (Below w.heap.size w w2) := chain B1.out b2
  clear hy2 b2 X1 B1 HA HB
  generalize hd xs = dx at *
  generalize hd ys = dy at *
  obtain ⟨L, hL⟩ : ∃ L, L = 2 * na + 2 * nb + 1 := ⟨_, rfl⟩
  have hL1 : L ≤ 2 * na + 2 * nb + 1 := by omega
  have hL2 : 2 * na + 2 * nb + 1 ≤ L := by omega
  clear hL
  cases xo with
  | none =>
    go_wp2_with fail
    go_loopw [7, 8] (fun o i wr => ∃ k g c : Nat, k ≤ L ∧ i = .int .i64 k ∧ o = .slice (some ⟨g, 0, none⟩) k c ∧ OwnR wr w2.heap.size g k c (List.replicate k 0) ∧ Below w2.heap.size w2 wr) (fun _ i _ => L - (intOf i).toNat)
    case atStart => exact ⟨0, w2.heap.size, 0, Nat.zero_le _, rfl, rfl, OwnR.nil w2, (Below.refl _ _).alloc (Nat.le_refl _) _⟩
    case round =>
      obtain ⟨k, g, c, hk, rfl, rfl, hown, hbel⟩ := hrel
      have HO : Hid (OwnR wr w2.heap.size g k c (List.replicate k 0)) := hown
      have HBB : Hid (Below w2.heap.size w2 wr) := hbel
      have hgw := hown.lt
      have hsz : w2.heap.size ≤ wr.heap.size := hbel.size
      clear hown hbel
      by_cases hlt1 : k < L
      · go_wp2_with (at_builtin; refine wpList_append_lies _ rfl (.tmp 28) (.tmp 29) 42 rfl w2.heap.size 56 i0 (.int .u64 0) 1 8 Tryz.underlying42 hi hz0 hz1 hz2 rfl (by decide) _ k ((List.replicate k (0 : Int)).map (Value.int .u64)) rfl (HO.out.alloc _) ⟨wr.heap.size, 0, none⟩ 1 1 [.int .u64 0] rfl rfl (World.news_of_block (cs := #[.int .u64 0]) (t := 56) (fr := (0, 0)) (heap_alloc_new wr _)) (by simp [Value.oneCell']) (by omega) (by unfold maxLen; omega) (by omega) (by simp; omega) (wr.heap.size + 1) (by simp) ?_)
        intro gg cp w3 hown1 hgrow _ _
        have HN : Hid (OwnR w3 w2.heap.size gg (k + 1) cp (List.replicate (k + 1) 0)) := by
          show OwnR w3 w2.heap.size gg (k + 1) cp (List.replicate (k + 1) 0)
          unfold OwnR
          rw [List.replicate_succ', List.map_append]
          simpa using hown1
        have HG : Hid (Below w2.heap.size w2 w3) := (HBB.out.alloc hsz _).grown hgrow (by simp; omega) (fun j hj => by cases hj; exact hgw.1)
        clear hown1 hgrow
        go_wp2_with fail
        go_roundw
        case rel => exact ⟨k + 1, gg, cp, by omega, by go_num, rfl, HN.out, HG.out⟩
        case measure => simp [intOf]; omega
      · have hkL : L = k := by omega
        have HO2 : Hid (OwnR wr w2.heap.size g (L) c (List.replicate (L) 0)) := by
          show OwnR wr w2.heap.size g (L) c (List.replicate (L) 0)
          rw [hkL]; exact HO.out
        subst hkL
        clear HO
        have OS0 : Hid (RMulOut w2 g c (L) (hpv dx 0 * hval dy) (List.replicate (L) 0) wr) := ⟨HO2.out, HBB.out, halves_zeros _, by simp, by rw [hval_zeros]; simp [hpv]⟩
        clear HO2 HBB
        go_wp2_with fail
        go_loopw [9, 10, 11, 12] (fun ii _ _ _ wr => ∃ (i : Nat) (os : List Int), i ≤ 2 * na ∧ ii = .int .i64 i ∧ RMulOut w2 g c (L) (hpv dx i * hval dy) os wr) (fun ii _ _ _ _ => 2 * na - (intOf ii).toNat)
        case atStart => exact ⟨0, _, Nat.zero_le _, rfl, OS0.out⟩
        case round =>
          obtain ⟨i, os, hiM, rfl, hos⟩ := hrel
          clear OS0 hgw hsz
          by_cases hlt2 : i < 2 * na
          · exfalso
            have h1 := X2.out.bare rfl
            have h2 := X2.out.fits
            omega
          · have OS : Hid (RMulOut w2 g c (L) (val xs * val ys) os wr) := by
              show RMulOut w2 g c (L) (val xs * val ys) os wr
              rw [hpv_val dx i (by have := HX.out.2.1; omega), HX.out.2.2, HY.out.2.2] at hos
              exact hos
            clear hos
            go_wp2_with fail
            refine (whole_any _ _ _ os _ (OS.out.own.row OS.out.halves.limbs) OS.out.halves (by omega)).mono ?_
            rintro e w4 ⟨ro, m, cp, r, rfl, h1, h2, h3, h4⟩
            go_wp2
            go_ret
            refine ⟨ro, m, cp, r, rfl, h1, ?_, chain B2.out (chain OS.out.bel h4)⟩
            rw [OS.out.val] at h2
            exact h2
  | some ad =>
    go_wp2_with fail
    go_loopw [7, 8] (fun o i wr => ∃ k g c : Nat, k ≤ L ∧ i = .int .i64 k ∧ o = .slice (some ⟨g, 0, none⟩) k c ∧ OwnR wr w2.heap.size g k c (List.replicate k 0) ∧ Below w2.heap.size w2 wr) (fun _ i _ => L - (intOf i).toNat)
    case atStart => exact ⟨0, w2.heap.size, 0, Nat.zero_le _, rfl, rfl, OwnR.nil w2, (Below.refl _ _).alloc (Nat.le_refl _) _⟩
    case round =>
      obtain ⟨k, g, c, hk, rfl, rfl, hown, hbel⟩ := hrel
      have HO : Hid (OwnR wr w2.heap.size g k c (List.replicate k 0)) := hown
      have HBB : Hid (Below w2.heap.size w2 wr) := hbel
      have hgw := hown.lt
      have hsz : w2.heap.size ≤ wr.heap.size := hbel.size
      clear hown hbel
      by_cases hlt1 : k < L
      · go_wp2_with (at_builtin; refine wpList_append_lies _ rfl (.tmp 28) (.tmp 29) 42 rfl w2.heap.size 56 i0 (.int .u64 0) 1 8 Tryz.underlying42 hi hz0 hz1 hz2 rfl (by decide) _ k ((List.replicate k (0 : Int)).map (Value.int .u64)) rfl (HO.out.alloc _) ⟨wr.heap.size, 0, none⟩ 1 1 [.int .u64 0] rfl rfl (World.news_of_block (cs := #[.int .u64 0]) (t := 56) (fr := (0, 0)) (heap_alloc_new wr _)) (by simp [Value.oneCell']) (by omega) (by unfold maxLen; omega) (by omega) (by simp; omega) (wr.heap.size + 1) (by simp) ?_)
        intro gg cp w3 hown1 hgrow _ _
        have HN : Hid (OwnR w3 w2.heap.size gg (k + 1) cp (List.replicate (k + 1) 0)) := by
          show OwnR w3 w2.heap.size gg (k + 1) cp (List.replicate (k + 1) 0)
          unfold OwnR
          rw [List.replicate_succ', List.map_append]
          simpa using hown1
        have HG : Hid (Below w2.heap.size w2 w3) := (HBB.out.alloc hsz _).grown hgrow (by simp; omega) (fun j hj => by cases hj; exact hgw.1)
        clear hown1 hgrow
        go_wp2_with fail
        go_roundw
        case rel => exact ⟨k + 1, gg, cp, by omega, by go_num, rfl, HN.out, HG.out⟩
        case measure => simp [intOf]; omega
      · have hkL : L = k := by omega
        have HO2 : Hid (OwnR wr w2.heap.size g (L) c (List.replicate (L) 0)) := by
          show OwnR wr w2.heap.size g (L) c (List.replicate (L) 0)
          rw [hkL]; exact HO.out
        subst hkL
        clear HO
        have OS0 : Hid (RMulOut w2 g c (L) (hpv dx 0 * hval dy) (List.replicate (L) 0) wr) := ⟨HO2.out, HBB.out, halves_zeros _, by simp, by rw [hval_zeros]; simp [hpv]⟩
        clear HO2 HBB
        go_wp2_with fail
        go_loopw [9, 10, 11, 12] (fun ii _ _ _ wr => ∃ (i : Nat) (os : List Int), i ≤ 2 * na ∧ ii = .int .i64 i ∧ RMulOut w2 g c (L) (hpv dx i * hval dy) os wr) (fun ii _ _ _ _ => 2 * na - (intOf ii).toNat)
        case atStart => exact ⟨0, _, Nat.zero_le _, rfl, OS0.out⟩
        case round =>
          obtain ⟨i, os, hiM, rfl, hos⟩ := hrel
          clear OS0 hgw hsz
          by_cases hlt2 : i < 2 * na
          · have OS : Hid (RMulOut w2 g c (L) (hpv dx i * hval dy) os wr) := hos
            clear hos
            obtain ⟨b, off, e, hlt, hc⟩ := X2.out.cells (by intro e; have := HX.out.2.1; rw [e] at this; simp at this; omega)
            cases e
            have HC : Hid (∀ j, j < 2 * na → w2.cell? ⟨b, off + j, none⟩ = some (.int .u64 (lim dx j))) := fun j hj => by rw [hc j (by rw [HX.out.2.1]; exact hj), lim_nat]
            clear hc
            have g3 : (0 : Int) ≤ (i : Int) := by omega
            have g4 : (i : Int) < 2 * (na : Int) := by omega
            go_wp2_with fail
            go_loopw [10, 11, 12] (fun cr kk _ wr => ∃ (k : Nat) (cv : Int) (os : List Int), kk = .int .i64 k ∧ cr = .int .u64 cv ∧ RMulInv w2 dx dy g c (L) i k cv os wr) (fun _ kk _ _ => 2 * nb + 2 - (intOf kk).toNat)
            case atStart => exact ⟨0, 0, os, rfl, rfl, ⟨OS.out.own, OS.out.bel, OS.out.halves, OS.out.len, Int.le_refl _, HH_pos, by rw [OS.out.val]; simp [hpv], Nat.zero_le _⟩⟩
            case round =>
              obtain ⟨k, cv, ps, rfl, rfl, hinv⟩ := hrel
              have HI : Hid (RMulInv w2 dx dy g c (L) i k cv ps wr) := hinv
              have hkM : k ≤ 2 * nb + 1 := by have := hinv.most; have := HY.out.2.1; omega
              have c0 := hinv.c0
              have c1 : cv ≤ 4294967295 := by have := hinv.c1; unfold HH at this; omega
              have hsz : w2.heap.size ≤ wr.heap.size := hinv.bel.size
              have round : (k < dy.length ∨ 0 < cv) → k ≤ 2 * nb ∧ wr.cell? ⟨g, i + k, none⟩ = some (.int .u64 (lim ps ((i + k : Nat) : Int))) ∧ wr.frozen? ⟨g, i + k, none⟩ = false ∧ wr.cell? ⟨b, off + i, none⟩ = some (.int .u64 (lim dx i)) := fun hgo => by
                have h1 := hinv.go HX.out.1 HY.out.1 hgo
                have h2 := HY.out.2.1
                refine ⟨by omega, ?_, World.ownsRow.frozenAt hinv.own _, (hinv.bel.cell (p := ⟨b, off + i, none⟩) hlt).trans (HC.out i hlt2)⟩
                rw [World.ownsRow.cellAt hinv.own (i + k) (by omega), lim_nat]
                have h3 : i + k < ps.length := by rw [hinv.len]; omega
                simp [h3]
              have RD : Hid _ := round
              have bx := half_bd HX.out.1 i
              have bY := half_bd HY.out.1 k
              have bo := half_bd hinv.halves (i + k)
              have bm := half_mul bx.1 bY.1 bx.2 bY.2
              obtain ⟨x, hx⟩ : ∃ x, x = lim dx i := ⟨_, rfl⟩
              obtain ⟨q, hq⟩ : ∃ q, q = lim ps ((i + k : Nat) : Int) := ⟨_, rfl⟩
              rw [← hx] at bm
              rw [← hq] at bo
              have EX : Hid (x = lim dx i) := hx
              have EQ : Hid (q = lim ps ((i + k : Nat) : Int)) := hq
              have q0 := bo.1
              have q1 : q ≤ 4294967295 := by have := bo.2; unfold HH at this; omega
              have m0 := bm.1
              have m1 := bm.2
              have hw0 : IntKind.i64.wrap ((i : Int) + (k : Int)) = ((i + k : Nat) : Int) := by rw [IntWalk.i64_in _ ⟨by omega, by omega⟩]; omega
              have hw1 : IntKind.u64.wrap (x * lim dy k) = x * lim dy k := IntWalk.u64_in _ ⟨by omega, by omega⟩
              have hw2 : IntKind.u64.wrap (q + x * lim dy k) = q + x * lim dy k := IntWalk.u64_in _ ⟨by omega, by omega⟩
              have hw3 : IntKind.u64.wrap (q + x * lim dy k + cv) = q + x * lim dy k + cv := IntWalk.u64_in _ ⟨by omega, by omega⟩
              clear hinv round hx hq bx bY bo bm
              by_cases t1 : (k : Int) < ((2 * nb : Nat) : Int)
              · obtain ⟨k1, hcg, hfg, hcx⟩ := RD.out (Or.inl (by have := HY.out.2.1; omega))
                rw [← EQ.out] at hcg
                rw [← EX.out] at hcx
                have g1 : (0 : Int) ≤ ((i + k : Nat) : Int) := by omega
                have g2 : ((i + k : Nat) : Int) < (L : Int) := by omega
                go_wp2_with fail
                go_quiet ((go_at_call 127; exact Calls.quiet_of_same (rat_any _ _ _ dy k _ ((Y2.out.below HI.out.bel).drewN _))))
                obtain ⟨s, hs⟩ : ∃ s, s = q + x * lim dy k + cv := ⟨_, rfl⟩
                have s0 : 0 ≤ s := by omega
                have s1 : s ≤ 18446744073709551615 := by omega
                have HS : Hid (s = lim ps ((i + k : Nat) : Int) + lim dx i * lim dy k + cv) := by rw [hs, EX.out, EQ.out]; rfl
                rw [← hs]
                clear hs hw0 hw1 hw2 hw3 m0 m1
                have NX : Hid _ := HI.out.next HX.out.1 HY.out.1 (by have := HY.out.2.1; omega) (by omega) HS.out ((Eqw.refl wr).drewN nq)
                go_wp2_with fail
                go_roundw
                case rel => exact ⟨k + 1, _, _, by go_num, rfl, NX.out⟩
                case measure => simp [intOf]; omega
              · by_cases t2 : 0 < cv
                · obtain ⟨k1, hcg, hfg, hcx⟩ := RD.out (Or.inr t2)
                  rw [← EQ.out] at hcg
                  rw [← EX.out] at hcx
                  have g1 : (0 : Int) ≤ ((i + k : Nat) : Int) := by omega
                  have g2 : ((i + k : Nat) : Int) < (L : Int) := by omega
                  go_wp2_with fail
                  go_quiet ((go_at_call 127; exact Calls.quiet_of_same (rat_any _ _ _ dy k _ ((Y2.out.below HI.out.bel).drewN _))))
                  obtain ⟨s, hs⟩ : ∃ s, s = q + x * lim dy k + cv := ⟨_, rfl⟩
                  have s0 : 0 ≤ s := by omega
                  have s1 : s ≤ 18446744073709551615 := by omega
                  have HS : Hid (s = lim ps ((i + k : Nat) : Int) + lim dx i * lim dy k + cv) := by rw [hs, EX.out, EQ.out]; rfl
                  rw [← hs]
                  clear hs hw0 hw1 hw2 hw3 m0 m1
                  have NX : Hid _ := HI.out.next HX.out.1 HY.out.1 (by have := HY.out.2.1; omega) (by omega) HS.out ((Eqw.refl wr).drewN nq)
                  go_wp2_with fail
                  go_roundw
                  case rel => exact ⟨k + 1, _, _, by go_num, rfl, NX.out⟩
                  case measure => simp [intOf]; omega
                · have NX : Hid (RMulOut w2 g c (L) (hpv dx (i + 1) * hval dy) ps wr) := by
                    have hv := HI.out.val
                    have e : hpv dx i * hval dy + lim dx i * HH ^ i * hval dy = hpv dx (i + 1) * hval dy := by rw [hpv]; grind
                    rw [show cv = 0 by omega, hpv_val dy k (by have := HY.out.2.1; omega), e] at hv
                    exact ⟨HI.out.own, HI.out.bel, HI.out.halves, HI.out.len, by simpa using hv⟩
                  clear hw0 hw1 hw2 hw3 m0 m1
                  go_wp2_with fail
                  go_roundw
                  case rel => exact ⟨i + 1, _, by omega, by go_num, NX.out⟩
                  case measure => simp [intOf]; omega
          · have OS : Hid (RMulOut w2 g c (L) (val xs * val ys) os wr) := by
              show RMulOut w2 g c (L) (val xs * val ys) os wr
              rw [hpv_val dx i (by have := HX.out.2.1; omega), HX.out.2.2, HY.out.2.2] at hos
              exact hos
            clear hos
            go_wp2_with fail
            refine (whole_any _ _ _ os _ (OS.out.own.row OS.out.halves.limbs) OS.out.halves (by omega)).mono ?_
            rintro e w4 ⟨ro, m, cp, r, rfl, h1, h2, h3, h4⟩
            go_wp2
            go_ret
            refine ⟨ro, m, cp, r, rfl, h1, ?_, chain B2.out (chain OS.out.bel h4)⟩
            rw [OS.out.val] at h2
            exact h2
end Go.Proofs.YtnedghhcidohnaaGreat

/-! The reference's division, half a limb at a time, as arithmetic: no program. -/
namespace Go.Proofs.YtnedghhcidohnaaGreat
open Go.RowKit

/-- What the reference's loop holds ahead of the place k - 1. -/
structure RInv (ds : List Int) (V : Int) (L k : Nat) (qs : List Int) (rv : Int) : Prop where
  len : qs.length = L
  halves : Halves qs
  r0 : 0 ≤ rv
  r1 : rv < V
  zeros : ∀ j : Nat, j < k → lim qs j = 0
  eq : hval ds = hval qs * V + rv * HH ^ k + hpv ds k

theorem rinv_start {ds : List Int} {V : Int} {L : Nat} (hV : 0 < V) (hL : ds.length = L) : RInv ds V L L (List.replicate L 0) 0 :=
  ⟨by simp, halves_zeros L, Int.le_refl _, hV, fun j _ => lim_zeros L j, by rw [hval_zeros, hpv_val ds L (by omega)]; simp⟩

theorem rinv_big {ds : List Int} {V : Int} {L k : Nat} {qs : List Int} {rv : Int} (h : RInv ds V L (k + 1) qs rv) (hd : Halves ds) : 0 ≤ rv * HH + lim ds k ∧ rv * HH + lim ds k < V * HH := by
  have hb := half_bd hd k
  have h0 := h.r0
  have h1 : rv + 1 ≤ V := h.r1
  have h2 := Int.mul_le_mul_of_nonneg_right h1 (Int.le_of_lt HH_pos)
  have h3 := Int.mul_nonneg h0 (Int.le_of_lt HH_pos)
  rw [Int.add_mul, Int.one_mul] at h2
  omega

theorem rinv_skip {ds : List Int} {V : Int} {L k : Nat} {qs : List Int} {rv tv : Int} (h : RInv ds V L (k + 1) qs rv) (hd : Halves ds) (ht : tv = rv * HH + lim ds k) (hlt : tv < V) : RInv ds V L k qs tv := by
  have hb := rinv_big h hd
  refine ⟨h.len, h.halves, by omega, hlt, fun j hj => h.zeros j (by omega), ?_⟩
  rw [h.eq, ht, hpv, hw_succ]
  grind

theorem rinv_next {ds : List Int} {V : Int} {L k : Nat} {qs : List Int} {rv tv d : Int} (h : RInv ds V L (k + 1) qs rv) (hd : Halves ds) (hk : k < L) (ht : tv = rv * HH + lim ds k) (hdd : d = tv / V) : RInv ds V L k (qs.set k d) (tv - V * d) := by
  have hb := rinv_big h hd
  have hV : 0 < V := by have := h.r0; have := h.r1; omega
  have h1 := Int.emod_add_mul_ediv tv V
  have h2 := Int.emod_lt_of_pos tv hV
  have h3 := Int.emod_nonneg tv (show V ≠ 0 by omega)
  rw [← hdd] at h1
  have d0 : 0 ≤ d := by rw [hdd]; exact Int.ediv_nonneg (by omega) (by omega)
  have d1 : d < HH := by rw [hdd]; exact Int.ediv_lt_of_lt_mul hV (by rw [Int.mul_comm]; omega)
  refine ⟨by simp [h.len], halves_set h.halves k d0 d1, by omega, by omega, fun j hj => ?_, ?_⟩
  · have := h.zeros j (by omega)
    rw [lim_nat] at this ⊢
    rw [List.getD_eq_getElem?_getD, List.getElem?_set_ne (by omega), ← List.getD_eq_getElem?_getD]
    exact this
  · rw [hval_set qs k d (by rw [h.len]; exact hk), h.zeros k (by omega), h.eq, hpv, hw_succ, ht]
    grind

theorem rinv_end {ds : List Int} {V : Int} {L : Nat} {qs : List Int} {rv : Int} (h : RInv ds V L 0 qs rv) : hval qs = hval ds / V ∧ rv = hval ds % V := by
  have e := h.eq
  simp only [hpv, Int.pow_zero, Int.mul_one, Int.add_zero] at e
  have h0 := h.r0
  have h1 := h.r1
  have e2 : hval ds = rv + V * hval qs := by rw [Int.mul_comm V]; omega
  refine ⟨?_, ?_⟩
  · rw [e2, Int.add_mul_ediv_left _ _ (by omega), Int.ediv_eq_zero_of_lt h0 h1]; omega
  · rw [e2, Int.add_mul_emod_self_left, Int.emod_eq_of_lt h0 h1]

theorem OwnR.below {w w' : World} {base g n cap : Nat} {zs : List Int} (h : OwnR w base g n cap zs) (hb : Below w.heap.size w w') : OwnR w' base g n cap zs := by
  refine ⟨h.1, ?_⟩
  rcases h.2 with ⟨e, h0⟩ | ⟨g', cap', cur, e, hg, hh, hr⟩
  · cases e
  · cases e
    exact .inr ⟨g, cap, cur, rfl, hg, (hb.block g (lt_of_block hh)).trans hh, hr⟩

/-- What the reference's loop of Div holds, with what lies in memory. -/
structure RDivRel (w1 : World) (g c L j : Nat) (ds : List Int) (V : Int) (ro : Option Addr) (nr cr : Nat) (rs qs : List Int) (rv : Int) (wr : World) : Prop where
  row : RowAt wr ro nr cr rs
  num : Num rs rv
  own : OwnR wr w1.heap.size g L c qs
  bel : Below w1.heap.size w1 wr
  inv : RInv ds V L j qs rv

theorem Num.few {r : List Int} {v V : Int} {n : Nat} (h : Num r v) (hv : v < V) (hV : V ≤ BB ^ n) : r.length ≤ n := by
  rcases Nat.lt_or_ge n r.length with hg | hg
  · obtain ⟨j, hj⟩ : ∃ j, r.length = j + 1 := ⟨r.length - 1, by omega⟩
    have h1 := val_ge h.limbs h.trim j hj
    rw [h.val] at h1
    have := pw_le (show n ≤ j by omega)
    omega
  · exact hg

/-- The digit is laid, and taken off. -/
theorem RDivRel.next {w1 : World} {g c L k : Nat} {ds : List Int} {V : Int} {ro so : Option Addr} {nr cr sm sc : Nat} {rs qs ss : List Int} {rv tv d : Int} {wr w3 w5 : World} (h : RDivRel w1 g c L (k + 1) ds V ro nr cr rs qs rv wr) (hd : Halves ds) (hk : k < L) (ht : tv = rv * HH + lim ds k) (hdd : d = tv / V)
    (hb : Below wr.heap.size wr w3) (hb5 : Below w3.heap.size (w3.setCell ⟨g, k, none⟩ (.int .u64 d)) w5) (hss : RowAt w5 so sm sc ss) (hn : Num ss (tv - V * d)) :
    RDivRel w1 g c L k ds V so sm sc ss (qs.set k d) (tv - V * d) w5 := by
  have ho := h.own.below hb
  have hst := World.ownsRow.stored ho k (.int .u64 d)
  have hbs : Below (w3.setCell ⟨g, k, none⟩ (.int .u64 d)).heap.size (w3.setCell ⟨g, k, none⟩ (.int .u64 d)) w5 := by
    have e : (w3.setCell ⟨g, k, none⟩ (.int .u64 d)).heap.size = w3.heap.size := by simp [World.setCell]
    rw [e]; exact hb5
  refine ⟨hss, hn, ?_, ?_, rinv_next h.inv hd hk ht hdd⟩
  · refine OwnR.below (w := w3.setCell ⟨g, k, none⟩ (.int .u64 d)) ?_ hbs
    unfold OwnR
    rw [List.map_set]
    exact hst.1
  · have h1 := h.bel.trans (hb.mono h.bel.size)
    exact (h1.setCell (p := ⟨g, k, none⟩) h.own.lt.1 _).trans (hb5.mono h1.size)

theorem RDivRel.skip {w1 : World} {g c L k : Nat} {ds : List Int} {V : Int} {ro so : Option Addr} {nr cr sm sc : Nat} {rs qs ss : List Int} {rv tv : Int} {wr w3 : World} (h : RDivRel w1 g c L (k + 1) ds V ro nr cr rs qs rv wr) (hd : Halves ds) (ht : tv = rv * HH + lim ds k) (hlt : tv < V)
    (hb : Below wr.heap.size wr w3) (hss : RowAt w3 so sm sc ss) (hn : Num ss tv) :
    RDivRel w1 g c L k ds V so sm sc ss qs tv w3 :=
  ⟨hss, hn, h.own.below hb, h.bel.trans (hb.mono h.bel.size), rinv_skip h.inv hd ht hlt⟩

end Go.Proofs.YtnedghhcidohnaaGreat

/-! The reference's Add, Sub, Mul of layer 2. -/
namespace Go.Proofs.YtnedghhcidohnaaGreat
open Go.RowKit

set_option maxHeartbeats 1000000 in
theorem rnmul_any (ao bo : Option Addr) (na ca nb cb : Nat) (xs ys : List Int) (w : World) (ha : RowAt w ao na ca xs) (hb : RowAt w bo nb cb ys) :
    Calls Tryz.prog 92 #[.slice ao na ca, .slice bo nb cb] w fun e w' => ∃ ro m cap r k, e = .returned (.tuple #[.slice ro m cap, .int .i64 k]) ∧ RowAt w' ro m cap r ∧ Out (May xs ∧ May ys) (False) (val xs * val ys) r k ∧ Below w.heap.size w w' := by
  have HA : Hid _ := ha
  have HB : Hid _ := hb
  have la := ha.len
  have lb := hb.len
  clear ha hb
  by_cases hx : May xs
  · have hna : na ≤ 8 := by have := hx.1; omega
    have HX : Hid (May xs) := hx
    clear hx
    by_cases hy : May ys
    · have hnb : nb ≤ 8 := by have := hy.1; omega
      have HY : Hid (May ys) := hy
      clear hy la lb
      go_enter Tryz.func92, Tryz.ntmps92
      go_wp2_with fail
      refine (rmay_val _ _ _ xs _ HA.out true (yes_iff HX.out)).mono ?_
      rintro e w1 ⟨rfl, rfl⟩
      go_wp2_with fail
      refine (rmay_val _ _ _ ys _ HB.out true (yes_iff HY.out)).mono ?_
      rintro e w1 ⟨rfl, rfl⟩
      go_wp2_with fail
      refine (rmul_any _ _ _ _ _ _ xs ys _ HA.out HB.out (by omega) (by omega)).mono ?_
      rintro e w1 ⟨ro, m, cap, r, rfl, h1, h2, h3⟩
      have H1 : Hid _ := h1
      have H2 : Hid (Num r (val xs * val ys)) := h2
      have H3 : Hid _ := h3
      clear h1 h2 h3
      go_wp2_with fail
      refine (held_any _ _ _ r _ _ H1.out H2.out (May xs ∧ May ys) ⟨HX.out, HY.out⟩).mono ?_
      rintro e w2 ⟨⟨ro, m, cap, s, k, rfl, g1, g2⟩, rfl⟩
      have G1 : Hid _ := g1
      have G2 : Hid (Out (May xs ∧ May ys) False (val xs * val ys) s k) := g2
      clear g1 g2
      go_wp2
      go_ret2
      exact ⟨ro, m, cap, s, k, rfl, G1.out, G2.out, H3.out⟩
    · have HY : Hid (¬ May ys) := hy
      clear hy la lb
      go_enter Tryz.func92, Tryz.ntmps92
      go_wp2_with fail
      refine (rmay_val _ _ _ xs _ HA.out true (yes_iff HX.out)).mono ?_
      rintro e w1 ⟨rfl, rfl⟩
      go_wp2_with fail
      refine (rmay_val _ _ _ ys _ HB.out false (no_iff HY.out)).mono ?_
      rintro e w1 ⟨rfl, rfl⟩
      go_wp2
      go_ret2
      exact ⟨none, 0, 0, [], 1, rfl, RowAt.nil _, .arg (fun h => HY.out h.2), Below.refl _ _⟩
  · have HX : Hid (¬ May xs) := hx
    clear hx la lb
    go_enter Tryz.func92, Tryz.ntmps92
    go_wp2_with fail
    refine (rmay_val _ _ _ xs _ HA.out false (no_iff HX.out)).mono ?_
    rintro e w1 ⟨rfl, rfl⟩
    go_wp2
    go_ret2
    exact ⟨none, 0, 0, [], 1, rfl, RowAt.nil _, .arg (fun h => HX.out h.1), Below.refl _ _⟩

end Go.Proofs.YtnedghhcidohnaaGreat
