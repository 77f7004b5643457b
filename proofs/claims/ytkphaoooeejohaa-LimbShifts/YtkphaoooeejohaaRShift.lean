/-
  The reference's power, half and Shift.
-/
import Derived.Test.YtkphaoooeejohaaRMul
import Derived.Test.YtkphaoooeejohaaShift
namespace Go.Proofs.Ytkphaoooeejohaa
open Go.RowKit

theorem val_zero_row (k : Nat) : val (List.replicate k 0) = 0 := by
  induction k with
  | zero => rfl
  | succ k ih => rw [List.replicate_succ, val, ih]; simp
theorem limbs_zeros (k : Nat) : Limbs (List.replicate k 0) := fun x hx => by rw [List.eq_of_mem_replicate hx]; exact ⟨Int.le_refl _, BB_pos⟩

theorem pow_small {r : Nat} (h : r ≤ 63) : (2 : Int) ^ r < BB := by
  have h1 := split_BB (show r ≤ 64 by omega)
  have h2 : (2 : Int) ≤ 2 ^ (64 - r) := by
    have e : (64 - r) = (63 - r) + 1 := by omega
    rw [e, Int.pow_succ]
    have := two_pos (63 - r)
    omega
  have h3 := two_pos r
  have h4 := Int.mul_le_mul_of_nonneg_left h2 (Int.le_of_lt h3)
  omega

set_option maxRecDepth 100000 in
set_option maxHeartbeats 1000000 in
theorem power_any (n : Nat) (w : World) (hn : n ≤ 1000) :
    Calls Try.prog 44 #[.int .i64 n] w fun e w' => ∃ ro m cp r, e = .returned (.slice ro m cp) ∧ RowAt w' ro m cp r ∧ val r = 2 ^ n ∧ m ≤ 20 ∧ Below w.heap.size w w' := by
  obtain ⟨i0, hi, hz0, hz1, hz2⟩ := info_parts Try.info36
  go_enter Try.func44, Try.ntmps44
  go_wp2
  go_loopw [3, 4] (fun o i wr => ∃ k g c : Nat, k ≤ n / 64 ∧ i = .int .i64 k ∧ o = .slice (some ⟨g, 0, none⟩) k c ∧ OwnR wr w.heap.size g k c (List.replicate k 0) ∧ Below w.heap.size w wr) (fun _ i _ => n / 64 - (intOf i).toNat)
  case atStart => exact ⟨0, w.heap.size, 0, Nat.zero_le _, rfl, rfl, OwnR.nil w, (Below.refl _ _).alloc (Nat.le_refl _) _⟩
  case round =>
    obtain ⟨k, g, c, hk, rfl, rfl, hown, hbel⟩ := hrel
    have HO : Hid (OwnR wr w.heap.size g k c (List.replicate k 0)) := hown
    have HBB : Hid (Below w.heap.size w wr) := hbel
    have hgw := hown.lt
    have hsz : w.heap.size ≤ wr.heap.size := hbel.size
    clear hown hbel
    by_cases hlt1 : k < n / 64
    · have t1 : (k : Int) < (n : Int) / 64 := by omega
      go_wp2_with (at_builtin; refine wpList_append_lies _ rfl (.tmp 12) (.tmp 13) 22 rfl w.heap.size 36 i0 (.int .u64 0) 1 8 Try.underlying22 hi hz0 hz1 hz2 rfl (by decide) _ k ((List.replicate k (0 : Int)).map (Value.int .u64)) rfl (HO.out.alloc _) ⟨wr.heap.size, 0, none⟩ 1 1 [.int .u64 0] rfl rfl (World.news_of_block (cs := #[.int .u64 0]) (t := 36) (fr := (0, 0)) (heap_alloc_new wr _)) (by simp [Value.oneCell']) (by omega) (by unfold maxLen; omega) (by omega) (by simp; omega) (wr.heap.size + 1) (by simp) ?_)
      intro gg cp w3 hown1 hgrow _ _
      have HN : Hid (OwnR w3 w.heap.size gg (k + 1) cp (List.replicate (k + 1) 0)) := by
        show OwnR w3 w.heap.size gg (k + 1) cp (List.replicate (k + 1) 0)
        unfold OwnR
        rw [List.replicate_succ', List.map_append]
        simpa using hown1
      have HG : Hid (Below w.heap.size w w3) := (HBB.out.alloc hsz _).grown hgrow (by simp; omega) (fun j hj => by cases hj; exact hgw.1)
      clear hown1 hgrow
      go_wp2_with fail
      go_roundw
      case rel => exact ⟨k + 1, gg, cp, by omega, by go_num, rfl, HN.out, HG.out⟩
      case measure => simp [intOf]; omega
    · have t1 : ¬ (k : Int) < (n : Int) / 64 := by omega
      have hr0 : (0 : Int) ≤ (n : Int) % 64 := by omega
      have hr1 : (n : Int) % 64 ≤ 63 := by omega
      have HK : Hid (k = n / 64) := by show k = n / 64; omega
      go_wp2_with (at_builtin; refine wpList_append_lies _ rfl (.tmp 15) (.tmp 19) 22 rfl w.heap.size 36 i0 (.int .u64 0) 1 8 Try.underlying22 hi hz0 hz1 hz2 rfl (by decide) _ k ((List.replicate k (0 : Int)).map (Value.int .u64)) rfl (HO.out.alloc _) ⟨wr.heap.size, 0, none⟩ 1 1 [.int .u64 (IntKind.u64.wrap ((2 : Int) ^ (n % 64)))] rfl rfl (World.news_of_block (cs := #[.int .u64 (IntKind.u64.wrap ((2 : Int) ^ (n % 64)))]) (t := 36) (fr := (0, 0)) (heap_alloc_new wr _)) (by simp [Value.oneCell']) (by omega) (by unfold maxLen; omega) (by omega) (by simp; omega) (wr.heap.size + 1) (by simp) ?_)
      intro gg cp w3 hown1 hgrow _ _
      have e : IntKind.u64.wrap ((2 : Int) ^ (n % 64)) = 2 ^ (n % 64) := by rw [wrapU, Int.emod_eq_of_lt (Int.le_of_lt (two_pos _)) (pow_small (by omega))]
      have HR : Hid (RowAt w3 (some ⟨gg, 0, none⟩) (k + 1) cp (List.replicate k 0 ++ [2 ^ (n % 64)])) := by
        show RowAt w3 (some ⟨gg, 0, none⟩) (k + 1) cp (List.replicate k 0 ++ [2 ^ (n % 64)])
        refine OwnR.row (base := w.heap.size) ?_ (limbs_snoc (limbs_zeros k) (Int.le_of_lt (two_pos _)) (pow_small (by omega)))
        unfold OwnR
        rw [List.map_append, List.map_singleton, ← e]
        simpa using hown1
      have HG : Hid (Below w.heap.size w w3) := (HBB.out.alloc hsz _).grown hgrow (by simp; omega) (fun j hj => by cases hj; exact hgw.1)
      clear hown1 hgrow e
      go_wp2_with fail
      go_ret
      refine ⟨_, _, _, _, rfl, HR.out, ?_, by omega, HG.out⟩
      rw [val_snoc, val_zero_row, List.length_replicate, HK.out]
      have hp := pow_split (n / 64) (n % 64)
      rw [show 64 * (n / 64) + n % 64 = n by omega] at hp
      rw [hp, Int.mul_comm]
      simp

theorem half_limb {x y : Int} (hx0 : 0 ≤ x) (hx : x < BB) : 0 ≤ x / 2 + y % 2 * 9223372036854775808 ∧ x / 2 + y % 2 * 9223372036854775808 < BB := by unfold BB at *; omega

theorem half_step {v a x y q P : Int} (h : 2 * v + a = q + x % 2 * P) : 2 * (v + (x / 2 + y % 2 * 9223372036854775808) * P) + a = (q + x * P) + y % 2 * (P * BB) := by
  have h1 : x = 2 * (x / 2) + x % 2 := by omega
  have h2 : x * P = 2 * (x / 2) * P + x % 2 * P := by
    have : (2 * (x / 2) + x % 2) * P = x * P := by rw [← h1]
    grind
  have h3 : y % 2 * (P * BB) = 2 * (y % 2 * 9223372036854775808 * P) := by unfold BB; grind
  rw [h2, h3]
  grind

/-- What the loop of half holds. -/
structure HalfInv (w : World) (xs : List Int) (k g c : Nat) (zs : List Int) (wr : World) : Prop where
  own : OwnR wr w.heap.size g k c zs
  bel : Below w.heap.size w wr
  limbs : Limbs zs
  len : zs.length = k
  val : 2 * val zs + lim xs 0 % 2 = pv xs k + lim xs k % 2 * BB ^ k

theorem HalfInv.next {w : World} {xs : List Int} {k g c : Nat} {zs : List Int} {wr : World} (h : HalfInv w xs k g c zs wr) (hx : Limbs xs) {v : Int} (hv : v = lim xs k / 2 + lim xs ((k + 1 : Nat) : Int) % 2 * 9223372036854775808)
    {gg cp : Nat} {w1 : World} (ho : OwnR w1 w.heap.size gg (k + 1) cp (zs ++ [v])) (hg : (wr.alloc (Obj.cells #[.int .u64 v] 36)).grownBy w1 (some g)) : HalfInv w xs (k + 1) gg cp (zs ++ [v]) w1 := by
  have b1 := lim_bd hx k
  have hb := half_limb (y := lim xs ((k + 1 : Nat) : Int)) b1.1 b1.2
  rw [← hv] at hb
  have hgw := h.own.lt
  refine ⟨ho, (h.bel.alloc h.bel.size _).grown hg (by simp; have := h.bel.size; omega) (fun j hj => by cases hj; exact hgw.1), limbs_snoc h.limbs hb.1 hb.2, by simp [h.len], ?_⟩
  rw [val_snoc, h.len, pv, pw_succ, hv]
  exact half_step h.val

set_option maxRecDepth 100000 in
set_option maxHeartbeats 1000000 in
theorem half_any (ao : Option Addr) (n cap : Nat) (xs : List Int) (w : World) (h : RowAt w ao n cap xs) (hn : n ≤ 100000) :
    Calls Try.prog 45 #[.slice ao n cap] w fun e w' => ∃ ro m cp r, e = .returned (.slice ro m cp) ∧ RowAt w' ro m cp r ∧ Num r (val xs / 2) ∧ m ≤ n ∧ Below w.heap.size w w' := by
  obtain ⟨i0, hi, hz0, hz1, hz2⟩ := info_parts Try.info36
  by_cases h0 : n = 0
  · have hx : xs = [] := List.length_eq_zero_iff.1 (h.len.trans h0)
    subst h0
    subst hx
    have HR : Hid (RowAt (w.alloc (Obj.cells #[] 36)) (some ⟨w.heap.size, 0, none⟩) 0 0 []) := (OwnR.nil w).row (by intro x hx; simp at hx)
    clear h
    go_enter Try.func45, Try.ntmps45
    go_wp2
    refine wp_loop_rounds 1 ?_
    rw [rounds_succ]
    go_wp2_with fail
    refine (rtrim_any _ _ _ [] _ HR.out (by omega)).mono ?_
    rintro e w1 ⟨ro, m, cp, r, rfl, h1, h2, h3, h4⟩
    go_wp2
    go_ret
    exact ⟨ro, m, cp, r, rfl, h1, h2, h3, chain ((Below.refl _ _).alloc (Nat.le_refl _) _) h4⟩
  · obtain ⟨b, off, rfl, hlt, _⟩ := h.cells (by intro e; have := h.len; rw [e] at this; simp at this; omega)
    have HL : Hid (xs.length = n) := h.len
    have HM : Hid (Limbs xs) := h.limbs
    have HC : Hid (∀ j, j < n → w.cell? ⟨b, off + j, none⟩ = some (.int .u64 (lim xs j))) := fun j hj => h.cellAt j hj
    clear h
    go_enter Try.func45, Try.ntmps45
    go_wp2
    go_loopw [3, 4, 5] (fun o i _ wr => ∃ (k g c : Nat) (zs : List Int), k ≤ n ∧ i = .int .i64 k ∧ o = .slice (some ⟨g, 0, none⟩) k c ∧ HalfInv w xs k g c zs wr) (fun _ i _ _ => n - (intOf i).toNat)
    case atStart => exact ⟨0, w.heap.size, 0, [], Nat.zero_le _, rfl, rfl, ⟨OwnR.nil w, (Below.refl _ _).alloc (Nat.le_refl _) _, by intro x hx; simp at hx, rfl, by simp [val, pv]⟩⟩
    case round =>
      obtain ⟨k, g, c, zs, hk, rfl, rfl, hinv⟩ := hrel
      have HI : Hid (HalfInv w xs k g c zs wr) := hinv
      have hgw := hinv.own.lt
      have hsz : w.heap.size ≤ wr.heap.size := hinv.bel.size
      by_cases hlt2 : k < n
      · have hcx : wr.cell? ⟨b, off + k, none⟩ = some (.int .u64 (lim xs k)) := (hinv.bel.cell (p := ⟨b, off + k, none⟩) hlt).trans (HC.out k hlt2)
        have bx := lim_bd HM.out k
        obtain ⟨x, hx⟩ : ∃ x, x = lim xs k := ⟨_, rfl⟩
        rw [← hx] at hcx bx
        have EX : Hid (x = lim xs k) := hx
        have x0 := bx.1
        have x1 : x ≤ 18446744073709551615 := by have := bx.2; unfold BB at this; omega
        by_cases hlt3 : k + 1 < n
        · have hcy : wr.cell? ⟨b, off + (k + 1), none⟩ = some (.int .u64 (lim xs ((k + 1 : Nat) : Int))) := (hinv.bel.cell (p := ⟨b, off + (k + 1), none⟩) hlt).trans (HC.out (k + 1) hlt3)
          have bY := lim_bd HM.out ((k + 1 : Nat) : Int)
          obtain ⟨y, hy⟩ : ∃ y, y = lim xs ((k + 1 : Nat) : Int) := ⟨_, rfl⟩
          rw [← hy] at hcy bY
          have EY : Hid (y = lim xs ((k + 1 : Nat) : Int)) := hy
          have y0 := bY.1
          have y1 : y ≤ 18446744073709551615 := by have := bY.2; unfold BB at this; omega
          clear hinv hx hy bx bY
          go_wp2_with (at_builtin; refine wpList_append_lies _ rfl (.tmp 32) (.tmp 34) 22 rfl w.heap.size 36 i0 (.int .u64 0) 1 8 Try.underlying22 hi hz0 hz1 hz2 rfl (by decide) _ k (zs.map (Value.int .u64)) rfl (HI.out.own.alloc _) ⟨wr.heap.size, 0, none⟩ 1 1 [.int .u64 (x / 2 + y % 2 * 9223372036854775808)] rfl rfl (World.news_of_block (cs := #[.int .u64 (x / 2 + y % 2 * 9223372036854775808)]) (t := 36) (fr := (0, 0)) (heap_alloc_new wr _)) (by simp [Value.oneCell']) (by omega) (by unfold maxLen; omega) (by omega) (by simp; omega) (wr.heap.size + 1) (by simp) ?_)
          intro gg cp w3 hown1 hgrow _ _
          have hr := HI.out.next HM.out (v := x / 2 + y % 2 * 9223372036854775808) (by rw [EX.out, EY.out]) (by unfold OwnR; rw [List.map_append]; exact hown1) hgrow
          have HR : Hid _ := hr
          clear hr hown1 hgrow
          go_wp2_with fail
          go_roundw
          case rel => exact ⟨k + 1, gg, cp, _, by omega, by go_num, rfl, HR.out⟩
          case measure => simp [intOf]; omega
        · have HV : Hid (x / 2 = lim xs k / 2 + lim xs ((k + 1 : Nat) : Int) % 2 * 9223372036854775808) := by
            show x / 2 = lim xs k / 2 + lim xs ((k + 1 : Nat) : Int) % 2 * 9223372036854775808
            rw [EX.out, lim_past xs (k + 1) (by have := HL.out; omega)]
            simp
          clear hinv hx bx
          go_wp2_with (at_builtin; refine wpList_append_lies _ rfl (.tmp 32) (.tmp 34) 22 rfl w.heap.size 36 i0 (.int .u64 0) 1 8 Try.underlying22 hi hz0 hz1 hz2 rfl (by decide) _ k (zs.map (Value.int .u64)) rfl (HI.out.own.alloc _) ⟨wr.heap.size, 0, none⟩ 1 1 [.int .u64 (x / 2)] rfl rfl (World.news_of_block (cs := #[.int .u64 (x / 2)]) (t := 36) (fr := (0, 0)) (heap_alloc_new wr _)) (by simp [Value.oneCell']) (by omega) (by unfold maxLen; omega) (by omega) (by simp; omega) (wr.heap.size + 1) (by simp) ?_)
          intro gg cp w3 hown1 hgrow _ _
          have hr := HI.out.next HM.out (v := x / 2) (HV.out) (by unfold OwnR; rw [List.map_append]; exact hown1) hgrow
          have HR : Hid _ := hr
          clear hr hown1 hgrow
          go_wp2_with fail
          go_roundw
          case rel => exact ⟨k + 1, gg, cp, _, by omega, by go_num, rfl, HR.out⟩
          case measure => simp [intOf]; omega
      · have HR : Hid (RowAt wr (some ⟨g, 0, none⟩) k c zs) := hinv.own.row hinv.limbs
        have HK : Hid (k = n) := by show k = n; omega
        clear hinv
        go_wp2_with fail
        refine (rtrim_any _ _ _ zs _ HR.out (by omega)).mono ?_
        rintro e w1 ⟨ro, m, cp, r, rfl, h1, h2, h3, h4⟩
        go_wp2
        go_ret
        refine ⟨ro, m, cp, r, rfl, h1, ?_, by omega, chain HI.out.bel h4⟩
        have hv := HI.out.val
        rw [HK.out, lim_past xs n (by have := HL.out; omega), pv_val xs n (by have := HL.out; omega)] at hv
        rw [show val zs = val xs / 2 by omega] at h2
        exact h2

theorem div_two (v : Int) (j : Nat) : v / 2 ^ j / 2 = v / 2 ^ (j + 1) := by
  rw [Int.pow_succ, Int.ediv_ediv_of_nonneg (Int.le_of_lt (two_pos j))]

set_option maxRecDepth 100000 in
set_option maxHeartbeats 1000000 in
theorem rshift_up (ao : Option Addr) (na ca : Nat) (n : Int) (xs : List Int) (w : World) (ha : RowAt w ao na ca xs) (hna : na ≤ 30000) (hn0 : 0 ≤ n) (hn1 : n ≤ 9223372036854775807) :
    Calls Try.prog 27 #[.slice ao na ca, .int .i64 n] w fun e w' => ∃ ro m cap r, e = .returned (.slice ro m cap) ∧ RowAt w' ro m cap r ∧ Num r (shiftI (val xs) n) ∧ Below w.heap.size w w' := by
  have HA : Hid (RowAt w ao na ca xs) := ha
  clear ha
  rcases Int.lt_or_le 1000 n with hge | hlt
  · go_enter Try.func27, Try.ntmps27
    go_wp2_with fail
    refine (power_any 1000 _ (by omega)).mono ?_
    rintro e w1 ⟨po, pm, pc, q, rfl, h1, h2, h3, h4⟩
    have P1 : Hid (RowAt w1 po pm pc q) := h1
    have HQ : Hid (val q = 2 ^ 1000) := h2
    have B1 : Hid (Below w.heap.size w w1) := h4
    clear h1 h2 h4
    go_wp2_with fail
    refine (rmul_any _ _ _ _ _ _ xs q _ (HA.out.below B1.out) P1.out (by omega) (by omega)).mono ?_
    rintro e w2 ⟨ro, m, cap, r, rfl, g1, g2, g3⟩
    go_wp2
    go_ret
    refine ⟨ro, m, cap, r, rfl, g1, ?_, chain B1.out g3⟩
    rw [HQ.out] at g2
    rw [shiftI, if_neg (by omega), if_neg (by omega), show (min n 1000).toNat = 1000 by omega]
    exact g2
  · obtain ⟨k, rfl⟩ := Int.eq_ofNat_of_zero_le hn0
    have hk : k ≤ 1000 := by omega
    go_enter Try.func27, Try.ntmps27
    go_wp2_with fail
    refine (power_any k _ hk).mono ?_
    rintro e w1 ⟨po, pm, pc, q, rfl, h1, h2, h3, h4⟩
    have P1 : Hid (RowAt w1 po pm pc q) := h1
    have HQ : Hid (val q = 2 ^ k) := h2
    have B1 : Hid (Below w.heap.size w w1) := h4
    clear h1 h2 h4
    go_wp2_with fail
    refine (rmul_any _ _ _ _ _ _ xs q _ (HA.out.below B1.out) P1.out (by omega) (by omega)).mono ?_
    rintro e w2 ⟨ro, m, cap, r, rfl, g1, g2, g3⟩
    go_wp2
    go_ret
    refine ⟨ro, m, cap, r, rfl, g1, ?_, chain B1.out g3⟩
    rw [HQ.out] at g2
    rw [shiftI, if_neg (by omega), if_neg (by omega), show (min (k : Int) 1000).toNat = k by omega]
    exact g2

set_option maxRecDepth 100000 in
set_option maxHeartbeats 1000000 in
theorem rshift_down (ao : Option Addr) (na ca N : Nat) (n : Int) (xs : List Int) (w : World) (ha : RowAt w ao na ca xs) (hna : na ≤ 30000) (hN : 0 < N) (hN1 : N ≤ 100000) (hn : n = -(N : Int)) :
    Calls Try.prog 27 #[.slice ao na ca, .int .i64 n] w fun e w' => ∃ ro m cap r, e = .returned (.slice ro m cap) ∧ RowAt w' ro m cap r ∧ Num r (val xs / 2 ^ N) ∧ Below w.heap.size w w' := by
  have HA : Hid (RowAt w ao na ca xs) := ha
  have hn1 : n ≤ -(N : Int) := by omega
  have hn2 : -(N : Int) ≤ n := by omega
  have hneg : ¬ 0 ≤ n := by omega
  clear ha hn
  go_enter Try.func27, Try.ntmps27
  go_wp2_with fail
  refine (rtrim_any _ _ _ xs _ HA.out (by omega)).mono ?_
  rintro e w1 ⟨to, tm, tc, t, rfl, h1, h2, h3, h4⟩
  have T1 : Hid (RowAt w1 to tm tc t) := h1
  have HT : Hid (Num t (val xs)) := h2
  have B1 : Hid (Below w.heap.size w w1) := h4
  clear h1 h2 h4 HA
  go_wp2_with fail
  go_loopw [5, 6] (fun o i wr => ∃ (j m c : Nat) (q : Option Addr) (r : List Int), j ≤ N ∧ i = .int .i64 (-(j : Int)) ∧ o = .slice q m c ∧ RowAt wr q m c r ∧ Num r (val xs / 2 ^ j) ∧ m ≤ na ∧ Below w.heap.size w wr) (fun _ i _ => N - (-(intOf i)).toNat)
  case atStart => exact ⟨0, tm, tc, to, t, Nat.zero_le _, rfl, rfl, T1.out, by simpa using HT.out, h3, B1.out⟩
  case round =>
    obtain ⟨j, m, c, q, r, hj, rfl, rfl, hr, hnum, hm, hbel⟩ := hrel
    have HR : Hid (RowAt wr q m c r) := hr
    have HN : Hid (Num r (val xs / 2 ^ j)) := hnum
    have HBB : Hid (Below w.heap.size w wr) := hbel
    clear hr hnum hbel T1 HT B1
    by_cases hjN : j < N
    · have t1 : n < -(j : Int) := by omega
      by_cases hm0 : m = 0
      · have t2 : ¬ (0 : Int) < (m : Int) := by omega
        have HZ : Hid (Num r (val xs / 2 ^ N)) := by
          show Num r (val xs / 2 ^ N)
          have hr := HN.out
          have e : r = [] := List.length_eq_zero_iff.1 (HR.out.len.trans hm0)
          have hv := hr.val
          rw [e] at hv
          simp [val] at hv
          have h2 : val xs / 2 ^ N = 0 := by
            have e2 : N = j + (N - j) := by omega
            rw [e2, Int.pow_add, ← Int.ediv_ediv_of_nonneg (Int.le_of_lt (two_pos j)), ← hv]
            simp
          rw [h2]
          rw [← hv] at hr
          exact hr
        clear hm0
        go_wp2_with fail
        go_ret
        exact ⟨q, m, c, rfl, r, HR.out, HZ.out, HBB.out⟩
      · have t2 : (0 : Int) < (m : Int) := by omega
        clear hm0
        go_wp2_with fail
        refine (half_any _ _ _ r _ HR.out (by omega)).mono ?_
        rintro e w2 ⟨ro, rm, rc, p, rfl, g1, g2, g3, g4⟩
        have G1 : Hid (RowAt w2 ro rm rc p) := g1
        have G2 : Hid (Num p (val xs / 2 ^ (j + 1))) := by
          show Num p (val xs / 2 ^ (j + 1))
          rw [HN.out.val, div_two] at g2
          exact g2
        have G4 : Hid (Below w.heap.size w w2) := chain HBB.out g4
        clear g1 g2 g4
        go_wp2_with fail
        go_roundw
        case rel => exact ⟨j + 1, rm, rc, ro, p, by omega, by go_num, rfl, G1.out, G2.out, by omega, G4.out⟩
        case measure => simp [intOf]; omega
    · have t1 : ¬ n < -(j : Int) := by omega
      have HJ : Hid (j = N) := by show j = N; omega
      go_wp2_with fail
      go_ret
      exact ⟨q, m, c, rfl, r, HR.out, by rw [← HJ.out]; exact HN.out, HBB.out⟩
end Go.Proofs.Ytkphaoooeejohaa
