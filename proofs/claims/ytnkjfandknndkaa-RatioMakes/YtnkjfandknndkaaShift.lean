/-
  limb.Shift: a row times a power of 2, or by one, rounded down.
-/
import Derived.Test.YtnkjfandknndkaaShift1
import Derived.Test.YtnkjfandknndkaaMul
namespace Go.Proofs.Ytnkjfandknndkaa
open Go.RowKit

/-- What the closures of both shifts hold. -/
def ShInv (w0 : World) (pa pl pr : Nat) (av : Value) (l r : Nat) (wr : World) : Prop :=
  Below w0.heap.size w0 wr ∧ wr.heap[pa]? = some (.cells #[av] 22 (0, 0)) ∧ wr.heap[pl]? = some (.cells #[.int .i64 l] 3 (0, 0)) ∧ wr.heap[pr]? = some (.cells #[.int .i64 r] 3 (0, 0))

theorem ShInv.keep {w0 : World} {pa pl pr : Nat} {av : Value} {l r : Nat} {W w1 w2 : World} (hW : ShInv w0 pa pl pr av l r W) (h : ShInv w0 pa pl pr av l r w1) (hb : Below W.heap.size w1 w2) : ShInv w0 pa pl pr av l r w2 :=
  ⟨h.1.trans (hb.mono hW.1.size), heapAt hb (lt_of_block hW.2.1) h.2.1, heapAt hb (lt_of_block hW.2.2.1) h.2.2.1, heapAt hb (lt_of_block hW.2.2.2) h.2.2.2⟩
theorem ShInv.eqw {w0 : World} {pa pl pr : Nat} {av : Value} {l r : Nat} {w1 w2 : World} (h : ShInv w0 pa pl pr av l r w1) (hq : Eqw w2 w1) : ShInv w0 pa pl pr av l r w2 :=
  ⟨hq.below h.1, by rw [hq.heap]; exact h.2.1, by rw [hq.heap]; exact h.2.2.1, by rw [hq.heap]; exact h.2.2.2⟩

set_option maxHeartbeats 400000 in
theorem up_core (ao : Option Addr) (na ca pa pl pr l r : Nat) (N : Int) (xs : List Int) (w0 W : World) (ha : RowAt w0 ao na ca xs) (hna : na ≤ 400000) (hl : l ≤ 400000) (hr : r ≤ 63) (hN : N = ((l + (na + 1) : Nat) : Int))
    (hW : ShInv w0 pa pl pr (.slice ao na ca) l r W) :
    Calls Try.prog 84 #[.int .i64 N, .func (.func 98) #[] #[.pointer (some ⟨pa, 0, none⟩), .pointer (some ⟨pl, 0, none⟩), .pointer (some ⟨pr, 0, none⟩)]] W fun e w' =>
      ∃ ro m cap rr, e = .returned (.slice ro m cap) ∧ RowAt w' ro m cap rr ∧ Num rr (val xs * 2 ^ (64 * l + r)) ∧ m ≤ l + (na + 1) ∧ Below w0.heap.size w0 w' := by
  subst hN
  refine (build_any (l + (na + 1)) 98 _ (fun zs wr => ShInv w0 pa pl pr (.slice ao na ca) l r wr ∧ val zs + lim xs ((zs.length : Int) - l - 1) / 2 ^ (64 - r) * BB ^ zs.length = 2 ^ r * pvu xs l zs.length) W (by omega) ?_ (fun _ _ => by simp) ?_ ?_).mono ?_
  · refine ⟨hW, ?_⟩
    rw [lim_neg _ _ (by simp; omega)]
    simp [val, pvu]
  · rintro zs w1 w2 ⟨h1, h2⟩ hb12
    exact ⟨hW.keep h1 hb12, h2⟩
  · rintro zs wr hlt ⟨h1, hval⟩
    have hb := upv_bd ha.limbs l hr zs.length
    refine (up1_any ao na ca pa pl pr l r xs zs.length wr (by omega) (by omega) hr (ha.below h1.1) (cell_of_one h1.2.1) (cell_of_one h1.2.2.1) (cell_of_one h1.2.2.2)).mono ?_
    rintro e w' ⟨rfl, hq⟩
    refine ⟨_, rfl, hb.1, hb.2.1, ⟨h1.eqw hq, ?_⟩, ?_, ?_⟩
    · rw [val_snoc, List.length_append, List.length_singleton, pw_succ, pvu, show (((zs.length + 1 : Nat) : Int) - l - 1) = (zs.length : Int) - l by omega]
      exact up_step (by omega) hval
    · intro k hk; rw [hq.heap]
    · rw [hq.heap]
  · rintro e w' ⟨ro, cap, m, zs, rfl, hlen, hlm, htl, hrow, h1, hval⟩
    refine ⟨ro, m, cap, _, rfl, hrow, ?_, by have := htl.1; omega, h1.1⟩
    have hnum := Num.ofTl hlm htl
    have e : val zs = val xs * 2 ^ (64 * l + r) := by
      rw [hlen, pvu_high, pv_val xs _ (by have := ha.len; omega), show (((l + (na + 1) : Nat) : Int) - l - 1) = (na : Int) by omega, lim_past _ _ (by have := ha.len; omega)] at hval
      rw [pow_split]
      simp at hval
      rw [hval]
      grind
    rw [e] at hnum
    exact hnum

set_option maxHeartbeats 400000 in
theorem dn_core (ao : Option Addr) (na ca pa pl pr l r n : Nat) (N : Int) (xs : List Int) (w0 W : World) (ha : RowAt w0 ao na ca xs) (hna : na ≤ 400000) (hl : l ≤ 400000) (hr : r ≤ 63) (hn : n = na - l) (hN : N = (n : Int))
    (hW : ShInv w0 pa pl pr (.slice ao na ca) l r W) :
    Calls Try.prog 84 #[.int .i64 N, .func (.func 97) #[] #[.pointer (some ⟨pa, 0, none⟩), .pointer (some ⟨pl, 0, none⟩), .pointer (some ⟨pr, 0, none⟩)]] W fun e w' =>
      ∃ ro m cap rr, e = .returned (.slice ro m cap) ∧ RowAt w' ro m cap rr ∧ Num rr (val xs / 2 ^ (64 * l + r)) ∧ m ≤ na ∧ Below w0.heap.size w0 w' := by
  subst hN
  refine (build_any n 97 _ (fun zs wr => ShInv w0 pa pl pr (.slice ao na ca) l r wr ∧ 2 ^ r * val zs + lim xs l % 2 ^ r = pvd xs l zs.length + lim xs ((zs.length : Int) + l) % 2 ^ r * BB ^ zs.length) W (by omega) ?_ (fun _ _ => by simp) ?_ ?_).mono ?_
  · refine ⟨hW, ?_⟩
    simp [val, pvd]
  · rintro zs w1 w2 ⟨h1, h2⟩ hb12
    exact ⟨hW.keep h1 hb12, h2⟩
  · rintro zs wr hlt ⟨h1, hval⟩
    have hb := dnv_bd ha.limbs l hr zs.length
    refine (dn1_any ao na ca pa pl pr l r xs zs.length wr (by omega) (by omega) hr (ha.below h1.1) (cell_of_one h1.2.1) (cell_of_one h1.2.2.1) (cell_of_one h1.2.2.2)).mono ?_
    rintro e w' ⟨rfl, hq⟩
    refine ⟨_, rfl, hb.1, hb.2.1, ⟨h1.eqw hq, ?_⟩, ?_, ?_⟩
    · rw [val_snoc, List.length_append, List.length_singleton, pw_succ, pvd, show (((zs.length + 1 : Nat) : Int) + l) = (zs.length : Int) + l + 1 by omega]
      exact dn_step (by omega) hval
    · intro k hk; rw [hq.heap]
    · rw [hq.heap]
  · rintro e w' ⟨ro, cap, m, zs, rfl, hlen, hlm, htl, hrow, h1, hval⟩
    refine ⟨ro, m, cap, _, rfl, hrow, ?_, by have := htl.1; omega, h1.1⟩
    have hnum := Num.ofTl hlm htl
    have e : val zs = val xs / 2 ^ (64 * l + r) := by
      have hxl := ha.len
      rw [hlen, show ((n : Int) + l) = ((n + l : Nat) : Int) by omega, lim_past xs (n + l) (by omega), val_drop ha.limbs l n (by omega)] at hval
      simp at hval
      rw [pow_split, ← Int.ediv_ediv_of_nonneg (Int.le_of_lt (pw_pos l))]
      exact dn_end hval (Int.emod_nonneg _ (by have := two_pos r; omega)) (Int.emod_lt_of_pos _ (two_pos r))
    rw [e] at hnum
    exact hnum

theorem three_blocks (w : World) (o o' o'' : Obj) : (((w.alloc o).alloc o').alloc o'').heap[w.heap.size]? = some o ∧ (((w.alloc o).alloc o').alloc o'').heap[w.heap.size + 1]? = some o' ∧ (((w.alloc o).alloc o').alloc o'').heap[w.heap.size + 1 + 1]? = some o'' := by
  refine ⟨?_, ?_, ?_⟩
  · rw [Below.heap_alloc _ _ _ (by simp <;> omega), Below.heap_alloc _ _ _ (by simp)]; exact heap_alloc_new w _
  · rw [Below.heap_alloc _ _ _ (by simp)]; have := heap_alloc_new (w.alloc o) o'; simpa using this
  · have := heap_alloc_new ((w.alloc o).alloc o') o''; simpa using this
theorem below3s (w : World) (o o' o'' : Obj) : Below w.heap.size w (((w.alloc o).alloc o').alloc o'') := (((Below.refl _ _).alloc (Nat.le_refl _) o).alloc (by simp) o').alloc (by simp <;> omega) o''

theorem sh_start (w : World) (v : Value) (n : Nat) : ShInv w w.heap.size (w.heap.size + 1) (w.heap.size + 1 + 1) v (n / 64) (n % 64)
    (((w.alloc (Obj.cells #[v] 22)).alloc (Obj.cells #[Value.int IntKind.i64 ((n : Int) / 64)] 3)).alloc (Obj.cells #[Value.int IntKind.i64 ((n : Int) % 64)] 3)) := by
  have h := three_blocks w (Obj.cells #[v] 22) (Obj.cells #[Value.int IntKind.i64 ((n : Int) / 64)] 3) (Obj.cells #[Value.int IntKind.i64 ((n : Int) % 64)] 3)
  exact ⟨below3s _ _ _ _, h.1, h.2.1, h.2.2⟩

set_option maxHeartbeats 400000 in
theorem shiftUp_any (ao : Option Addr) (na ca n : Nat) (xs : List Int) (w : World) (ha : RowAt w ao na ca xs) (hna : na ≤ 300000) (hn : n ≤ 1000) :
    Calls Try.prog 95 #[.slice ao na ca, .int .i64 n] w fun e w' => ∃ ro m cap r, e = .returned (.slice ro m cap) ∧ RowAt w' ro m cap r ∧ Num r (val xs * 2 ^ n) ∧ m ≤ na + 17 ∧ Below w.heap.size w w' := by
  have hmf : ∀ (fn : Fn) (first cap : Array Value) (w : World), (Instr.makeFunc fn first cap).run Try.prog w = .ok (.func fn first cap) w := fun _ _ _ _ => rfl
  have HA : Hid (RowAt w ao na ca xs) := ha
  have HS : Hid _ := sh_start w (.slice ao na ca) n
  clear ha
  go_enter Try.func95, Try.ntmps95
  go_wp2_with fail
  refine (up_core ao na ca _ _ _ (n / 64) (n % 64) _ xs w _ HA.out (by omega) (by omega) (by omega) (by omega) HS.out).mono ?_
  rintro e w1 ⟨ro, m, cap, r, rfl, h1, h2, h3, h4⟩
  go_wp2
  go_ret
  exact ⟨ro, m, cap, r, rfl, h1, by rw [show 64 * (n / 64) + n % 64 = n by omega] at h2; exact h2, by omega, h4⟩

set_option maxHeartbeats 400000 in
theorem shiftDown_any (ao : Option Addr) (na ca n : Nat) (xs : List Int) (w : World) (ha : RowAt w ao na ca xs) (hna : na ≤ 300000) (hn : n ≤ 100000) :
    Calls Try.prog 94 #[.slice ao na ca, .int .i64 n] w fun e w' => ∃ ro m cap r, e = .returned (.slice ro m cap) ∧ RowAt w' ro m cap r ∧ Num r (val xs / 2 ^ n) ∧ m ≤ na ∧ Below w.heap.size w w' := by
  have hmf : ∀ (fn : Fn) (first cap : Array Value) (w : World), (Instr.makeFunc fn first cap).run Try.prog w = .ok (.func fn first cap) w := fun _ _ _ _ => rfl
  have HA : Hid (RowAt w ao na ca xs) := ha
  have HS : Hid _ := sh_start w (.slice ao na ca) n
  clear ha
  rcases Nat.lt_or_ge na (n / 64) with hlt | hge
  · have hlt' : (na : Int) - (n : Int) / 64 < 0 := by omega
    go_enter Try.func94, Try.ntmps94
    go_wp2_with fail
    refine (dn_core ao na ca _ _ _ (n / 64) (n % 64) (na - n / 64) _ xs w _ HA.out (by omega) (by omega) (by omega) rfl (by omega) HS.out).mono ?_
    rintro e w1 ⟨ro, m, cap, r, rfl, h1, h2, h3, h4⟩
    go_wp2
    go_ret
    exact ⟨ro, m, cap, r, rfl, h1, by rw [show 64 * (n / 64) + n % 64 = n by omega] at h2; exact h2, h3, h4⟩
  · have hge' : 0 ≤ (na : Int) - (n : Int) / 64 := by omega
    go_enter Try.func94, Try.ntmps94
    go_wp2_with fail
    refine (dn_core ao na ca _ _ _ (n / 64) (n % 64) (na - n / 64) _ xs w _ HA.out (by omega) (by omega) (by omega) rfl (by omega) HS.out).mono ?_
    rintro e w1 ⟨ro, m, cap, r, rfl, h1, h2, h3, h4⟩
    go_wp2
    go_ret
    exact ⟨ro, m, cap, r, rfl, h1, by rw [show 64 * (n / 64) + n % 64 = n by omega] at h2; exact h2, h3, h4⟩

set_option maxRecDepth 100000 in
set_option maxHeartbeats 400000 in
theorem shift_any (ao : Option Addr) (na ca : Nat) (n : Int) (xs : List Int) (w : World) (ha : RowAt w ao na ca xs) (hna : na ≤ 300000) (hn0 : -9223372036854775808 ≤ n) (hn1 : n ≤ 9223372036854775807) :
    Calls Try.prog 80 #[.slice ao na ca, .int .i64 n] w fun e w' => ∃ ro m cap r, e = .returned (.slice ro m cap) ∧ RowAt w' ro m cap r ∧ Num r (shiftI (val xs) n) ∧ m ≤ na + 17 ∧ Below w.heap.size w w' := by
  obtain ⟨m1, t1⟩ := tl_ex xs
  have h1 : m1 ≤ na := by have := t1.1; have := ha.len; omega
  have hca : (m1 : Int) ≤ (ca : Int) := by have := ha.fits; omega
  have HA : Hid (RowAt w ao na ca xs) := ha
  have T1 : Hid (Tl xs m1) := t1
  clear ha t1
  by_cases hl : n < -100000
  · go_enter Try.func80, Try.ntmps80
    go_wp2_with fail
    go_ret
    exact ⟨none, 0, 0, [], rfl, RowAt.nil _, by rw [shiftI, if_pos hl]; exact Num.nil, by omega, Below.refl _ _⟩
  · by_cases hz : n < 0
    · obtain ⟨k, hk⟩ := Int.eq_ofNat_of_zero_le (show 0 ≤ -n by omega)
      have hk1 : k ≤ 100000 := by omega
      have HK : Hid (-n = (k : Int)) := hk
      clear hk
      go_enter Try.func80, Try.ntmps80
      go_wp2_with fail
      refine (trimLen_q _ _ _ m1 xs _ HA.out T1.out).mono ?_
      rintro e w1 ⟨rfl, hw⟩
      subst hw
      go_wp2_with fail
      rw [HK.out]
      refine (shiftDown_any _ _ _ k (xs.take m1) _ (HA.out.cut m1 h1) (by omega) hk1).mono ?_
      rintro e w2 ⟨ro, m, cap, r, rfl, g1, g2, g3, g4⟩
      go_wp2
      go_ret
      refine ⟨ro, m, cap, r, rfl, g1, ?_, by omega, g4⟩
      rw [T1.out.val] at g2
      rw [shiftI, if_neg (by omega), if_pos (by omega), HK.out]
      exact g2
    · rcases Int.lt_or_le 1000 n with hge | hlt
      · go_enter Try.func80, Try.ntmps80
        go_wp2_with fail
        refine (trimLen_q _ _ _ m1 xs _ HA.out T1.out).mono ?_
        rintro e w1 ⟨rfl, hw⟩
        subst hw
        go_wp2_with fail
        refine (shiftUp_any _ _ _ 1000 (xs.take m1) _ (HA.out.cut m1 h1) (by omega) (by omega)).mono ?_
        rintro e w2 ⟨ro, m, cap, r, rfl, g1, g2, g3, g4⟩
        go_wp2
        go_ret
        refine ⟨ro, m, cap, r, rfl, g1, ?_, by omega, g4⟩
        rw [T1.out.val] at g2
        rw [shiftI, if_neg (by omega), if_neg (by omega), show (min n 1000).toNat = 1000 by omega]
        exact g2
      · obtain ⟨k, rfl⟩ := Int.eq_ofNat_of_zero_le (show 0 ≤ n by omega)
        have hk1 : k ≤ 1000 := by omega
        go_enter Try.func80, Try.ntmps80
        go_wp2_with fail
        refine (trimLen_q _ _ _ m1 xs _ HA.out T1.out).mono ?_
        rintro e w1 ⟨rfl, hw⟩
        subst hw
        go_wp2_with fail
        refine (shiftUp_any _ _ _ k (xs.take m1) _ (HA.out.cut m1 h1) (by omega) hk1).mono ?_
        rintro e w2 ⟨ro, m, cap, r, rfl, g1, g2, g3, g4⟩
        go_wp2
        go_ret
        refine ⟨ro, m, cap, r, rfl, g1, ?_, by omega, g4⟩
        rw [T1.out.val] at g2
        rw [shiftI, if_neg (by omega), if_neg (by omega), show (min (k : Int) 1000).toNat = k by omega]
        exact g2
end Go.Proofs.Ytnkjfandknndkaa
