/-
  Joined: Common · Quot.
-/
import Derived.Test.YtnedghhcidohnaaGreatJA1
import Derived.Test.YtnedghhcidohnaaGreatDivide
import Derived.Test.YtnedghhcidohnaaGreatJH1

/-! quot.commonLimb and quot.common: what two have in common. -/
namespace Go.Proofs.YtnedghhcidohnaaGreat
open Go.RowKit

set_option maxHeartbeats 400000 in
theorem climb_any (a b : Int) (w : World) (ha : 0 ≤ a) (ha1 : a < BB) (hb : 0 ≤ b) (hb1 : b < BB) :
    Calls Tryz.prog 130 #[.int .u64 a, .int .u64 b] w fun e w' => e = .returned (.int .u64 (gcdI a b)) ∧ ∃ m, w' = w.drewN m := by
  obtain ⟨g, hg⟩ : ∃ g, gcdI a b = g := ⟨_, rfl⟩
  rw [hg]
  have HG : Hid (gcdI a b = g ∧ 0 ≤ a ∧ a < BB ∧ 0 ≤ b ∧ b < BB) := ⟨hg, ha, ha1, hb, hb1⟩
  clear hg ha1 hb1
  go_enter Tryz.func130, Tryz.ntmps130
  go_wp2_with fail
  go_loopg [0, 1] (b.toNat) (fun k s0 s1 wr => ∃ x y : Int, s0 = .int .u64 x ∧ s1 = .int .u64 y ∧ y.toNat ≤ k ∧ (gcdI x y = g ∧ 0 ≤ x ∧ x < BB ∧ 0 ≤ y ∧ y < BB) ∧ ∃ m, wr = w.drewN m)
  case atStart => exact ⟨a, b, rfl, rfl, Nat.le_refl _, HG.out, 0, rfl⟩
  case round =>
    clear HG ha hb a b
    obtain ⟨x, y, rfl, rfl, hk, hi, m, rfl⟩ := hrel
    have hx0 := hi.2.1
    have hy0 := hi.2.2.2.1
    have hy1 : y ≤ 18446744073709551615 := by have := hi.2.2.2.2; unfold BB at this; omega
    have HI : Hid _ := hi
    clear hi
    by_cases hy : 0 < y
    · have hyn : y ≠ 0 := by omega
      have ht : x.tmod y = x % y := Int.tmod_eq_emod_of_nonneg hx0
      have hm0 := Int.emod_nonneg x hyn
      have hm1 := Int.emod_lt_of_pos x hy
      have HJ : Hid (gcdI y (x % y) = g ∧ 0 ≤ y ∧ y < BB ∧ 0 ≤ x % y ∧ x % y < BB) := ⟨by rw [← gcdI_step hx0 hy0]; exact HI.out.1, hy0, HI.out.2.2.2.2, hm0, by have := HI.out.2.2.2.2; omega⟩
      go_wp2_with fail
      go_quiet (fail)
      go_wp2_with fail
      go_roundg ((x % y).toNat)
      case measure => omega
      case rel => exact ⟨y, x % y, rfl, rfl, Nat.le_refl _, HJ.out, m + nq, by rw [World.drewN_drewN]⟩
    · have HE : Hid (x = g) := by
        have h := HI.out.1
        rw [show y = 0 by omega, gcdI_zero hx0] at h
        exact h
      go_wp2_with fail
      go_ret
      exact ⟨ret_int HE.out, _, rfl⟩

theorem climb_g (a b g : Int) (w : World) (ha : 0 ≤ a) (ha1 : a < BB) (hb : 0 ≤ b) (hb1 : b < BB) (hg : gcdI a b = g) :
    Calls Tryz.prog 130 #[.int .u64 a, .int .u64 b] w fun e w' => e = .returned (.int .u64 g) ∧ Below w.heap.size w w' :=
  (climb_any a b w ha ha1 hb hb1).mono fun _ _ ⟨h1, m, h2⟩ => ⟨h1.trans (ret_int hg), h2 ▸ below_drewN (Below.refl _ _) m⟩

set_option maxRecDepth 100000 in
set_option maxHeartbeats 2000000 in
theorem common_any (ao bo : Option Addr) (na ca nb cb : Nat) (xs ys : List Int) (x0 y0 : Int) (w : World) (ha : RowAt w ao na ca xs) (hb : RowAt w bo nb cb ys) (hna : na ≤ 900) (hnb : nb ≤ 900) (nx : Num xs x0) (ny : Num ys y0) :
    Calls Tryz.prog 122 #[.slice ao na ca, .slice bo nb cb] w fun e w' => ∃ ro m cap r, e = .returned (.slice ro m cap) ∧ RowAt w' ro m cap r ∧ Num r (gcdI x0 y0) ∧ Below w.heap.size w w' := by
  obtain ⟨g, hg⟩ : ∃ g, gcdI x0 y0 = g := ⟨_, rfl⟩
  rw [hg]
  have H0 : Hid (RowAt w ao na ca xs ∧ RowAt w bo nb cb ys ∧ na ≤ 900 ∧ nb ≤ 900 ∧ Num xs x0 ∧ Num ys y0 ∧ gcdI x0 y0 = g ∧ Below w.heap.size w w) := ⟨ha, hb, hna, hnb, nx, ny, hg, Below.refl _ _⟩
  clear hg ha hb hna hnb nx ny
  go_enter Tryz.func122, Tryz.ntmps122
  go_wp2_with fail
  go_loopg [0, 1] (y0.toNat) (fun k s0 s1 wr => ∃ (ao bo : Option Addr) (na ca nb cb : Nat) (xs ys : List Int) (x y : Int), s0 = .slice ao na ca ∧ s1 = .slice bo nb cb ∧ y.toNat ≤ k ∧ (RowAt wr ao na ca xs ∧ RowAt wr bo nb cb ys ∧ na ≤ 900 ∧ nb ≤ 900 ∧ Num xs x ∧ Num ys y ∧ gcdI x y = g ∧ Below w.heap.size w wr))
  case atStart => exact ⟨ao, bo, na, ca, nb, cb, xs, ys, x0, y0, rfl, rfl, Nat.le_refl _, H0.out⟩
  case round =>
    clear H0 ao bo na ca nb cb xs ys x0 y0
    obtain ⟨ao, bo, na, ca, nb, cb, xs, ys, x, y, rfl, rfl, hk, ha, hb, hna, hnb, nx, ny, hg, hbel⟩ := hrel
    have hx0 := nx.nonneg
    have hy0 := ny.nonneg
    have HA : Hid (RowAt wr ao na ca xs) := ha
    have HB : Hid (RowAt wr bo nb cb ys) := hb
    have NX : Hid (Num xs x) := nx
    have NY : Hid (Num ys y) := ny
    have HG : Hid (gcdI x y = g) := hg
    have HBL : Hid (Below w.heap.size w wr) := hbel
    have ly := num_len_zero ny
    rw [hb.len] at ly
    clear ha hb nx ny hg hbel
    by_cases hz : nb = 0
    · have hyz : y = 0 := ly.1 hz
      have HE : Hid (x = g) := by
        have h := HG.out
        rw [hyz, gcdI_zero hx0] at h
        exact h
      have HY0 : Hid (y = 0) := hyz
      subst hz
      clear hyz ly
      go_wp2_with fail
      refine (trim_any _ _ _ xs _ HA.out (by omega)).mono ?_
      rintro e w1 ⟨ro, m, cap, r, rfl, t1, t2, t3, t4⟩
      have T1 : Hid _ := t1
      have T2 : Hid (Num r g) := by
        rw [NX.out.val, HE.out] at t2
        exact t2
      have T4 : Hid (Below wr.heap.size wr w1) := t4
      clear t1 t2 t3 t4
      go_wp2_with fail
      go_ret
      exact ⟨ro, m, cap, r, rfl, T1.out, T2.out, HBL.out.trans (T4.out.mono HBL.out.size)⟩
    · have hyp : 0 < y := by
        have : y ≠ 0 := fun e => hz (ly.2 e)
        omega
      have hbp : (0 : Int) < (nb : Int) := by omega
      clear ly
      by_cases h1 : na = 1 ∧ nb = 1
      · obtain ⟨h1, h2⟩ := h1
        have lx := HA.out.len
        have lY := HB.out.len
        obtain ⟨ab, aoff, rfl, halt, hac⟩ := HA.out.cells (by intro e; rw [e] at lx; simp at lx; omega)
        obtain ⟨bb, boff, rfl, hblt, hbc⟩ := HB.out.cells (by intro e; rw [e] at lY; simp at lY; omega)
        have ca0 := hac 0 (by omega)
        have cb0 := hbc 0 (by omega)
        rw [← lim_nat] at ca0 cb0
        have ex : lim xs 0 = x := by
          rw [← NX.out.val, ← pv_val xs 1 (by omega)]
          simp [pv]
        have ey : lim ys 0 = y := by
          rw [← NY.out.val, ← pv_val ys 1 (by omega)]
          simp [pv]
        have bx := lim_bd HA.out.limbs 0
        have bY := lim_bd HB.out.limbs 0
        rw [ex] at bx
        rw [ey] at bY
        rw [show ((0 : Nat) : Int) = 0 from rfl, ex, Nat.add_zero] at ca0
        rw [show ((0 : Nat) : Int) = 0 from rfl, ey, Nat.add_zero] at cb0
        have BX : Hid (0 ≤ x ∧ x < BB) := bx
        have BY : Hid (0 ≤ y ∧ y < BB) := bY
        have BG : Hid (0 ≤ g ∧ g < BB) := by
          rw [← HG.out]
          exact ⟨gcdI_nonneg _ _, gcdI_lt bx.1 bY.1 bx.2 bY.2⟩
        subst h1 h2
        clear hac hbc ex ey bx bY lx lY
        go_wp2_with fail
        go_region_held3 (fun w' => w'.cell? ⟨ab, aoff, none⟩ = some (.int .u64 x) ∧ w'.cell? ⟨bb, boff, none⟩ = some (.int .u64 y)) (first | go_keep | (refine ⟨?_, ?_⟩; (rw [bz.cell (p := ⟨ab, aoff, none⟩) halt]; assumption); (rw [bz.cell (p := ⟨bb, boff, none⟩) hblt]; assumption)))
          (first
            | (go_at_call 130; refine (climb_g x y g _ BX.out.1 BX.out.2 BY.out.1 BY.out.2 HG.out).mono ?_; rintro e w1 ⟨rfl, bq⟩; have bz := ((Below.refl wr.heap.size wr).drew.trans bq))
            | (go_at_call 129; refine (of_any g _ BG.out.1 BG.out.2).mono ?_; rintro e w2 ⟨ro, rm, rc, r, rfl, g1, g2, g3, g4⟩; have bz := bz.trans (g4.mono bz.size)))
        have T1 : Hid (RowAt w2 ro rm rc r) := g1
        have T2 : Hid (Num r g) := g2
        have T4 : Hid (Below wr.heap.size wr w2) := bz
        clear g1 g2 g3 g4 bz
        go_wp2_with fail
        go_ret
        exact ⟨ro, rm, rc, r, rfl, T1.out, T2.out, HBL.out.trans (T4.out.mono HBL.out.size)⟩
      · have hys : ys ≠ [] := by
          intro e
          have := HB.out.len
          rw [e] at this
          simp at this
          omega
        have HYS : Hid (ys ≠ []) := hys
        clear hys
        have hm0 := Int.emod_nonneg x (show y ≠ 0 by omega)
        have hm1 := Int.emod_lt_of_pos x hyp
        have HJ : Hid (gcdI y (x % y) = g) := by
          rw [← gcdI_step hx0 hy0]; exact HG.out
        by_cases hn1 : na = 1
        · have hn2 : nb ≠ 1 := fun e => h1 ⟨hn1, e⟩
          have hnb1 : ((nb : Int) == 1) = false := by rw [beq_eq_false_iff_ne]; omega
          subst hn1
          go_wp2_with fail
          refine (divide_any _ _ _ _ _ _ xs ys _ HA.out HB.out (by omega) (by omega) NX.out.trim NY.out.trim HYS.out).mono ?_
          rintro e w1 ⟨qo, qn, qc, qs, ro, rn, rc, rs, rfl, d1, d2, d3, d4, d5⟩
          rw [NX.out.val, NY.out.val] at d4
          have D2 : Hid (RowAt w1 ro rn rc rs) := d2
          have D4 : Hid (Num rs (x % y)) := d4
          have D5 : Hid (Below wr.heap.size wr w1) := d5
          have hrn : rn ≤ 900 := by
            have h1 := d2.len
            rcases Nat.lt_or_ge nb rn with hgt | hgt
            · obtain ⟨j, hj⟩ : ∃ j, rs.length = j + 1 := ⟨rs.length - 1, by omega⟩
              have h2 := val_ge d4.limbs d4.trim j hj
              rw [d4.val] at h2
              have h3 := (val_bd HB.out.limbs).2
              rw [NY.out.val, HB.out.len] at h3
              have h4 := pw_le (show nb ≤ j by omega)
              omega
            · omega
          clear d1 d2 d3 d4 d5
          go_wp2_with fail
          go_roundg ((x % y).toNat)
          case measure => omega
          case rel => exact ⟨bo, ro, nb, cb, rn, rc, ys, rs, y, x % y, rfl, rfl, Nat.le_refl _, HB.out.below D5.out, D2.out, hnb, hrn, NY.out, D4.out, HJ.out, HBL.out.trans (D5.out.mono HBL.out.size)⟩
        · have hnb1 : ((na : Int) == 1) = false := by rw [beq_eq_false_iff_ne]; omega
          go_wp2_with fail
          refine (divide_any _ _ _ _ _ _ xs ys _ HA.out HB.out (by omega) (by omega) NX.out.trim NY.out.trim HYS.out).mono ?_
          rintro e w1 ⟨qo, qn, qc, qs, ro, rn, rc, rs, rfl, d1, d2, d3, d4, d5⟩
          rw [NX.out.val, NY.out.val] at d4
          have D2 : Hid (RowAt w1 ro rn rc rs) := d2
          have D4 : Hid (Num rs (x % y)) := d4
          have D5 : Hid (Below wr.heap.size wr w1) := d5
          have hrn : rn ≤ 900 := by
            have h1 := d2.len
            rcases Nat.lt_or_ge nb rn with hgt | hgt
            · obtain ⟨j, hj⟩ : ∃ j, rs.length = j + 1 := ⟨rs.length - 1, by omega⟩
              have h2 := val_ge d4.limbs d4.trim j hj
              rw [d4.val] at h2
              have h3 := (val_bd HB.out.limbs).2
              rw [NY.out.val, HB.out.len] at h3
              have h4 := pw_le (show nb ≤ j by omega)
              omega
            · omega
          clear d1 d2 d3 d4 d5
          go_wp2_with fail
          go_roundg ((x % y).toNat)
          case measure => omega
          case rel => exact ⟨bo, ro, nb, cb, rn, rc, ys, rs, y, x % y, rfl, rfl, Nat.le_refl _, HB.out.below D5.out, D2.out, hnb, hrn, NY.out, D4.out, HJ.out, HBL.out.trans (D5.out.mono HBL.out.size)⟩

end Go.Proofs.YtnedghhcidohnaaGreat

/-! quot.Div, quot.Small, quot.Gcd, quot.Lcm. -/
namespace Go.Proofs.YtnedghhcidohnaaGreat
open Go.RowKit

theorem Out.to {ok ok' neg : Prop} {v v' : Int} {r : List Int} {k : Int} (h : Out ok neg v r k) (ho : ok) (ho' : ok') (hv : v = v') : Out ok' neg v' r k := by
  subst hv
  exact ⟨fun n => absurd ho' n, fun _ n => h.is_minus' ho n, fun _ n b => h.is_big' ho n b, fun _ n b => h.is_fine' ho n b⟩

theorem val_zero {xs : List Int} (hl : Limbs xs) (hm : May xs) {n : Nat} (h : xs.length = n) : n = 0 ↔ val xs = 0 := by
  rw [← h]; exact num_len_zero (num_self hl hm)

theorem quot_lt {a g B : Int} (ha : 0 ≤ a) (hA : a < B) : a / g < B ∨ g < 0 := by
  rcases Int.lt_or_le g 0 with h | h
  · exact .inr h
  · have := Int.ediv_le_self g ha
    exact .inl (by omega)

set_option maxHeartbeats 1000000 in
theorem qgcd_any (ao bo : Option Addr) (na ca nb cb : Nat) (xs ys : List Int) (w : World) (ha : RowAt w ao na ca xs) (hb : RowAt w bo nb cb ys) :
    Calls Tryz.prog 95 #[.slice ao na ca, .slice bo nb cb] w fun e w' => ∃ ro m cap r k, e = .returned (.tuple #[.slice ro m cap, .int .i64 k]) ∧ RowAt w' ro m cap r ∧ Out (May xs ∧ May ys) False (gcdI (val xs) (val ys)) r k ∧ Below w.heap.size w w' := by
  have HA : Hid (RowAt w ao na ca xs) := ha
  have HB : Hid (RowAt w bo nb cb ys) := hb
  have la := ha.len
  have lb := hb.len
  clear ha hb
  by_cases hx : May xs
  · have hna : na ≤ 8 := by have := hx.1; omega
    have HX : Hid (May xs) := hx
    clear hx
    by_cases hy : May ys
    · have hnb : nb ≤ 8 := by have := hy.1; omega
      have HY : Hid (May ys) := hy
      have hz := val_zero HB.out.limbs hy lb
      have hzx := val_zero HA.out.limbs HX.out la
      clear hy la lb
      clear hz hzx
      go_enter Tryz.func95, Tryz.ntmps95
      go_wp2_with fail
      refine (may_val _ _ _ xs _ HA.out true (yes_iff HX.out)).mono ?_
      rintro e w1 ⟨rfl, rfl⟩
      go_wp2_with fail
      refine (may_val _ _ _ ys _ HB.out true (yes_iff HY.out)).mono ?_
      rintro e w1 ⟨rfl, rfl⟩
      go_wp2_with fail
      refine (common_any _ _ _ _ _ _ xs ys _ _ _ HA.out HB.out (by omega) (by omega) (num_self HA.out.limbs HX.out) (num_self HB.out.limbs HY.out)).mono ?_
      rintro e w1 ⟨ro, rn, rc, r, rfl, d1, d2, d3⟩
      have D1 : Hid _ := d1
      have D2 : Hid (Num r (gcdI (val xs) (val ys))) := d2
      have D3 : Hid _ := d3
      clear d1 d2 d3
      go_wp2_with fail
      go_ret2
      exact ⟨ro, rn, rc, r, 0, rfl, D1.out, .fine r ⟨HX.out, HY.out⟩ (fun f => f) (gcdI_lt (val_bd HA.out.limbs).1 (val_bd HB.out.limbs).1 (HX.out.lt HA.out.limbs) (HY.out.lt HB.out.limbs)) D2.out, D3.out⟩
    · have HY : Hid (¬ May ys) := hy
      clear hy la lb
      go_enter Tryz.func95, Tryz.ntmps95
      go_wp2_with fail
      refine (may_val _ _ _ xs _ HA.out true (yes_iff HX.out)).mono ?_
      rintro e w1 ⟨rfl, rfl⟩
      go_wp2_with fail
      refine (may_val _ _ _ ys _ HB.out false (no_iff HY.out)).mono ?_
      rintro e w1 ⟨rfl, rfl⟩
      go_wp2_with fail
      go_ret2
      exact ⟨none, 0, 0, [], 1, rfl, RowAt.nil _, .arg (fun h => HY.out h.2), Below.refl _ _⟩
  · have HX : Hid (¬ May xs) := hx
    clear hx la lb
    go_enter Tryz.func95, Tryz.ntmps95
    go_wp2_with fail
    refine (may_val _ _ _ xs _ HA.out false (no_iff HX.out)).mono ?_
    rintro e w1 ⟨rfl, rfl⟩
    go_wp2_with fail
    go_ret2
    exact ⟨none, 0, 0, [], 1, rfl, RowAt.nil _, .arg (fun h => HX.out h.1), Below.refl _ _⟩

end Go.Proofs.YtnedghhcidohnaaGreat
