/-
  Joined: RDivA · RDivB · RDivC · RDiv · RQuot.
-/
import Derived.Deep.CutRange
import Derived.Deep.RegionHeld3
import Derived.Test.YtnedghhcidohnaaGreatJK1
import Derived.Test.YtnedghhcidohnaaGreatJH1
import Derived.Test.YtnedghhcidohnaaGreatRTimes
import Derived.Test.YtnedghhcidohnaaGreatJG1

/-! The reference's Div of layer 3: both of one limb. -/
namespace Go.Proofs.YtnedghhcidohnaaGreat
open Go.RowKit
attribute [local go_sem ↓] Go.wp_at_zero Go.wp_at_succ

set_option maxRecDepth 100000 in
set_option maxHeartbeats 4000000 in
theorem rqdiv_one (ao bo : Option Addr) (na ca nb cb : Nat) (xs ys : List Int) (w : World) (ha : RowAt w ao na ca xs) (hb : RowAt w bo nb cb ys) (hx : May xs) (hy : May ys) (hz : val ys ≠ 0) (h1 : na = 1) (h2 : nb = 1) :
    Calls Tryz.prog 87 #[.slice ao na ca, .slice bo nb cb] w fun e w' => ∃ qo qn qc q ro rn rc r k, e = .returned (.tuple #[.slice qo qn qc, .slice ro rn rc, .int .i64 k]) ∧ RowAt w' qo qn qc q ∧ RowAt w' ro rn rc r ∧ DivOut xs ys q r k ∧ Below w.heap.size w w' := by
  subst h1 h2
  have HA : Hid (RowAt w ao 1 ca xs) := ha
  have HB : Hid (RowAt w bo 1 cb ys) := hb
  have HX : Hid (May xs) := hx
  have HY : Hid (May ys) := hy
  have HZ : Hid (val ys ≠ 0) := hz
  clear ha hb hx hy hz
  have lx := HA.out.len
  have lY := HB.out.len
  obtain ⟨ab, aoff, rfl, halt, hac⟩ := HA.out.cells (by intro e; rw [e] at lx; simp at lx)
  obtain ⟨bb, boff, rfl, hblt, hbc⟩ := HB.out.cells (by intro e; rw [e] at lY; simp at lY)
  have ca0 := hac 0 (by omega)
  have cb0 := hbc 0 (by omega)
  rw [← lim_nat] at ca0 cb0
  have ex : lim xs 0 = val xs := by
    rw [← pv_val xs 1 (by omega)]
    simp [pv]
  have ey : lim ys 0 = val ys := by
    rw [← pv_val ys 1 (by omega)]
    simp [pv]
  have bx := lim_bd HA.out.limbs 0
  have bY := lim_bd HB.out.limbs 0
  rw [ex] at bx
  rw [ey] at bY
  rw [show ((0 : Nat) : Int) = 0 from rfl, ex, Nat.add_zero] at ca0
  rw [show ((0 : Nat) : Int) = 0 from rfl, ey, Nat.add_zero] at cb0
  obtain ⟨x, hx⟩ : ∃ x, x = val xs := ⟨_, rfl⟩
  obtain ⟨y, hy⟩ : ∃ y, y = val ys := ⟨_, rfl⟩
  rw [← hx] at ca0 bx
  rw [← hy] at cb0 bY
  have hyn : y ≠ 0 := by rw [hy]; exact HZ.out
  obtain ⟨xq, hxq⟩ : ∃ v, x / y = v := ⟨_, rfl⟩
  obtain ⟨xr, hxr⟩ : ∃ v, x % y = v := ⟨_, rfl⟩
  have q0 : 0 ≤ xq := by rw [← hxq]; exact Int.ediv_nonneg bx.1 bY.1
  have q1 : xq < BB := by have h := Int.ediv_le_self y bx.1; have := bx.2; omega
  have r0 : 0 ≤ xr := by rw [← hxr]; exact Int.emod_nonneg x hyn
  have r1 : xr < BB := by
    have h := Int.emod_lt_of_pos x (show 0 < y by have := bY.1; omega)
    have := bY.2
    omega
  have ht1 : IntKind.u64.wrap (x.tdiv y) = xq := by
    rw [Int.tdiv_eq_ediv_of_nonneg bx.1, hxq, IntKind.wrap_u64]
    unfold BB at q1
    omega
  have ht2 : x.tmod y = xr := by rw [Int.tmod_eq_emod_of_nonneg bx.1, hxr]
  have x0 := bx.1
  have y0 := bY.1
  have x9 : x ≤ 18446744073709551615 := by have := bx.2; unfold BB at this; omega
  have y9 : y ≤ 18446744073709551615 := by have := bY.2; unfold BB at this; omega
  have QB : Hid ((0 ≤ xq ∧ xq < BB) ∧ (0 ≤ xr ∧ xr < BB)) := ⟨⟨q0, q1⟩, r0, r1⟩
  have HQR : Hid (xq = val xs / val ys ∧ xr = val xs % val ys) := by rw [← hxq, ← hxr, hx, hy]; exact ⟨rfl, rfl⟩
  clear hac hbc ex ey bx bY lx lY hxq hxr hx hy q1 r1
  go_enter Tryz.func87, Tryz.ntmps87
  go_wp2_with fail
  refine (rmay_val _ _ _ xs _ HA.out true (yes_iff HX.out)).mono ?_
  rintro e w1 ⟨rfl, rfl⟩
  go_wp2_with fail
  refine (rmay_val _ _ _ ys _ HB.out true (yes_iff HY.out)).mono ?_
  rintro e w1 ⟨rfl, rfl⟩
  go_wp2_with fail
  go_region_held3 (fun w' => w'.cell? ⟨ab, aoff, none⟩ = some (.int .u64 x) ∧ w'.cell? ⟨bb, boff, none⟩ = some (.int .u64 y)) (first | go_keep | (refine ⟨?_, ?_⟩; (rw [bz.cell (p := ⟨ab, aoff, none⟩) halt]; assumption); (rw [bz.cell (p := ⟨bb, boff, none⟩) hblt]; assumption)))
    (first
      | (go_at_call_of 90 (Value.int IntKind.u64 xq); refine (rof_any xq _ QB.out.1.1 QB.out.1.2).mono ?_; rintro e w2 ⟨qo, qm, qc, q, rfl, g1, g2, g3, g4⟩; have bz := (Below.refl w.heap.size w).drew.trans g4)
      | (go_at_call 90; refine (rof_any xr _ QB.out.2.1 QB.out.2.2).mono ?_; rintro e w3 ⟨ro, rm, rc, r, rfl, k1, k2, k3, k4⟩; have by1 := g1.below k4; have bz := bz.trans (k4.mono bz.size)))
  have T1 : Hid (RowAt w3 qo qm qc q) := by1
  have T2 : Hid (RowAt w3 ro rm rc r) := k1
  have T3 : Hid (Num q (val xs / val ys)) := by
    rw [HQR.out.1] at g2
    exact g2
  have T4 : Hid (Num r (val xs % val ys)) := by
    rw [HQR.out.2] at k2
    exact k2
  have T5 : Hid (Below w.heap.size w w3) := bz
  clear by1 g1 g2 g3 g4 k1 k2 k3 k4 bz
  go_wp2_with fail
  go_ret3
  exact ⟨qo, qm, qc, q, ro, rm, rc, r, 0, rfl, T1.out, T2.out, .fine ⟨HX.out, HY.out⟩ HZ.out T3.out T4.out, T5.out⟩

end Go.Proofs.YtnedghhcidohnaaGreat

/-! The reference's Div of layer 3: a divisor of several limbs. -/
namespace Go.Proofs.YtnedghhcidohnaaGreat
open Go.RowKit
attribute [local go_sem ↓] Go.wp_at_zero Go.wp_at_succ

theorem big10b {rs : List Int} {rv V : Int} (hn : Num rs rv) (h1 : rv < V) (h2 : V ≤ BB ^ 8) : val rs * val [(4294967296 : Int)] < BB ^ 10 := by
  rw [hn.val, show val [(4294967296 : Int)] = 4294967296 by simp [val], show (10 : Nat) = 8 + 1 + 1 from rfl, pw_succ, pw_succ]
  have h3 : rv * 4294967296 ≤ BB ^ 8 * 4294967296 := by omega
  have h4 := Int.mul_le_mul_of_nonneg_left (show (4294967296 : Int) ≤ BB by unfold BB; omega) (Int.le_of_lt (pw_pos 8))
  have h5 := Int.mul_lt_mul_of_pos_left (show (1 : Int) < BB by unfold BB; omega) (Int.mul_pos (pw_pos 8) BB_pos)
  omega
theorem few10b {ms rs : List Int} {mm : Nat} {rv V : Int} (hl : ms.length = mm) (hm : Num ms (val rs * val [(4294967296 : Int)])) (hn : Num rs rv) (h1 : rv < V) (h2 : V ≤ BB ^ 8) : mm ≤ 10 := by
  rw [← hl]; exact hm.few (big10b hn h1 h2) (Int.le_refl _)

set_option maxRecDepth 100000 in
set_option maxHeartbeats 4000000 in
theorem rqdiv_b (ao bo : Option Addr) (na ca nb cb : Nat) (xs ys : List Int) (w : World) (ha : RowAt w ao na ca xs) (hb : RowAt w bo nb cb ys) (hx : May xs) (hy : May ys) (hz : val ys ≠ 0) (h1 : na = 1) (h2 : nb ≠ 1) :
    Calls Tryz.prog 87 #[.slice ao na ca, .slice bo nb cb] w fun e w' => ∃ qo qn qc q ro rn rc r k, e = .returned (.tuple #[.slice qo qn qc, .slice ro rn rc, .int .i64 k]) ∧ RowAt w' qo qn qc q ∧ RowAt w' ro rn rc r ∧ DivOut xs ys q r k ∧ Below w.heap.size w w' := by
  obtain ⟨i0, hi, hz0, hz1, hz2⟩ := info_parts Tryz.info56
  have HA : Hid (RowAt w ao na ca xs) := ha
  have HB : Hid (RowAt w bo nb cb ys) := hb
  have HX : Hid (May xs) := hx
  have HY : Hid (May ys) := hy
  have hna : na ≤ 8 := by have := hx.1; have := ha.len; omega
  have hnb : nb ≤ 8 := by have := hy.1; have := hb.len; omega
  have HZ : Hid (val ys ≠ 0) := hz
  have h0 : nb ≠ 0 := fun e => hz ((val_zero hb.limbs hy hb.len).1 e)
  have hb0 : ((nb : Int) == 0) = false := by rw [beq_eq_false_iff_ne]; omega
  clear ha hb hx hy hz
  have h1b : ((na : Int) == 1) = true := by simp [h1]
  have h2b : ((nb : Int) == 1) = false := by rw [beq_eq_false_iff_ne]; omega
  clear h1
  go_enter Tryz.func87, Tryz.ntmps87
  go_wp2_with fail
  refine (rmay_val _ _ _ xs _ HA.out true (yes_iff HX.out)).mono ?_
  rintro e w1 ⟨rfl, rfl⟩
  go_wp2_with fail
  refine (rmay_val _ _ _ ys _ HB.out true (yes_iff HY.out)).mono ?_
  rintro e w1 ⟨rfl, rfl⟩
  go_wp2_with fail
  refine (digits_any _ _ _ xs _ HA.out (by omega)).mono ?_
  rintro e w1 ⟨xo, xc, rfl, x1, b1⟩
  have X1 : Hid (RowAt w1 xo (2 * na) xc (hd xs)) := x1
  have B1 : Hid (Below w.heap.size w w1) := b1
  clear x1 b1
  go_wp2_with fail
  go_loopg [8, 9] (2 * na) (fun k s8 s9 wr => ∃ j g c : Nat, j ≤ 2 * na ∧ 2 * na - j ≤ k ∧ s9 = .int .i64 j ∧ s8 = .slice (some ⟨g, 0, none⟩) j c ∧ OwnR wr w1.heap.size g j c (List.replicate j 0) ∧ Below w1.heap.size w1 wr)
  case atStart => exact ⟨0, w1.heap.size, 0, Nat.zero_le _, by omega, rfl, rfl, OwnR.nil w1, (Below.refl _ _).alloc (Nat.le_refl _) _⟩
  case round =>
    obtain ⟨j, g, c, hj, hjk, rfl, rfl, hown, hbel⟩ := hrel
    have HO : Hid (OwnR wr w1.heap.size g j c (List.replicate j 0)) := hown
    have HBL : Hid (Below w1.heap.size w1 wr) := hbel
    have hgw := hown.lt
    have hsz : w1.heap.size ≤ wr.heap.size := hbel.size
    clear hown hbel
    by_cases hlt1 : j < 2 * na
    · have hlt2 : (j : Int) < 2 * (na : Int) := by omega
      go_wp2_with (at_builtin; refine wpList_append_lies _ rfl (.tmp 58) (.tmp 59) 42 rfl w1.heap.size 56 i0 (.int .u64 0) 1 8 Tryz.underlying42 hi hz0 hz1 hz2 rfl (by decide) _ j ((List.replicate j (0 : Int)).map (Value.int .u64)) rfl (HO.out.alloc _) ⟨wr.heap.size, 0, none⟩ 1 1 [.int .u64 0] rfl rfl (World.news_of_block (cs := #[.int .u64 0]) (t := 56) (fr := (0, 0)) (heap_alloc_new wr _)) (by simp [Value.oneCell']) (by omega) (by unfold maxLen; omega) (by omega) (by simp; omega) (wr.heap.size + 1) (by simp) ?_)
      intro gg cp w3 hown1 hgrow _ _
      have HN : Hid (OwnR w3 w1.heap.size gg (j + 1) cp (List.replicate (j + 1) 0)) := by
        show OwnR w3 w1.heap.size gg (j + 1) cp (List.replicate (j + 1) 0)
        unfold OwnR
        rw [List.replicate_succ', List.map_append]
        simpa using hown1
      have HG : Hid (Below w1.heap.size w1 w3) := (HBL.out.alloc hsz _).grown hgrow (by simp; omega) (fun j hj => by cases hj; exact hgw.1)
      clear hown1 hgrow
      go_wp2_with fail
      go_roundg (gk - 1)
      case measure => omega
      case rel => exact ⟨j + 1, gg, cp, by omega, by omega, by go_num, rfl, HN.out, HG.out⟩
    · have hlt2 : ¬ (j : Int) < 2 * (na : Int) := by omega
      obtain ⟨L, hL⟩ : ∃ L, L = 2 * na := ⟨_, rfl⟩
      have hjL : j = L := by omega
      have HL : Hid (L = 2 * na) := hL
      have hLi : (2 : Int) * (na : Int) = (L : Int) := by omega
      have hLm : L ≤ 16 := by omega
      have hds : (hd xs).length = L := by rw [hd_length, HA.out.len, hL]
      have HDS : Hid ((hd xs).length = L ∧ Halves (hd xs) ∧ hval (hd xs) = val xs) := ⟨hds, hd_halves HA.out.limbs, hd_val xs⟩
      have X2 : Hid (RowAt w1 xo L xc (hd xs)) := by
        have h := X1.out
        rw [← hL] at h
        exact h
      obtain ⟨V, hV⟩ : ∃ V, V = val ys := ⟨_, rfl⟩
      have hVp : 0 < V := by
        have h1 := (val_bd HB.out.limbs).1
        have h2 := HZ.out
        omega
      have hVB : V ≤ BB ^ 8 := by rw [hV]; exact Int.le_of_lt (HY.out.lt HB.out.limbs)
      have HV : Hid (V = val ys ∧ 0 < V ∧ V ≤ BB ^ 8) := ⟨hV, hVp, hVB⟩
      have HR0 : Hid (RDivRel w1 g c L L (hd xs) V (some ⟨wr.heap.size, 0, none⟩) 0 0 [] (List.replicate L 0) 0 (wr.alloc (Obj.cells #[] 56))) :=
        ⟨(OwnR.nil wr).row (by intro x hx; simp at hx), Num.nil, by rw [← hjL]; exact HO.out.alloc _, HBL.out.alloc hsz _, rinv_start hVp hds⟩
      clear hL hds hV hVp hVB HO X1
      go_wp2_with fail
      go_loopg [10, 11] L (fun k s10 s11 wr => ∃ (j : Nat) (i : Int) (ro : Option Addr) (nr cr : Nat) (rs qs : List Int) (rv : Int), j ≤ L ∧ j ≤ k ∧ i = (j : Int) - 1 ∧ s11 = .int .i64 i ∧ s10 = .slice ro nr cr ∧ RDivRel w1 g c L j (hd xs) V ro nr cr rs qs rv wr)
      case atStart => exact ⟨L, (L : Int) - 1, _, _, _, _, _, _, Nat.le_refl _, Nat.le_refl _, rfl, by go_num, rfl, HR0.out⟩
      case round =>
        clear HR0
        obtain ⟨i1, i2, ro, nr, cr, rs, qs, rv, hjm, hjg, hij, rfl, rfl, hrel⟩ := hrel
        have HREL : Hid (RDivRel w1 g c L i1 (hd xs) V ro nr cr rs qs rv wr) := hrel
        have hnr : nr ≤ 8 := by
          have h1 := hrel.num.few hrel.inv.r1 HV.out.2.2
          have h2 := hrel.row.len
          omega
        have hsz2 : w1.heap.size ≤ wr.heap.size := hrel.bel.size
        have hgl := hrel.own.lt
        clear hrel
        cases i1 with
        | zero =>
          obtain rfl : i2 = -1 := by omega
          clear hij
          have hen := rinv_end HREL.out.inv
          rw [HDS.out.2.2, HV.out.1] at hen
          have HEN : Hid (hval qs = val xs / val ys ∧ rv = val xs % val ys) := hen
          have HQ : Hid (RowAt wr (some ⟨g, 0, none⟩) L c qs) := HREL.out.own.row HREL.out.inv.halves.limbs
          clear hen
          go_wp2_with fail
          refine (whole_any _ _ _ qs _ HQ.out HREL.out.inv.halves (by omega)).mono ?_
          rintro e w9 ⟨qo, qn, qc, q2, rfl, t1, t2, t3, t4⟩
          have T1 : Hid (RowAt w9 qo qn qc q2) := t1
          have T2 : Hid (Num q2 (val xs / val ys)) := by
            rw [HEN.out.1] at t2
            exact t2
          have T4 : Hid (Below wr.heap.size wr w9) := t4
          have T5 : Hid (Num rs (val xs % val ys)) := by
            have h := HREL.out.num
            rw [HEN.out.2] at h
            exact h
          clear t1 t2 t3 t4
          go_wp2_with fail
          go_ret3
          exact ⟨qo, qn, qc, q2, ro, nr, cr, rs, 0, rfl, T1.out, HREL.out.row.below T4.out, .fine ⟨HX.out, HY.out⟩ HZ.out T2.out T5.out, chain B1.out (HREL.out.bel.trans (T4.out.mono hsz2))⟩
        | succ k =>
          obtain rfl : i2 = (k : Int) := by omega
          clear hij
          obtain ⟨xb, xoff, rfl, hxlt, hxc⟩ := X2.out.cells (by intro e; have h := HDS.out.1; rw [e] at h; simp at h; omega)
          have hxk := hxc k (by rw [HDS.out.1]; omega)
          rw [← lim_nat] at hxk
          obtain ⟨xk, hxk'⟩ : ∃ v, v = lim (hd xs) k := ⟨_, rfl⟩
          rw [← hxk'] at hxk
          have hxr : wr.cell? ⟨xb, xoff + k, none⟩ = some (.int .u64 xk) := (HREL.out.bel.cell (p := ⟨xb, xoff + k, none⟩) hxlt).trans hxk
          have hxb : xb < wr.heap.size := Nat.lt_of_lt_of_le hxlt hsz2
          have hbx := half_bd HDS.out.2.1 k
          rw [← hxk'] at hbx
          have HXK : Hid (xk = lim (hd xs) k) := hxk'
          have x0 := hbx.1
          have x1 : xk < BB := by have := hbx.2; unfold HH at this; unfold BB; omega
          have X1' : Hid (0 ≤ xk ∧ xk < BB) := ⟨x0, x1⟩
          have hkL : (k : Int) < (L : Int) := by omega
          obtain ⟨tv, htv⟩ : ∃ v, v = rv * HH + lim (hd xs) k := ⟨_, rfl⟩
          have HTV : Hid (tv = rv * HH + lim (hd xs) k) := htv
          have htb := rinv_big HREL.out.inv HDS.out.2.1
          rw [← htv] at htb
          have HTB : Hid (0 ≤ tv ∧ tv < V * HH) := htb
          clear hxc hxk hxk' hbx htv htb x1
          go_upto_region 17 with fail
          go_cut [10] from 65 to 100 (fun s10 wx => ∃ (ro : Option Addr) (tn tc : Nat) (ts : List Int), s10 = .slice ro tn tc ∧ RowAt wx ro tn tc ts ∧ Num ts tv ∧ Fresh wr.heap.size ro ∧ Below wr.heap.size wr wx)
          case first =>
            have d0 : Below wr.heap.size wr wr.drew := (Below.refl _ _).drew
            have dP : Below wr.heap.size wr (wr.drew.alloc (Obj.cells #[.int .u64 4294967296] 56)) := d0.alloc (by simp) _
            have dX : Below wr.heap.size wr (wr.drew.alloc (Obj.cells #[.int .u64 xk] 56)) := d0.alloc (by simp) _
            have dPX : Below wr.heap.size wr ((wr.drew.alloc (Obj.cells #[.int .u64 4294967296] 56)).alloc (Obj.cells #[.int .u64 xk] 56)) := dP.alloc (by simp) _
            have dXP : Below wr.heap.size wr ((wr.drew.alloc (Obj.cells #[.int .u64 xk] 56)).alloc (Obj.cells #[.int .u64 4294967296] 56)) := dX.alloc (by simp) _
            have DP : Hid _ := dP
            have DX : Hid _ := dX
            have DPX : Hid _ := dPX
            have DXP : Hid _ := dXP
            have PB : Hid ((0 : Int) ≤ 4294967296 ∧ (4294967296 : Int) < BB) := by unfold BB; exact ⟨by omega, by omega⟩
            have o1 : RowAt (wr.drew.alloc (Obj.cells #[.int .u64 4294967296] 56)) (some ⟨wr.heap.size, 0, none⟩) 1 1 [4294967296] := one_row wr.drew _ PB.out.1 PB.out.2
            have o2 : RowAt (wr.drew.alloc (Obj.cells #[.int .u64 xk] 56)) (some ⟨wr.heap.size, 0, none⟩) 1 1 [xk] := one_row wr.drew _ X1'.out.1 X1'.out.2
            have P1 : Hid _ := o1
            have P2 : Hid (RowAt ((wr.drew.alloc (Obj.cells #[.int .u64 4294967296] 56)).alloc (Obj.cells #[.int .u64 xk] 56)) (some ⟨wr.heap.size, 0, none⟩) 1 1 [4294967296]) := o1.below ((Below.refl _ _).alloc (Nat.le_refl _) _)
            have P3 : Hid (RowAt ((wr.drew.alloc (Obj.cells #[.int .u64 xk] 56)).alloc (Obj.cells #[.int .u64 4294967296] 56)) (some ⟨wr.heap.size + 1, 0, none⟩) 1 1 [4294967296]) := by
              show RowAt ((wr.drew.alloc (Obj.cells #[.int .u64 xk] 56)).alloc (Obj.cells #[.int .u64 4294967296] 56)) (some ⟨wr.heap.size + 1, 0, none⟩) 1 1 [4294967296]
              have h := one_row (wr.drew.alloc (Obj.cells #[.int .u64 xk] 56)) 4294967296 PB.out.1 PB.out.2
              simpa using h
            have Y2 : Hid (RowAt ((wr.drew.alloc (Obj.cells #[.int .u64 4294967296] 56)).alloc (Obj.cells #[.int .u64 xk] 56)) (some ⟨wr.heap.size + 1, 0, none⟩) 1 1 [xk]) := by
              show RowAt ((wr.drew.alloc (Obj.cells #[.int .u64 4294967296] 56)).alloc (Obj.cells #[.int .u64 xk] 56)) (some ⟨wr.heap.size + 1, 0, none⟩) 1 1 [xk]
              have h := one_row (wr.drew.alloc (Obj.cells #[.int .u64 4294967296] 56)) xk X1'.out.1 X1'.out.2
              simpa using h
            have Y3 : Hid (RowAt ((wr.drew.alloc (Obj.cells #[.int .u64 xk] 56)).alloc (Obj.cells #[.int .u64 4294967296] 56)) (some ⟨wr.heap.size, 0, none⟩) 1 1 [xk]) := o2.below ((Below.refl _ _).alloc (Nat.le_refl _) _)
            clear d0 dP dX dPX dXP o1 o2
            go_region_held3 (fun w' => w'.cell? ⟨xb, xoff + k, none⟩ = some (.int .u64 xk)) (first | go_keep | (rw [bz.cell (p := ⟨xb, xoff + k, none⟩) hxb]; assumption))
              (first
                | (go_at_call 112; refine (rmul_any _ _ _ _ _ _ rs [4294967296] _ ?_ ?_ ?_ ?_).mono ?_; (first | exact HREL.out.row.below DP.out | exact HREL.out.row.below DPX.out | exact HREL.out.row.below DXP.out); (first | exact P1.out | exact P2.out | exact P3.out); omega; omega; rintro e wm ⟨mo, mm, mc, ms, rfl, m1, m2, m3⟩; (first | have bz := DP.out.trans (m3.mono DP.out.size) | have bz := DPX.out.trans (m3.mono DPX.out.size) | have bz := DXP.out.trans (m3.mono DXP.out.size)); have mf := few10b m1.len m2 HREL.out.num HREL.out.inv.r1 HV.out.2.2)
                | (go_at_call 111; refine (radd_fresh _ _ _ _ _ _ ms [xk] _ ?_ ?_ ?_ ?_).mono ?_; (first | exact m1 | exact m1.below ((Below.refl _ _).alloc (Nat.le_refl _) _)); (first | exact Y2.out.below m3 | exact Y3.out.below m3 | exact one_row wm xk X1'.out.1 X1'.out.2); omega; omega; rintro e wa ⟨no, nn, nc, ns, rfl, a1, a2, a3, a4⟩; (first | have fz := a3.mono bz.size | have fz := a3.mono (bz.alloc bz.size (Obj.cells #[.int .u64 xk] 56)).size); (first | have bz := bz.trans (a4.mono bz.size) | have bz := (bz.alloc bz.size (Obj.cells #[.int .u64 xk] 56)).trans (a4.mono (bz.alloc bz.size (Obj.cells #[.int .u64 xk] 56)).size))))
            all_goals
              have R1 : Hid (RowAt wa no nn nc ns) := a1
              have R2 : Hid (Num ns tv) := by
                rw [m2.val, HREL.out.num.val, show val [(4294967296 : Int)] = HH by simp [val, HH], show val [xk] = xk by simp [val], HXK.out, ← HTV.out] at a2
                exact a2
              have R3 : Hid (Fresh wr.heap.size no) := fz
              have R4 : Hid (Below wr.heap.size wr wa) := bz
              clear m1 m2 m3 mf a1 a2 a3 a4 fz bz P1 P2 P3 Y2 Y3 DP DX DPX DXP
              go_wp2_with fail
              go_meet
              exact ⟨no, nn, nc, ns, rfl, R1.out, R2.out, R3.out, R4.out⟩
          case rest =>
            rename World => wx
            obtain ⟨tao, tn, tc, ts, rfl, c1, c2, c3, c4⟩ := hcut
            have C1 : Hid (RowAt wx tao tn tc ts) := c1
            have C2 : Hid (Num ts tv) := c2
            have C3 : Hid (Fresh wr.heap.size tao) := c3
            have C4 : Hid (Below wr.heap.size wr wx) := c4
            have htn : tn ≤ 9 := by
              have h1 := c1.len
              have h2 := c2.few (V := BB ^ 9) (n := 9) ?_ (Int.le_refl _)
              omega
              have h3 := HTB.out.2
              have h4 := HV.out.2.2
              have h5 := Int.mul_le_mul_of_nonneg_right h4 (Int.le_of_lt HH_pos)
              have h6 := Int.mul_le_mul_of_nonneg_left (show HH ≤ BB by unfold HH BB; omega) (Int.le_of_lt (pw_pos 8))
              rw [show (9 : Nat) = 8 + 1 from rfl, pw_succ]
              omega
            have WB : Hid (Below w.heap.size w wx) := B1.out.trans ((HREL.out.bel.trans (c4.mono hsz2)).mono B1.out.size)
            have HBX : Hid (RowAt wx bo nb cb ys) := HB.out.below WB.out
            clear c1 c2 c3 c4
            by_cases hge : V ≤ tv
            · obtain ⟨cv, hcv⟩ : ∃ c, c = cmpI (val ts) (val ys) := ⟨_, rfl⟩
              have hc0 : 0 ≤ cv := by rw [hcv, C2.out.val, ← HV.out.1]; exact cmpI_ge hge
              have HC : Hid (cv = cmpI (val ts) (val ys)) := hcv
              obtain ⟨d, hd⟩ : ∃ d, d = tv / V := ⟨_, rfl⟩
              have HDD : Hid (d = tv / V) := hd
              have hd0 : 0 ≤ d := by rw [hd]; exact Int.ediv_nonneg HTB.out.1 (Int.le_of_lt HV.out.2.1)
              have hd1 : d < 4294967296 := by
                rw [hd]
                exact Int.ediv_lt_of_lt_mul HV.out.2.1 (by have h := HTB.out.2; unfold HH at h; rw [Int.mul_comm]; exact h)
              have HVD : Hid (V * d ≤ tv) := by
                have h := Int.mul_ediv_self_le (x := tv) (k := V) (by have := HV.out.2.1; omega)
                rw [← hd] at h
                exact h
              clear hcv hd hge
              go_wp2_with fail
              refine (rcmp_val _ _ _ _ _ _ ts ys _ C1.out HBX.out (by omega) (by omega) cv HC.out).mono ?_
              rintro e w2 ⟨rfl, b2⟩
              have E2 : Hid (Below wx.heap.size wx w2) := b2
              clear b2
              go_wp2_with fail
              refine (rtimes_any _ _ _ _ _ _ ts ys _ (C1.out.below E2.out) (HBX.out.below E2.out) (by omega) (by omega) (by rw [← HV.out.1]; exact HV.out.2.1) (by rw [C2.out.val, ← HV.out.1]; exact HTB.out.2)).mono ?_
              rintro e w3 ⟨rfl, b3⟩
              rw [C2.out.val, ← HV.out.1, ← HDD.out]
              have E3 : Hid (Below wr.heap.size wr w3) := C4.out.trans ((chain E2.out b3).mono C4.out.size)
              have hgw3 : g < w3.heap.size := Nat.lt_of_lt_of_le hgl.2 E3.out.size
              have hown3 := HREL.out.own.below E3.out
              have hq3 : w3.cell? ⟨g, k, none⟩ = some (.int .u64 (lim qs k)) := by
                rw [World.ownsRow.cellAt hown3 k (by omega), lim_nat]
                simp [show k < qs.length by rw [HREL.out.inv.len]; omega]
              have hf3 : w3.frozen? ⟨g, k, none⟩ = false := World.ownsRow.frozenAt hown3 k
              have T3 : Hid (RowAt w3 tao tn tc ts) := C1.out.below (chain E2.out b3)
              have hszr : wr.heap.size ≤ w3.heap.size := E3.out.size
              have TS : Hid (RowAt (w3.setCell ⟨g, k, none⟩ (.int .u64 d)) tao tn tc ts) := T3.out.far C3.out hgl.2 _ _
              have S4 : Hid (Below w.heap.size w (w3.setCell ⟨g, k, none⟩ (.int .u64 d))) := (WB.out.trans ((chain E2.out b3).mono WB.out.size)).setCell (Nat.le_trans B1.out.size hgl.1) _
              have hs4 : (w3.setCell ⟨g, k, none⟩ (.int .u64 d)).heap.size = w3.heap.size := by simp [World.setCell]
              have A4 : Hid (RowAt ((w3.setCell ⟨g, k, none⟩ (.int .u64 d)).alloc (Obj.cells #[.int .u64 d] 56)) (some ⟨w3.heap.size, 0, none⟩) 1 1 [d]) := by
                have h := one_row (w3.setCell ⟨g, k, none⟩ (.int .u64 d)) d hd0 (by unfold BB; omega)
                rw [hs4] at h
                exact h
              have L4 : Hid (Below w3.heap.size (w3.setCell ⟨g, k, none⟩ (.int .u64 d)) ((w3.setCell ⟨g, k, none⟩ (.int .u64 d)).alloc (Obj.cells #[.int .u64 d] 56))) := (Below.refl _ _).alloc (by rw [hs4]; exact Nat.le_refl _) _
              clear b3 hown3 E2
              go_wp2_with fail
              have W5 : Hid (Below w.heap.size w ((w3.setCell ⟨g, k, none⟩ (.int .u64 d)).alloc (Obj.cells #[.int .u64 d] 56))) := S4.out.trans (L4.out.mono (by have := S4.out.size; rw [hs4] at this; exact this))
              refine (rmul_any _ _ _ _ _ _ ys [d] _ (HB.out.below W5.out) A4.out (by omega) (by omega)).mono ?_
              rintro e w6 ⟨po, pm, pc, p, rfl, p1, p2, p3⟩
              rw [show val [d] = d by simp [val]] at p2
              have P1 : Hid (RowAt w6 po pm pc p) := p1
              have P2 : Hid (Num p (V * d)) := by
                rw [← HV.out.1] at p2
                exact p2
              have hpm : pm ≤ 9 := by
                have h1 := p1.len
                have h2 := P2.out.few (V := BB ^ 9) (n := 9) ?_ (Int.le_refl _)
                omega
                have h3 := HTB.out.2
                have h4 := HV.out.2.2
                have h5 := Int.mul_le_mul_of_nonneg_right h4 (Int.le_of_lt HH_pos)
                have h6 := Int.mul_le_mul_of_nonneg_left (show HH ≤ BB by unfold HH BB; omega) (Int.le_of_lt (pw_pos 8))
                have h7 := HVD.out
                rw [show (9 : Nat) = 8 + 1 from rfl, pw_succ]
                omega
              have hsa : w3.heap.size ≤ ((w3.setCell ⟨g, k, none⟩ (.int .u64 d)).alloc (Obj.cells #[.int .u64 d] 56)).heap.size := by
                have := L4.out.size
                rw [hs4] at this
                exact this
              have L6 : Hid (Below w3.heap.size (w3.setCell ⟨g, k, none⟩ (.int .u64 d)) w6) := L4.out.trans (p3.mono hsa)
              have TS6 : Hid (RowAt w6 tao tn tc ts) := TS.out.below (by rw [hs4]; exact L6.out)
              clear p1 p2 p3 hsa W5
              go_wp2_with fail
              refine (rsub_ok _ _ _ _ _ _ ts p _ TS6.out P1.out (by omega) (by omega) (by rw [P2.out.val, C2.out.val]; exact HVD.out)).mono ?_
              rintro e w7 ⟨so, sm, sc, ss, rfl, q1, q2, q3⟩
              rw [P2.out.val, C2.out.val] at q2
              have Q1 : Hid (RowAt w7 so sm sc ss) := q1
              have Q2 : Hid (Num ss (tv - V * d)) := q2
              have L7 : Hid (Below w3.heap.size (w3.setCell ⟨g, k, none⟩ (.int .u64 d)) w7) := L6.out.trans (q3.mono (by have := L6.out.size; rw [hs4] at this; exact this))
              clear q1 q2 q3
              go_wp2_with fail
              go_roundg k
              case measure => omega
              case rel => exact ⟨k, _, so, sm, sc, ss, _, _, by omega, Nat.le_refl _, rfl, rfl, rfl, HREL.out.next HDS.out.2.1 (by omega) HTV.out HDD.out E3.out L7.out Q1.out Q2.out⟩
            · have HLT : Hid (tv < V) := Int.not_le.1 hge
              have HC : Hid ((-1 : Int) = cmpI (val ts) (val ys)) := by
                show (-1 : Int) = cmpI (val ts) (val ys)
                rw [C2.out.val, ← HV.out.1, cmpI_lt HLT.out]
              clear hge
              go_wp2_with fail
              refine (rcmp_val _ _ _ _ _ _ ts ys _ C1.out HBX.out (by omega) (by omega) (-1) HC.out).mono ?_
              rintro e w2 ⟨rfl, b2⟩
              have E2 : Hid (Below wr.heap.size wr w2) := C4.out.trans (b2.mono C4.out.size)
              have E3 : Hid (RowAt w2 tao tn tc ts) := C1.out.below b2
              clear b2
              go_wp2_with fail
              go_roundg k
              case measure => omega
              case rel => exact ⟨k, _, tao, tn, tc, ts, qs, tv, by omega, Nat.le_refl _, rfl, rfl, rfl, HREL.out.skip HDS.out.2.1 HTV.out HLT.out E2.out E3.out C2.out⟩

end Go.Proofs.YtnedghhcidohnaaGreat

/-! The reference's Div of layer 3: what is divided has several limbs, or none. -/
namespace Go.Proofs.YtnedghhcidohnaaGreat
open Go.RowKit
attribute [local go_sem ↓] Go.wp_at_zero Go.wp_at_succ

theorem big10 {rs : List Int} {rv V : Int} (hn : Num rs rv) (h1 : rv < V) (h2 : V ≤ BB ^ 8) : val rs * val [(4294967296 : Int)] < BB ^ 10 := by
  rw [hn.val, show val [(4294967296 : Int)] = 4294967296 by simp [val], show (10 : Nat) = 8 + 1 + 1 from rfl, pw_succ, pw_succ]
  have h3 : rv * 4294967296 ≤ BB ^ 8 * 4294967296 := by omega
  have h4 := Int.mul_le_mul_of_nonneg_left (show (4294967296 : Int) ≤ BB by unfold BB; omega) (Int.le_of_lt (pw_pos 8))
  have h5 := Int.mul_lt_mul_of_pos_left (show (1 : Int) < BB by unfold BB; omega) (Int.mul_pos (pw_pos 8) BB_pos)
  omega
theorem few10 {ms rs : List Int} {mm : Nat} {rv V : Int} (hl : ms.length = mm) (hm : Num ms (val rs * val [(4294967296 : Int)])) (hn : Num rs rv) (h1 : rv < V) (h2 : V ≤ BB ^ 8) : mm ≤ 10 := by
  rw [← hl]; exact hm.few (big10 hn h1 h2) (Int.le_refl _)

set_option maxRecDepth 100000 in
set_option maxHeartbeats 4000000 in
theorem rqdiv_c (ao bo : Option Addr) (na ca nb cb : Nat) (xs ys : List Int) (w : World) (ha : RowAt w ao na ca xs) (hb : RowAt w bo nb cb ys) (hx : May xs) (hy : May ys) (hz : val ys ≠ 0) (h1 : na ≠ 1) :
    Calls Tryz.prog 87 #[.slice ao na ca, .slice bo nb cb] w fun e w' => ∃ qo qn qc q ro rn rc r k, e = .returned (.tuple #[.slice qo qn qc, .slice ro rn rc, .int .i64 k]) ∧ RowAt w' qo qn qc q ∧ RowAt w' ro rn rc r ∧ DivOut xs ys q r k ∧ Below w.heap.size w w' := by
  obtain ⟨i0, hi, hz0, hz1, hz2⟩ := info_parts Tryz.info56
  have HA : Hid (RowAt w ao na ca xs) := ha
  have HB : Hid (RowAt w bo nb cb ys) := hb
  have HX : Hid (May xs) := hx
  have HY : Hid (May ys) := hy
  have hna : na ≤ 8 := by have := hx.1; have := ha.len; omega
  have hnb : nb ≤ 8 := by have := hy.1; have := hb.len; omega
  have HZ : Hid (val ys ≠ 0) := hz
  have h0 : nb ≠ 0 := fun e => hz ((val_zero hb.limbs hy hb.len).1 e)
  have hb0 : ((nb : Int) == 0) = false := by rw [beq_eq_false_iff_ne]; omega
  clear ha hb hx hy hz
  have h1b : ((na : Int) == 1) = false := by rw [beq_eq_false_iff_ne]; omega
  go_enter Tryz.func87, Tryz.ntmps87
  go_wp2_with fail
  refine (rmay_val _ _ _ xs _ HA.out true (yes_iff HX.out)).mono ?_
  rintro e w1 ⟨rfl, rfl⟩
  go_wp2_with fail
  refine (rmay_val _ _ _ ys _ HB.out true (yes_iff HY.out)).mono ?_
  rintro e w1 ⟨rfl, rfl⟩
  go_wp2_with fail
  refine (digits_any _ _ _ xs _ HA.out (by omega)).mono ?_
  rintro e w1 ⟨xo, xc, rfl, x1, b1⟩
  have X1 : Hid (RowAt w1 xo (2 * na) xc (hd xs)) := x1
  have B1 : Hid (Below w.heap.size w w1) := b1
  clear x1 b1
  go_wp2_with fail
  go_loopg [8, 9] (2 * na) (fun k s8 s9 wr => ∃ j g c : Nat, j ≤ 2 * na ∧ 2 * na - j ≤ k ∧ s9 = .int .i64 j ∧ s8 = .slice (some ⟨g, 0, none⟩) j c ∧ OwnR wr w1.heap.size g j c (List.replicate j 0) ∧ Below w1.heap.size w1 wr)
  case atStart => exact ⟨0, w1.heap.size, 0, Nat.zero_le _, by omega, rfl, rfl, OwnR.nil w1, (Below.refl _ _).alloc (Nat.le_refl _) _⟩
  case round =>
    obtain ⟨j, g, c, hj, hjk, rfl, rfl, hown, hbel⟩ := hrel
    have HO : Hid (OwnR wr w1.heap.size g j c (List.replicate j 0)) := hown
    have HBL : Hid (Below w1.heap.size w1 wr) := hbel
    have hgw := hown.lt
    have hsz : w1.heap.size ≤ wr.heap.size := hbel.size
    clear hown hbel
    by_cases hlt1 : j < 2 * na
    · have hlt2 : (j : Int) < 2 * (na : Int) := by omega
      go_wp2_with (at_builtin; refine wpList_append_lies _ rfl (.tmp 58) (.tmp 59) 42 rfl w1.heap.size 56 i0 (.int .u64 0) 1 8 Tryz.underlying42 hi hz0 hz1 hz2 rfl (by decide) _ j ((List.replicate j (0 : Int)).map (Value.int .u64)) rfl (HO.out.alloc _) ⟨wr.heap.size, 0, none⟩ 1 1 [.int .u64 0] rfl rfl (World.news_of_block (cs := #[.int .u64 0]) (t := 56) (fr := (0, 0)) (heap_alloc_new wr _)) (by simp [Value.oneCell']) (by omega) (by unfold maxLen; omega) (by omega) (by simp; omega) (wr.heap.size + 1) (by simp) ?_)
      intro gg cp w3 hown1 hgrow _ _
      have HN : Hid (OwnR w3 w1.heap.size gg (j + 1) cp (List.replicate (j + 1) 0)) := by
        show OwnR w3 w1.heap.size gg (j + 1) cp (List.replicate (j + 1) 0)
        unfold OwnR
        rw [List.replicate_succ', List.map_append]
        simpa using hown1
      have HG : Hid (Below w1.heap.size w1 w3) := (HBL.out.alloc hsz _).grown hgrow (by simp; omega) (fun j hj => by cases hj; exact hgw.1)
      clear hown1 hgrow
      go_wp2_with fail
      go_roundg (gk - 1)
      case measure => omega
      case rel => exact ⟨j + 1, gg, cp, by omega, by omega, by go_num, rfl, HN.out, HG.out⟩
    · have hlt2 : ¬ (j : Int) < 2 * (na : Int) := by omega
      obtain ⟨L, hL⟩ : ∃ L, L = 2 * na := ⟨_, rfl⟩
      have hjL : j = L := by omega
      have HL : Hid (L = 2 * na) := hL
      have hLi : (2 : Int) * (na : Int) = (L : Int) := by omega
      have hLm : L ≤ 16 := by omega
      have hds : (hd xs).length = L := by rw [hd_length, HA.out.len, hL]
      have HDS : Hid ((hd xs).length = L ∧ Halves (hd xs) ∧ hval (hd xs) = val xs) := ⟨hds, hd_halves HA.out.limbs, hd_val xs⟩
      have X2 : Hid (RowAt w1 xo L xc (hd xs)) := by
        have h := X1.out
        rw [← hL] at h
        exact h
      obtain ⟨V, hV⟩ : ∃ V, V = val ys := ⟨_, rfl⟩
      have hVp : 0 < V := by
        have h1 := (val_bd HB.out.limbs).1
        have h2 := HZ.out
        omega
      have hVB : V ≤ BB ^ 8 := by rw [hV]; exact Int.le_of_lt (HY.out.lt HB.out.limbs)
      have HV : Hid (V = val ys ∧ 0 < V ∧ V ≤ BB ^ 8) := ⟨hV, hVp, hVB⟩
      have HR0 : Hid (RDivRel w1 g c L L (hd xs) V (some ⟨wr.heap.size, 0, none⟩) 0 0 [] (List.replicate L 0) 0 (wr.alloc (Obj.cells #[] 56))) :=
        ⟨(OwnR.nil wr).row (by intro x hx; simp at hx), Num.nil, by rw [← hjL]; exact HO.out.alloc _, HBL.out.alloc hsz _, rinv_start hVp hds⟩
      clear hL hds hV hVp hVB HO X1
      go_wp2_with fail
      go_loopg [10, 11] L (fun k s10 s11 wr => ∃ (j : Nat) (i : Int) (ro : Option Addr) (nr cr : Nat) (rs qs : List Int) (rv : Int), j ≤ L ∧ j ≤ k ∧ i = (j : Int) - 1 ∧ s11 = .int .i64 i ∧ s10 = .slice ro nr cr ∧ RDivRel w1 g c L j (hd xs) V ro nr cr rs qs rv wr)
      case atStart => exact ⟨L, (L : Int) - 1, _, _, _, _, _, _, Nat.le_refl _, Nat.le_refl _, rfl, by go_num, rfl, HR0.out⟩
      case round =>
        clear HR0
        obtain ⟨i1, i2, ro, nr, cr, rs, qs, rv, hjm, hjg, hij, rfl, rfl, hrel⟩ := hrel
        have HREL : Hid (RDivRel w1 g c L i1 (hd xs) V ro nr cr rs qs rv wr) := hrel
        have hnr : nr ≤ 8 := by
          have h1 := hrel.num.few hrel.inv.r1 HV.out.2.2
          have h2 := hrel.row.len
          omega
        have hsz2 : w1.heap.size ≤ wr.heap.size := hrel.bel.size
        have hgl := hrel.own.lt
        clear hrel
        cases i1 with
        | zero =>
          obtain rfl : i2 = -1 := by omega
          clear hij
          have hen := rinv_end HREL.out.inv
          rw [HDS.out.2.2, HV.out.1] at hen
          have HEN : Hid (hval qs = val xs / val ys ∧ rv = val xs % val ys) := hen
          have HQ : Hid (RowAt wr (some ⟨g, 0, none⟩) L c qs) := HREL.out.own.row HREL.out.inv.halves.limbs
          clear hen
          go_wp2_with fail
          refine (whole_any _ _ _ qs _ HQ.out HREL.out.inv.halves (by omega)).mono ?_
          rintro e w9 ⟨qo, qn, qc, q2, rfl, t1, t2, t3, t4⟩
          have T1 : Hid (RowAt w9 qo qn qc q2) := t1
          have T2 : Hid (Num q2 (val xs / val ys)) := by
            rw [HEN.out.1] at t2
            exact t2
          have T4 : Hid (Below wr.heap.size wr w9) := t4
          have T5 : Hid (Num rs (val xs % val ys)) := by
            have h := HREL.out.num
            rw [HEN.out.2] at h
            exact h
          clear t1 t2 t3 t4
          go_wp2_with fail
          go_ret3
          exact ⟨qo, qn, qc, q2, ro, nr, cr, rs, 0, rfl, T1.out, HREL.out.row.below T4.out, .fine ⟨HX.out, HY.out⟩ HZ.out T2.out T5.out, chain B1.out (HREL.out.bel.trans (T4.out.mono hsz2))⟩
        | succ k =>
          obtain rfl : i2 = (k : Int) := by omega
          clear hij
          obtain ⟨xb, xoff, rfl, hxlt, hxc⟩ := X2.out.cells (by intro e; have h := HDS.out.1; rw [e] at h; simp at h; omega)
          have hxk := hxc k (by rw [HDS.out.1]; omega)
          rw [← lim_nat] at hxk
          obtain ⟨xk, hxk'⟩ : ∃ v, v = lim (hd xs) k := ⟨_, rfl⟩
          rw [← hxk'] at hxk
          have hxr : wr.cell? ⟨xb, xoff + k, none⟩ = some (.int .u64 xk) := (HREL.out.bel.cell (p := ⟨xb, xoff + k, none⟩) hxlt).trans hxk
          have hxb : xb < wr.heap.size := Nat.lt_of_lt_of_le hxlt hsz2
          have hbx := half_bd HDS.out.2.1 k
          rw [← hxk'] at hbx
          have HXK : Hid (xk = lim (hd xs) k) := hxk'
          have x0 := hbx.1
          have x1 : xk < BB := by have := hbx.2; unfold HH at this; unfold BB; omega
          have X1' : Hid (0 ≤ xk ∧ xk < BB) := ⟨x0, x1⟩
          have hkL : (k : Int) < (L : Int) := by omega
          obtain ⟨tv, htv⟩ : ∃ v, v = rv * HH + lim (hd xs) k := ⟨_, rfl⟩
          have HTV : Hid (tv = rv * HH + lim (hd xs) k) := htv
          have htb := rinv_big HREL.out.inv HDS.out.2.1
          rw [← htv] at htb
          have HTB : Hid (0 ≤ tv ∧ tv < V * HH) := htb
          clear hxc hxk hxk' hbx htv htb x1
          go_upto_region 17 with fail
          go_cut [10] from 65 to 100 (fun s10 wx => ∃ (ro : Option Addr) (tn tc : Nat) (ts : List Int), s10 = .slice ro tn tc ∧ RowAt wx ro tn tc ts ∧ Num ts tv ∧ Fresh wr.heap.size ro ∧ Below wr.heap.size wr wx)
          case first =>
            have d0 : Below wr.heap.size wr wr.drew := (Below.refl _ _).drew
            have dP : Below wr.heap.size wr (wr.drew.alloc (Obj.cells #[.int .u64 4294967296] 56)) := d0.alloc (by simp) _
            have dX : Below wr.heap.size wr (wr.drew.alloc (Obj.cells #[.int .u64 xk] 56)) := d0.alloc (by simp) _
            have dPX : Below wr.heap.size wr ((wr.drew.alloc (Obj.cells #[.int .u64 4294967296] 56)).alloc (Obj.cells #[.int .u64 xk] 56)) := dP.alloc (by simp) _
            have dXP : Below wr.heap.size wr ((wr.drew.alloc (Obj.cells #[.int .u64 xk] 56)).alloc (Obj.cells #[.int .u64 4294967296] 56)) := dX.alloc (by simp) _
            have DP : Hid _ := dP
            have DX : Hid _ := dX
            have DPX : Hid _ := dPX
            have DXP : Hid _ := dXP
            have PB : Hid ((0 : Int) ≤ 4294967296 ∧ (4294967296 : Int) < BB) := by unfold BB; exact ⟨by omega, by omega⟩
            have o1 : RowAt (wr.drew.alloc (Obj.cells #[.int .u64 4294967296] 56)) (some ⟨wr.heap.size, 0, none⟩) 1 1 [4294967296] := one_row wr.drew _ PB.out.1 PB.out.2
            have o2 : RowAt (wr.drew.alloc (Obj.cells #[.int .u64 xk] 56)) (some ⟨wr.heap.size, 0, none⟩) 1 1 [xk] := one_row wr.drew _ X1'.out.1 X1'.out.2
            have P1 : Hid _ := o1
            have P2 : Hid (RowAt ((wr.drew.alloc (Obj.cells #[.int .u64 4294967296] 56)).alloc (Obj.cells #[.int .u64 xk] 56)) (some ⟨wr.heap.size, 0, none⟩) 1 1 [4294967296]) := o1.below ((Below.refl _ _).alloc (Nat.le_refl _) _)
            have P3 : Hid (RowAt ((wr.drew.alloc (Obj.cells #[.int .u64 xk] 56)).alloc (Obj.cells #[.int .u64 4294967296] 56)) (some ⟨wr.heap.size + 1, 0, none⟩) 1 1 [4294967296]) := by
              show RowAt ((wr.drew.alloc (Obj.cells #[.int .u64 xk] 56)).alloc (Obj.cells #[.int .u64 4294967296] 56)) (some ⟨wr.heap.size + 1, 0, none⟩) 1 1 [4294967296]
              have h := one_row (wr.drew.alloc (Obj.cells #[.int .u64 xk] 56)) 4294967296 PB.out.1 PB.out.2
              simpa using h
            have Y2 : Hid (RowAt ((wr.drew.alloc (Obj.cells #[.int .u64 4294967296] 56)).alloc (Obj.cells #[.int .u64 xk] 56)) (some ⟨wr.heap.size + 1, 0, none⟩) 1 1 [xk]) := by
              show RowAt ((wr.drew.alloc (Obj.cells #[.int .u64 4294967296] 56)).alloc (Obj.cells #[.int .u64 xk] 56)) (some ⟨wr.heap.size + 1, 0, none⟩) 1 1 [xk]
              have h := one_row (wr.drew.alloc (Obj.cells #[.int .u64 4294967296] 56)) xk X1'.out.1 X1'.out.2
              simpa using h
            have Y3 : Hid (RowAt ((wr.drew.alloc (Obj.cells #[.int .u64 xk] 56)).alloc (Obj.cells #[.int .u64 4294967296] 56)) (some ⟨wr.heap.size, 0, none⟩) 1 1 [xk]) := o2.below ((Below.refl _ _).alloc (Nat.le_refl _) _)
            clear d0 dP dX dPX dXP o1 o2
            go_region_held3 (fun w' => w'.cell? ⟨xb, xoff + k, none⟩ = some (.int .u64 xk)) (first | go_keep | (rw [bz.cell (p := ⟨xb, xoff + k, none⟩) hxb]; assumption))
              (first
                | (go_at_call 112; refine (rmul_any _ _ _ _ _ _ rs [4294967296] _ ?_ ?_ ?_ ?_).mono ?_; (first | exact HREL.out.row.below DP.out | exact HREL.out.row.below DPX.out | exact HREL.out.row.below DXP.out); (first | exact P1.out | exact P2.out | exact P3.out); omega; omega; rintro e wm ⟨mo, mm, mc, ms, rfl, m1, m2, m3⟩; (first | have bz := DP.out.trans (m3.mono DP.out.size) | have bz := DPX.out.trans (m3.mono DPX.out.size) | have bz := DXP.out.trans (m3.mono DXP.out.size)); have mf := few10 m1.len m2 HREL.out.num HREL.out.inv.r1 HV.out.2.2)
                | (go_at_call 111; refine (radd_fresh _ _ _ _ _ _ ms [xk] _ ?_ ?_ ?_ ?_).mono ?_; (first | exact m1 | exact m1.below ((Below.refl _ _).alloc (Nat.le_refl _) _)); (first | exact Y2.out.below m3 | exact Y3.out.below m3 | exact one_row wm xk X1'.out.1 X1'.out.2); omega; omega; rintro e wa ⟨no, nn, nc, ns, rfl, a1, a2, a3, a4⟩; (first | have fz := a3.mono bz.size | have fz := a3.mono (bz.alloc bz.size (Obj.cells #[.int .u64 xk] 56)).size); (first | have bz := bz.trans (a4.mono bz.size) | have bz := (bz.alloc bz.size (Obj.cells #[.int .u64 xk] 56)).trans (a4.mono (bz.alloc bz.size (Obj.cells #[.int .u64 xk] 56)).size))))
            all_goals
              have R1 : Hid (RowAt wa no nn nc ns) := a1
              have R2 : Hid (Num ns tv) := by
                rw [m2.val, HREL.out.num.val, show val [(4294967296 : Int)] = HH by simp [val, HH], show val [xk] = xk by simp [val], HXK.out, ← HTV.out] at a2
                exact a2
              have R3 : Hid (Fresh wr.heap.size no) := fz
              have R4 : Hid (Below wr.heap.size wr wa) := bz
              clear m1 m2 m3 mf a1 a2 a3 a4 fz bz P1 P2 P3 Y2 Y3 DP DX DPX DXP
              go_wp2_with fail
              go_meet
              exact ⟨no, nn, nc, ns, rfl, R1.out, R2.out, R3.out, R4.out⟩
          case rest =>
            rename World => wx
            obtain ⟨tao, tn, tc, ts, rfl, c1, c2, c3, c4⟩ := hcut
            have C1 : Hid (RowAt wx tao tn tc ts) := c1
            have C2 : Hid (Num ts tv) := c2
            have C3 : Hid (Fresh wr.heap.size tao) := c3
            have C4 : Hid (Below wr.heap.size wr wx) := c4
            have htn : tn ≤ 9 := by
              have h1 := c1.len
              have h2 := c2.few (V := BB ^ 9) (n := 9) ?_ (Int.le_refl _)
              omega
              have h3 := HTB.out.2
              have h4 := HV.out.2.2
              have h5 := Int.mul_le_mul_of_nonneg_right h4 (Int.le_of_lt HH_pos)
              have h6 := Int.mul_le_mul_of_nonneg_left (show HH ≤ BB by unfold HH BB; omega) (Int.le_of_lt (pw_pos 8))
              rw [show (9 : Nat) = 8 + 1 from rfl, pw_succ]
              omega
            have WB : Hid (Below w.heap.size w wx) := B1.out.trans ((HREL.out.bel.trans (c4.mono hsz2)).mono B1.out.size)
            have HBX : Hid (RowAt wx bo nb cb ys) := HB.out.below WB.out
            clear c1 c2 c3 c4
            by_cases hge : V ≤ tv
            · obtain ⟨cv, hcv⟩ : ∃ c, c = cmpI (val ts) (val ys) := ⟨_, rfl⟩
              have hc0 : 0 ≤ cv := by rw [hcv, C2.out.val, ← HV.out.1]; exact cmpI_ge hge
              have HC : Hid (cv = cmpI (val ts) (val ys)) := hcv
              obtain ⟨d, hd⟩ : ∃ d, d = tv / V := ⟨_, rfl⟩
              have HDD : Hid (d = tv / V) := hd
              have hd0 : 0 ≤ d := by rw [hd]; exact Int.ediv_nonneg HTB.out.1 (Int.le_of_lt HV.out.2.1)
              have hd1 : d < 4294967296 := by
                rw [hd]
                exact Int.ediv_lt_of_lt_mul HV.out.2.1 (by have h := HTB.out.2; unfold HH at h; rw [Int.mul_comm]; exact h)
              have HVD : Hid (V * d ≤ tv) := by
                have h := Int.mul_ediv_self_le (x := tv) (k := V) (by have := HV.out.2.1; omega)
                rw [← hd] at h
                exact h
              clear hcv hd hge
              go_wp2_with fail
              refine (rcmp_val _ _ _ _ _ _ ts ys _ C1.out HBX.out (by omega) (by omega) cv HC.out).mono ?_
              rintro e w2 ⟨rfl, b2⟩
              have E2 : Hid (Below wx.heap.size wx w2) := b2
              clear b2
              go_wp2_with fail
              refine (rtimes_any _ _ _ _ _ _ ts ys _ (C1.out.below E2.out) (HBX.out.below E2.out) (by omega) (by omega) (by rw [← HV.out.1]; exact HV.out.2.1) (by rw [C2.out.val, ← HV.out.1]; exact HTB.out.2)).mono ?_
              rintro e w3 ⟨rfl, b3⟩
              rw [C2.out.val, ← HV.out.1, ← HDD.out]
              have E3 : Hid (Below wr.heap.size wr w3) := C4.out.trans ((chain E2.out b3).mono C4.out.size)
              have hgw3 : g < w3.heap.size := Nat.lt_of_lt_of_le hgl.2 E3.out.size
              have hown3 := HREL.out.own.below E3.out
              have hq3 : w3.cell? ⟨g, k, none⟩ = some (.int .u64 (lim qs k)) := by
                rw [World.ownsRow.cellAt hown3 k (by omega), lim_nat]
                simp [show k < qs.length by rw [HREL.out.inv.len]; omega]
              have hf3 : w3.frozen? ⟨g, k, none⟩ = false := World.ownsRow.frozenAt hown3 k
              have T3 : Hid (RowAt w3 tao tn tc ts) := C1.out.below (chain E2.out b3)
              have hszr : wr.heap.size ≤ w3.heap.size := E3.out.size
              have TS : Hid (RowAt (w3.setCell ⟨g, k, none⟩ (.int .u64 d)) tao tn tc ts) := T3.out.far C3.out hgl.2 _ _
              have S4 : Hid (Below w.heap.size w (w3.setCell ⟨g, k, none⟩ (.int .u64 d))) := (WB.out.trans ((chain E2.out b3).mono WB.out.size)).setCell (Nat.le_trans B1.out.size hgl.1) _
              have hs4 : (w3.setCell ⟨g, k, none⟩ (.int .u64 d)).heap.size = w3.heap.size := by simp [World.setCell]
              have A4 : Hid (RowAt ((w3.setCell ⟨g, k, none⟩ (.int .u64 d)).alloc (Obj.cells #[.int .u64 d] 56)) (some ⟨w3.heap.size, 0, none⟩) 1 1 [d]) := by
                have h := one_row (w3.setCell ⟨g, k, none⟩ (.int .u64 d)) d hd0 (by unfold BB; omega)
                rw [hs4] at h
                exact h
              have L4 : Hid (Below w3.heap.size (w3.setCell ⟨g, k, none⟩ (.int .u64 d)) ((w3.setCell ⟨g, k, none⟩ (.int .u64 d)).alloc (Obj.cells #[.int .u64 d] 56))) := (Below.refl _ _).alloc (by rw [hs4]; exact Nat.le_refl _) _
              clear b3 hown3 E2
              go_wp2_with fail
              have W5 : Hid (Below w.heap.size w ((w3.setCell ⟨g, k, none⟩ (.int .u64 d)).alloc (Obj.cells #[.int .u64 d] 56))) := S4.out.trans (L4.out.mono (by have := S4.out.size; rw [hs4] at this; exact this))
              refine (rmul_any _ _ _ _ _ _ ys [d] _ (HB.out.below W5.out) A4.out (by omega) (by omega)).mono ?_
              rintro e w6 ⟨po, pm, pc, p, rfl, p1, p2, p3⟩
              rw [show val [d] = d by simp [val]] at p2
              have P1 : Hid (RowAt w6 po pm pc p) := p1
              have P2 : Hid (Num p (V * d)) := by
                rw [← HV.out.1] at p2
                exact p2
              have hpm : pm ≤ 9 := by
                have h1 := p1.len
                have h2 := P2.out.few (V := BB ^ 9) (n := 9) ?_ (Int.le_refl _)
                omega
                have h3 := HTB.out.2
                have h4 := HV.out.2.2
                have h5 := Int.mul_le_mul_of_nonneg_right h4 (Int.le_of_lt HH_pos)
                have h6 := Int.mul_le_mul_of_nonneg_left (show HH ≤ BB by unfold HH BB; omega) (Int.le_of_lt (pw_pos 8))
                have h7 := HVD.out
                rw [show (9 : Nat) = 8 + 1 from rfl, pw_succ]
                omega
              have hsa : w3.heap.size ≤ ((w3.setCell ⟨g, k, none⟩ (.int .u64 d)).alloc (Obj.cells #[.int .u64 d] 56)).heap.size := by
                have := L4.out.size
                rw [hs4] at this
                exact this
              have L6 : Hid (Below w3.heap.size (w3.setCell ⟨g, k, none⟩ (.int .u64 d)) w6) := L4.out.trans (p3.mono hsa)
              have TS6 : Hid (RowAt w6 tao tn tc ts) := TS.out.below (by rw [hs4]; exact L6.out)
              clear p1 p2 p3 hsa W5
              go_wp2_with fail
              refine (rsub_ok _ _ _ _ _ _ ts p _ TS6.out P1.out (by omega) (by omega) (by rw [P2.out.val, C2.out.val]; exact HVD.out)).mono ?_
              rintro e w7 ⟨so, sm, sc, ss, rfl, q1, q2, q3⟩
              rw [P2.out.val, C2.out.val] at q2
              have Q1 : Hid (RowAt w7 so sm sc ss) := q1
              have Q2 : Hid (Num ss (tv - V * d)) := q2
              have L7 : Hid (Below w3.heap.size (w3.setCell ⟨g, k, none⟩ (.int .u64 d)) w7) := L6.out.trans (q3.mono (by have := L6.out.size; rw [hs4] at this; exact this))
              clear q1 q2 q3
              go_wp2_with fail
              go_roundg k
              case measure => omega
              case rel => exact ⟨k, _, so, sm, sc, ss, _, _, by omega, Nat.le_refl _, rfl, rfl, rfl, HREL.out.next HDS.out.2.1 (by omega) HTV.out HDD.out E3.out L7.out Q1.out Q2.out⟩
            · have HLT : Hid (tv < V) := Int.not_le.1 hge
              have HC : Hid ((-1 : Int) = cmpI (val ts) (val ys)) := by
                show (-1 : Int) = cmpI (val ts) (val ys)
                rw [C2.out.val, ← HV.out.1, cmpI_lt HLT.out]
              clear hge
              go_wp2_with fail
              refine (rcmp_val _ _ _ _ _ _ ts ys _ C1.out HBX.out (by omega) (by omega) (-1) HC.out).mono ?_
              rintro e w2 ⟨rfl, b2⟩
              have E2 : Hid (Below wr.heap.size wr w2) := C4.out.trans (b2.mono C4.out.size)
              have E3 : Hid (RowAt w2 tao tn tc ts) := C1.out.below b2
              clear b2
              go_wp2_with fail
              go_roundg k
              case measure => omega
              case rel => exact ⟨k, _, tao, tn, tc, ts, qs, tv, by omega, Nat.le_refl _, rfl, rfl, rfl, HREL.out.skip HDS.out.2.1 HTV.out HLT.out E2.out E3.out C2.out⟩

end Go.Proofs.YtnedghhcidohnaaGreat

/-! The reference's Div of layer 3: all of it. -/
namespace Go.Proofs.YtnedghhcidohnaaGreat
open Go.RowKit
attribute [local go_sem ↓] Go.wp_at_zero Go.wp_at_succ

set_option maxHeartbeats 1000000 in
theorem rqdiv_any (ao bo : Option Addr) (na ca nb cb : Nat) (xs ys : List Int) (w : World) (ha : RowAt w ao na ca xs) (hb : RowAt w bo nb cb ys) :
    Calls Tryz.prog 87 #[.slice ao na ca, .slice bo nb cb] w fun e w' => ∃ qo qn qc q ro rn rc r k, e = .returned (.tuple #[.slice qo qn qc, .slice ro rn rc, .int .i64 k]) ∧ RowAt w' qo qn qc q ∧ RowAt w' ro rn rc r ∧ DivOut xs ys q r k ∧ Below w.heap.size w w' := by
  by_cases hx : May xs
  · by_cases hy : May ys
    · by_cases hz : val ys = 0
      · have h0 : nb = 0 := (val_zero hb.limbs hy hb.len).2 hz
        have HA : Hid (RowAt w ao na ca xs) := ha
        have HB : Hid (RowAt w bo nb cb ys) := hb
        have HX : Hid (May xs) := hx
        have HY : Hid (May ys) := hy
        have HZ : Hid (val ys = 0) := hz
        have hna : na ≤ 8 := by have := hx.1; have := ha.len; omega
        subst h0
        clear ha hb hx hy hz
        go_enter Tryz.func87, Tryz.ntmps87
        go_wp2_with fail
        refine (rmay_val _ _ _ xs _ HA.out true (yes_iff HX.out)).mono ?_
        rintro e w1 ⟨rfl, rfl⟩
        go_wp2_with fail
        refine (rmay_val _ _ _ ys _ HB.out true (yes_iff HY.out)).mono ?_
        rintro e w1 ⟨rfl, rfl⟩
        go_wp2_with fail
        go_ret3
        exact ⟨none, 0, 0, [], none, 0, 0, [], 30, rfl, RowAt.nil _, RowAt.nil _, .zero ⟨HX.out, HY.out⟩ HZ.out, Below.refl _ _⟩
      · by_cases h1 : na = 1
        · by_cases h2 : nb = 1
          · exact rqdiv_one ao bo na ca nb cb xs ys w ha hb hx hy hz h1 h2
          · exact rqdiv_b ao bo na ca nb cb xs ys w ha hb hx hy hz h1 h2
        · exact rqdiv_c ao bo na ca nb cb xs ys w ha hb hx hy hz h1
    · have HA : Hid (RowAt w ao na ca xs) := ha
      have HB : Hid (RowAt w bo nb cb ys) := hb
      have HX : Hid (May xs) := hx
      have HY : Hid (¬ May ys) := hy
      clear ha hb hx hy
      go_enter Tryz.func87, Tryz.ntmps87
      go_wp2_with fail
      refine (rmay_val _ _ _ xs _ HA.out true (yes_iff HX.out)).mono ?_
      rintro e w1 ⟨rfl, rfl⟩
      go_wp2_with fail
      refine (rmay_val _ _ _ ys _ HB.out false (no_iff HY.out)).mono ?_
      rintro e w1 ⟨rfl, rfl⟩
      go_wp2_with fail
      go_ret3
      exact ⟨none, 0, 0, [], none, 0, 0, [], 1, rfl, RowAt.nil _, RowAt.nil _, .arg (fun h => HY.out h.2), Below.refl _ _⟩
  · have HA : Hid (RowAt w ao na ca xs) := ha
    have HX : Hid (¬ May xs) := hx
    clear ha hb hx
    go_enter Tryz.func87, Tryz.ntmps87
    go_wp2_with fail
    refine (rmay_val _ _ _ xs _ HA.out false (no_iff HX.out)).mono ?_
    rintro e w1 ⟨rfl, rfl⟩
    go_wp2_with fail
    go_ret3
    exact ⟨none, 0, 0, [], none, 0, 0, [], 1, rfl, RowAt.nil _, RowAt.nil _, .arg (fun h => HX.out h.1), Below.refl _ _⟩

end Go.Proofs.YtnedghhcidohnaaGreat

/-! The reference's Small, Gcd and Lcm of layer 3; the statements' held and shown. -/
namespace Go.Proofs.YtnedghhcidohnaaGreat
open Go.RowKit

set_option maxRecDepth 100000 in
set_option maxHeartbeats 2000000 in
theorem rqgcd_any (ao bo : Option Addr) (na ca nb cb : Nat) (xs ys : List Int) (w : World) (ha : RowAt w ao na ca xs) (hb : RowAt w bo nb cb ys) :
    Calls Tryz.prog 60 #[.slice ao na ca, .slice bo nb cb] w fun e w' => ∃ ro m cap r k, e = .returned (.tuple #[.slice ro m cap, .int .i64 k]) ∧ RowAt w' ro m cap r ∧ Out (May xs ∧ May ys) False (gcdI (val xs) (val ys)) r k ∧ Below w.heap.size w w' := by
  have HA : Hid (RowAt w ao na ca xs) := ha
  have HB : Hid (RowAt w bo nb cb ys) := hb
  have la := ha.len
  have lb := hb.len
  clear ha hb
  by_cases hx : May xs
  · have HX : Hid (May xs) := hx
    clear hx
    by_cases hy : May ys
    · have HY : Hid (May ys) := hy
      clear hy la lb
      obtain ⟨g, hg⟩ : ∃ g, gcdI (val xs) (val ys) = g := ⟨_, rfl⟩
      rw [hg]
      have hgB : g < Big := by rw [← hg]; exact gcdI_lt (val_bd HA.out.limbs).1 (val_bd HB.out.limbs).1 (HX.out.lt HA.out.limbs) (HY.out.lt HB.out.limbs)
      have HGB : Hid (g < Big) := hgB
      have H0 : Hid (RowAt w ao na ca xs ∧ RowAt w bo nb cb ys ∧ May xs ∧ May ys ∧ gcdI (val xs) (val ys) = g ∧ Below w.heap.size w w) := ⟨HA.out, HB.out, HX.out, HY.out, hg, Below.refl _ _⟩
      clear hg hgB
      go_enter Tryz.func60, Tryz.ntmps60
      go_wp2_with fail
      refine (rmay_val _ _ _ xs _ HA.out true (yes_iff HX.out)).mono ?_
      rintro e w1 ⟨rfl, rfl⟩
      go_wp2_with fail
      refine (rmay_val _ _ _ ys _ HB.out true (yes_iff HY.out)).mono ?_
      rintro e w1 ⟨rfl, rfl⟩
      go_wp2_with fail
      obtain ⟨P, hP⟩ : ∃ P : Prop, P = (May xs ∧ May ys) := ⟨_, rfl⟩
      have HP : Hid P := by rw [hP]; exact ⟨HX.out, HY.out⟩
      have HPE : Hid (P = (May xs ∧ May ys)) := hP
      clear hP HX HY HA HB
      go_loopg [0, 1] ((val ys).toNat) (fun k s0 s1 wr => ∃ (ao bo : Option Addr) (na ca nb cb : Nat) (xs ys : List Int), s0 = .slice ao na ca ∧ s1 = .slice bo nb cb ∧ (val ys).toNat ≤ k ∧ (RowAt wr ao na ca xs ∧ RowAt wr bo nb cb ys ∧ May xs ∧ May ys ∧ gcdI (val xs) (val ys) = g ∧ Below w.heap.size w wr))
      case atStart => exact ⟨ao, bo, na, ca, nb, cb, xs, ys, rfl, rfl, Nat.le_refl _, H0.out⟩
      case round =>
        clear H0
        obtain ⟨co, do_, nc, cc, nd, cd, us, vs, rfl, rfl, hk, ha, hb, hx, hy, hg, hbel⟩ := hrel
        have HA : Hid (RowAt wr co nc cc us) := ha
        have HB : Hid (RowAt wr do_ nd cd vs) := hb
        have HX : Hid (May us) := hx
        have HY : Hid (May vs) := hy
        have HG : Hid (gcdI (val us) (val vs) = g) := hg
        have HBL : Hid (Below w.heap.size w wr) := hbel
        have hu0 := (val_bd ha.limbs).1
        have hv0 := (val_bd hb.limbs).1
        have lv := val_zero hb.limbs hy hb.len
        have HK : Hid ((val vs).toNat ≤ gk) := hk
        have HUV : Hid (0 ≤ val us ∧ 0 ≤ val vs) := ⟨hu0, hv0⟩
        have hnd8 : nd ≤ 8 := by have := hy.1; have := hb.len; omega
        clear ha hb hx hy hg hbel hk hu0 hv0
        by_cases hz : nd = 0
        · have HE : Hid (val us = g) := by
            have h := HG.out
            rw [lv.1 hz, gcdI_zero HUV.out.1] at h
            exact h
          subst hz
          clear lv
          go_wp2_with fail
          go_ret2
          refine ⟨co, nc, cc, us, 0, rfl, HA.out, ?_, HBL.out⟩
          rw [← HPE.out]
          exact .fine us HP.out (fun f => f) HGB.out (by rw [← HE.out]; exact num_self HA.out.limbs HX.out)
        · have HVP : Hid (0 < val vs) := by
            have h := HUV.out.2
            have : val vs ≠ 0 := fun e => hz (lv.2 e)
            show 0 < val vs
            omega
          have hdp : (0 : Int) < (nd : Int) := by omega
          clear lv
          go_wp2_with fail
          refine (rqdiv_any _ _ _ _ _ _ us vs _ HA.out HB.out).mono ?_
          rintro e w2 ⟨qo, qn, qc, q, ro, rn, rc, r, k, rfl, f1, f2, f3, f4⟩
          have f5 := f3.is_fine ⟨HX.out, HY.out⟩ (by have := HVP.out; omega)
          have F2 : Hid (RowAt w2 ro rn rc r) := f2
          have hm0 := Int.emod_nonneg (val us) (show val vs ≠ 0 by have := HVP.out; omega)
          have hm1 := Int.emod_lt_of_pos (val us) HVP.out
          have F5 : Hid (Num r (val us % val vs)) := f5.2.2
          have F6 : Hid (May r) := f5.2.2.may.2 (by have := HY.out.lt HB.out.limbs; omega)
          have F4 : Hid (Below wr.heap.size wr w2) := f4
          have FJ : Hid (gcdI (val vs) (val r) = g) := by
            show gcdI (val vs) (val r) = g
            rw [f5.2.2.val, ← gcdI_step HUV.out.1 HUV.out.2]; exact HG.out
          have FM : Hid ((val r).toNat < gk) := by
            have := HK.out
            have := HVP.out
            show (val r).toNat < gk
            rw [f5.2.2.val]
            omega
          clear f1 f2 f3 f4 f5 hm0 hm1
          go_wp2_with fail
          go_roundg ((val r).toNat)
          case measure => exact FM.out
          case rel => exact ⟨do_, ro, nd, cd, rn, rc, vs, r, rfl, rfl, Nat.le_refl _, HB.out.below F4.out, F2.out, HY.out, F6.out, FJ.out, HBL.out.trans (F4.out.mono HBL.out.size)⟩
    · have HY : Hid (¬ May ys) := hy
      clear hy la lb
      go_enter Tryz.func60, Tryz.ntmps60
      go_wp2_with fail
      refine (rmay_val _ _ _ xs _ HA.out true (yes_iff HX.out)).mono ?_
      rintro e w1 ⟨rfl, rfl⟩
      go_wp2_with fail
      refine (rmay_val _ _ _ ys _ HB.out false (no_iff HY.out)).mono ?_
      rintro e w1 ⟨rfl, rfl⟩
      go_wp2_with fail
      go_ret2
      exact ⟨none, 0, 0, [], 1, rfl, RowAt.nil _, .arg (fun h => HY.out h.2), Below.refl _ _⟩
  · have HX : Hid (¬ May xs) := hx
    clear hx la lb
    go_enter Tryz.func60, Tryz.ntmps60
    go_wp2_with fail
    refine (rmay_val _ _ _ xs _ HA.out false (no_iff HX.out)).mono ?_
    rintro e w1 ⟨rfl, rfl⟩
    go_wp2_with fail
    go_ret2
    exact ⟨none, 0, 0, [], 1, rfl, RowAt.nil _, .arg (fun h => HX.out h.1), Below.refl _ _⟩

theorem num1 {x : Int} (h0 : 0 < x) (h1 : x < BB) : Num [x] x := by
  refine ⟨?_, ?_, by simp [val]⟩
  · intro y hy
    simp at hy
    subst hy
    exact ⟨by omega, h1⟩
  · intro n hn
    simp at hn
    subst hn
    simp
    omega

theorem seven {q r : List Int} {k : Int} (h : DivOut [7] [2] q r k) : k = 0 ∧ q = [3] ∧ r = [1] := by
  have hB : BB = 18446744073709551616 := rfl
  have hb := Big_BB
  have n7 : Num [7] 7 := num1 (by omega) (by omega)
  have n2 : Num [2] 2 := num1 (by omega) (by omega)
  have f := h.is_fine ⟨n7.may.2 (by omega), n2.may.2 (by omega)⟩ (by rw [n2.val]; omega)
  rw [n7.val, n2.val] at f
  exact ⟨f.1, f.2.1.one (num1 (by omega) (by omega)), f.2.2.one (num1 (by omega) (by omega))⟩

end Go.Proofs.YtnedghhcidohnaaGreat
