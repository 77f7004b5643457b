/-
  Joined: RFrom · RFromA.
-/
import Derived.Deep.AppendLies
import Derived.Deep.CutBlock
import Derived.Deep.CutRange
import Derived.Deep.LoopGhost
import Derived.Deep.RegionHeld3
import Derived.Laws.CopyOwn
import Derived.LoopIn
import Derived.LoopNIn
import Derived.Maps.AppendAt
import Derived.OwnWalkIn
import Derived.RangeFuncBound
import Derived.RangeFuncBox
import Derived.RangeFuncCalls
import Derived.RangeFuncLeaves
import Derived.RangeFuncNested
import Derived.TacticsInMore
import Derived.WalkKit
import Derived.Test.YtnedghhcidohnaaGreatJE1
import Derived.Test.YtnedghhcidohnaaGreatTextMath
import Derived.Test.YtnedghhcidohnaaGreatJG1
import Derived.Test.YtnedghhcidohnaaGreatJH1

/-! The reference's From of layer 4. -/
namespace Go.Proofs.YtnedghhcidohnaaGreat
open Go.RowKit
attribute [local go_sem ↓] Go.wp_at_zero Go.wp_at_succ

/-- What the reference's From holds, j digits being left. -/
structure RFromRel (w : World) (b : Int) (l : List Int) (j : Nat) (xo : Option Addr) (xn xc : Nat) (x : List Int) (wr : World) : Prop where
  row : RowAt wr xo xn xc x
  num : Num x (dval b (l.drop j))
  small : dval b (l.drop j) < Big
  bel : Below w.heap.size w wr

theorem few18 {ms : List Int} {mm : Nat} {v b : Int} (hl : ms.length = mm) (hm : Num ms (v * b)) (h0 : 0 ≤ v) (h1 : v < Big) (hb0 : 0 ≤ b) (hb : b < BB) : mm ≤ 9 := by
  have h2 : v * b < BB ^ 9 := by
    rw [pw_succ]
    have h3 := Int.mul_le_mul (Int.le_of_lt h1) (Int.le_of_lt hb) hb0 (Int.le_of_lt Big_pos)
    rcases Int.lt_or_le (v * b) (BB ^ 8 * BB) with h | h
    · exact h
    · have h4 : v * b ≤ v * (BB - 1) := Int.mul_le_mul_of_nonneg_left (by omega) h0
      have h5 : v * (BB - 1) ≤ (Big - 1) * (BB - 1) := Int.mul_le_mul_of_nonneg_right (by omega) (by have := BB_two; omega)
      have h6 : (Big - 1) * (BB - 1) < BB ^ 8 * BB := by
        have e : (Big - 1) * (BB - 1) = Big * BB - Big - BB + 1 := by grind
        have := Big_one
        have := BB_two
        unfold Big at *
        omega
      omega
  have := hm.few h2 (Int.le_refl _)
  omega

set_option maxRecDepth 100000 in
set_option maxHeartbeats 4000000 in
theorem rfrom_yes (ao : Option Addr) (n cap : Nat) (l : List Int) (b : Int) (w : World) (h : RowAt w ao n cap l) (hb2 : 2 ≤ b) (hbB : b < BB) (hd : Digs b l) :
    Calls Tryz.prog 93 #[.slice ao n cap, .int .u64 b] w fun e w' => ∃ ro m c r k, e = .returned (.tuple #[.slice ro m c, .int .i64 k]) ∧ RowAt w' ro m c r ∧ Out (2 ≤ b ∧ Digs b l) False (dval b l) r k ∧ Below w.heap.size w w' := by
  have hn : n ≤ 9223372036854775807 := by have := h.fits; have := h.most; unfold maxLen at this; omega
  have HA : Hid (RowAt w ao n cap l ∧ 2 ≤ b ∧ b < BB ∧ Digs b l ∧ l.length = n) := ⟨h, hb2, hbB, hd, h.len⟩
  have hb' : ¬ b < 2 := by omega
  clear h hd hb2 hbB
  go_enter Tryz.func93, Tryz.ntmps93
  go_wp2_with fail
  go_loopw [6] (fun i wr => ∃ k : Nat, k ≤ n ∧ i = .int .i64 k ∧ wr = w) (fun i _ => n - (intOf i).toNat)
  case atStart => exact ⟨0, Nat.zero_le _, rfl, rfl⟩
  case round =>
    obtain ⟨k, hk, rfl, rfl⟩ := hrel
    by_cases hlt : k < n
    · have hlt' : (k : Int) < (n : Int) := by omega
      have hkl : k < l.length := by rw [HA.out.2.2.2.2]; exact hlt
      obtain ⟨lb, loff, rfl, hllt, hlc⟩ := HA.out.1.cells (by intro e; rw [e] at hkl; simp at hkl)
      have hck := hlc k hkl
      have hm : l.getD k 0 ∈ l := by
        rw [List.getD_eq_getElem?_getD, List.getElem?_eq_getElem hkl]
        exact List.getElem_mem _
      have hdk := HA.out.2.2.2.1 _ hm
      obtain ⟨x, hx⟩ : ∃ x, x = l.getD k 0 := ⟨_, rfl⟩
      rw [← hx] at hck hdk
      have hge : ¬ b ≤ x := by omega
      clear hlc hm hx hkl
      go_wp2_with fail
      go_roundw
      case rel => exact ⟨k + 1, by omega, by go_num, by first | rfl | trivial⟩
      case measure => simp [intOf]; omega
    · have hkn : k = n := by omega
      have hlt' : ¬ (k : Int) < (n : Int) := by omega
      have HR0 : Hid (RFromRel wr b l n (some ⟨wr.heap.size, 0, none⟩) 0 0 [] (wr.alloc (Obj.cells #[] 56))) := ⟨(OwnR.nil wr).row (by intro x hx; simp at hx), by rw [List.drop_of_length_le (by rw [HA.out.2.2.2.2]; omega)]; exact Num.nil, by rw [List.drop_of_length_le (by rw [HA.out.2.2.2.2]; omega)]; exact Big_pos, (Below.refl _ _).alloc (Nat.le_refl _) _⟩
      clear hkn hk
      go_wp2_with fail
      go_loopg [7, 8] n (fun k s7 s8 wq => ∃ (j : Nat) (i : Int) (xo : Option Addr) (xn xc : Nat) (x : List Int), j ≤ n ∧ j ≤ k ∧ i = (j : Int) - 1 ∧ s8 = .int .i64 i ∧ s7 = .slice xo xn xc ∧ RFromRel wr b l j xo xn xc x wq)
      case atStart => exact ⟨n, (n : Int) - 1, _, _, _, _, Nat.le_refl _, Nat.le_refl _, rfl, by go_num, rfl, HR0.out⟩
      case round =>
        clear HR0
        rename World => wq
        obtain ⟨i1, i2, xo, xn, xc, x, hjm, hjg, hij, rfl, rfl, hrel⟩ := hrel
        have HREL : Hid (RFromRel wr b l i1 xo xn xc x wq) := hrel
        have hxn : xn ≤ 8 := by
          have h1 := hrel.num.le8.2 hrel.small
          have h2 := hrel.row.len
          omega
        clear hrel
        cases i1 with
        | zero =>
          obtain rfl : i2 = -1 := by omega
          clear hij
          go_wp2_with fail
          go_ret2
          exact ⟨xo, xn, xc, x, 0, rfl, HREL.out.row, Out.fine x ⟨HA.out.2.1, HA.out.2.2.2.1⟩ (fun f => f) HREL.out.small HREL.out.num, HREL.out.bel⟩
        | succ k =>
          obtain rfl : i2 = (k : Int) := by omega
          clear hij
          have hkl : k < l.length := by rw [HA.out.2.2.2.2]; omega
          obtain ⟨lb, loff, rfl, hllt, hlc⟩ := HA.out.1.cells (by intro e; rw [e] at hkl; simp at hkl)
          have hxk := hlc k hkl
          have hm : l.getD k 0 ∈ l := by
            rw [List.getD_eq_getElem?_getD, List.getElem?_eq_getElem hkl]
            exact List.getElem_mem _
          have hdk := HA.out.2.2.2.1 _ hm
          have hdv := dval_drop b l k hkl
          obtain ⟨xk, hxk'⟩ : ∃ v, v = l.getD k 0 := ⟨_, rfl⟩
          rw [← hxk'] at hxk hdk hdv
          have hxr : wq.cell? ⟨lb, loff + k, none⟩ = some (.int .u64 xk) := (HREL.out.bel.cell (p := ⟨lb, loff + k, none⟩) hllt).trans hxk
          have hxb : lb < wq.heap.size := Nat.lt_of_lt_of_le hllt HREL.out.bel.size
          have X1' : Hid (0 ≤ xk ∧ xk < BB) := ⟨hdk.1, by have := HA.out.2.2.1; omega⟩
          have PB : Hid (0 ≤ b ∧ b < BB) := ⟨by omega, HA.out.2.2.1⟩
          have hkn : (k : Int) < (n : Int) := by omega
          obtain ⟨tv, htv⟩ : ∃ v, v = dval b (l.drop k) := ⟨_, rfl⟩
          have HTV : Hid (tv = dval b (l.drop k) ∧ dval b (l.drop (k + 1)) * b + xk = tv ∧ 0 ≤ dval b (l.drop (k + 1)) ∧ dval b (l.drop (k + 1)) < Big) := ⟨htv, by rw [htv, hdv, Int.mul_comm, Int.add_comm], HREL.out.num.nonneg, HREL.out.small⟩
          have hle := dval_drop_le (b := b) (by omega) HA.out.2.2.2.1 k
          rw [← htv] at hle
          have HLE : Hid (tv ≤ dval b l) := hle
          clear hlc hxk hxk' hdk hdv htv hm hle hkl
          go_upto_region 12 with fail
          go_cut [7] from 27 to 43 (fun s7 wx => ∃ (ro : Option Addr) (tn tc : Nat) (ts : List Int), s7 = .slice ro tn tc ∧ RowAt wx ro tn tc ts ∧ Num ts tv ∧ Below wq.heap.size wq wx)
          case first =>
            have d0 : Below wq.heap.size wq wq.drew := (Below.refl _ _).drew
            have dP : Below wq.heap.size wq (wq.drew.alloc (Obj.cells #[.int .u64 b] 56)) := d0.alloc (by simp) _
            have dX : Below wq.heap.size wq (wq.drew.alloc (Obj.cells #[.int .u64 xk] 56)) := d0.alloc (by simp) _
            have dPX : Below wq.heap.size wq ((wq.drew.alloc (Obj.cells #[.int .u64 b] 56)).alloc (Obj.cells #[.int .u64 xk] 56)) := dP.alloc (by simp) _
            have dXP : Below wq.heap.size wq ((wq.drew.alloc (Obj.cells #[.int .u64 xk] 56)).alloc (Obj.cells #[.int .u64 b] 56)) := dX.alloc (by simp) _
            have DP : Hid _ := dP
            have DX : Hid _ := dX
            have DPX : Hid _ := dPX
            have DXP : Hid _ := dXP
            have o1 : RowAt (wq.drew.alloc (Obj.cells #[.int .u64 b] 56)) (some ⟨wq.heap.size, 0, none⟩) 1 1 [b] := one_row wq.drew _ PB.out.1 PB.out.2
            have o2 : RowAt (wq.drew.alloc (Obj.cells #[.int .u64 xk] 56)) (some ⟨wq.heap.size, 0, none⟩) 1 1 [xk] := one_row wq.drew _ X1'.out.1 X1'.out.2
            have P1 : Hid _ := o1
            have P2 : Hid (RowAt ((wq.drew.alloc (Obj.cells #[.int .u64 b] 56)).alloc (Obj.cells #[.int .u64 xk] 56)) (some ⟨wq.heap.size, 0, none⟩) 1 1 [b]) := o1.below ((Below.refl _ _).alloc (Nat.le_refl _) _)
            have P3 : Hid (RowAt ((wq.drew.alloc (Obj.cells #[.int .u64 xk] 56)).alloc (Obj.cells #[.int .u64 b] 56)) (some ⟨wq.heap.size + 1, 0, none⟩) 1 1 [b]) := by
              show RowAt ((wq.drew.alloc (Obj.cells #[.int .u64 xk] 56)).alloc (Obj.cells #[.int .u64 b] 56)) (some ⟨wq.heap.size + 1, 0, none⟩) 1 1 [b]
              have h := one_row (wq.drew.alloc (Obj.cells #[.int .u64 xk] 56)) b PB.out.1 PB.out.2
              simpa using h
            have Y2 : Hid (RowAt ((wq.drew.alloc (Obj.cells #[.int .u64 b] 56)).alloc (Obj.cells #[.int .u64 xk] 56)) (some ⟨wq.heap.size + 1, 0, none⟩) 1 1 [xk]) := by
              show RowAt ((wq.drew.alloc (Obj.cells #[.int .u64 b] 56)).alloc (Obj.cells #[.int .u64 xk] 56)) (some ⟨wq.heap.size + 1, 0, none⟩) 1 1 [xk]
              have h := one_row (wq.drew.alloc (Obj.cells #[.int .u64 b] 56)) xk X1'.out.1 X1'.out.2
              simpa using h
            have Y3 : Hid (RowAt ((wq.drew.alloc (Obj.cells #[.int .u64 xk] 56)).alloc (Obj.cells #[.int .u64 b] 56)) (some ⟨wq.heap.size, 0, none⟩) 1 1 [xk]) := o2.below ((Below.refl _ _).alloc (Nat.le_refl _) _)
            clear d0 dP dX dPX dXP o1 o2
            go_region_held3 (fun w' => w'.cell? ⟨lb, loff + k, none⟩ = some (.int .u64 xk)) (first | go_keep | (rw [bz.cell (p := ⟨lb, loff + k, none⟩) hxb]; assumption))
              (first
                | (go_at_call 112; refine (rmul_any _ _ _ _ _ _ x [b] _ ?_ ?_ ?_ ?_).mono ?_; (first | exact HREL.out.row.below DP.out | exact HREL.out.row.below DPX.out | exact HREL.out.row.below DXP.out); (first | exact P1.out | exact P2.out | exact P3.out); omega; omega; rintro e wm ⟨mo, mm, mc, ms, rfl, m1, m2, m3⟩; (first | have bz := DP.out.trans (m3.mono DP.out.size) | have bz := DPX.out.trans (m3.mono DPX.out.size) | have bz := DXP.out.trans (m3.mono DXP.out.size)); have m2' : Num ms (dval b (l.drop (k + 1)) * b) := (by rw [HREL.out.num.val, show val [b] = b by simp [val]] at m2; exact m2); have mf := few18 m1.len m2' HTV.out.2.2.1 HTV.out.2.2.2 PB.out.1 PB.out.2)
                | (go_at_call 111; refine (radd_any _ _ _ _ _ _ ms [xk] _ ?_ ?_ ?_ ?_).mono ?_; (first | exact m1 | exact m1.below ((Below.refl _ _).alloc (Nat.le_refl _) _)); (first | exact Y2.out.below m3 | exact Y3.out.below m3 | exact one_row wm xk X1'.out.1 X1'.out.2); omega; omega; rintro e wa ⟨no, nn, nc, ns, rfl, a1, a2, a4⟩; (first | have bz := bz.trans (a4.mono bz.size) | have bz := (bz.alloc bz.size (Obj.cells #[.int .u64 xk] 56)).trans (a4.mono (bz.alloc bz.size (Obj.cells #[.int .u64 xk] 56)).size))))
            all_goals
              have R1 : Hid (RowAt wa no nn nc ns) := a1
              have R2 : Hid (Num ns tv) := by
                rw [m2'.val, show val [xk] = xk by simp [val], HTV.out.2.1] at a2
                exact a2
              have R4 : Hid (Below wq.heap.size wq wa) := bz
              clear m1 m2 m2' m3 mf a1 a2 a4 bz P1 P2 P3 Y2 Y3 DP DX DPX DXP
              go_wp2_with fail
              go_meet
              exact ⟨no, nn, nc, ns, rfl, R1.out, R2.out, R4.out⟩
          case rest =>
            rename World => wx
            obtain ⟨tao, tn, tc, ts, rfl, c1, c2, c4⟩ := hcut
            have C : Hid (RowAt wx tao tn tc ts ∧ Num ts tv ∧ Below wr.heap.size wr wx) := ⟨c1, c2, chain HREL.out.bel c4⟩
            have htn : tn ≤ 9223372036854775807 := by have := c1.fits; have := c1.most; unfold maxLen at this; omega
            have h8 := c2.le8
            rw [c1.len] at h8
            clear c1 c2 c4
            by_cases hbig : Big ≤ tv
            · have h8' : (8 : Int) < (tn : Int) := by
                have : ¬ tn ≤ 8 := fun h => by have := h8.1 h; omega
                omega
              have HBG : Hid (Big ≤ dval b l) := Int.le_trans hbig HLE.out
              clear h8 hbig
              go_wp2_with fail
              go_ret2
              exact ⟨none, 0, 0, [], 21, rfl, RowAt.nil _, Out.big ⟨HA.out.2.1, HA.out.2.2.2.1⟩ (fun f => f) HBG.out, C.out.2.2⟩
            · have h8' : ¬ (8 : Int) < (tn : Int) := by
                have := h8.2 (by omega)
                omega
              have HN : Hid (RFromRel wr b l k tao tn tc ts wx) := ⟨C.out.1, by rw [← HTV.out.1]; exact C.out.2.1, by rw [← HTV.out.1]; omega, C.out.2.2⟩
              clear h8 hbig
              go_wp2_with fail
              go_roundg k
              case measure => omega
              case rel => exact ⟨k, (k : Int) - 1, tao, tn, tc, ts, by omega, Nat.le_refl _, rfl, by go_num, rfl, HN.out⟩

end Go.Proofs.YtnedghhcidohnaaGreat

/-! The reference's From of layer 4, at any digits and any base. -/
namespace Go.Proofs.YtnedghhcidohnaaGreat
open Go.RowKit

set_option maxHeartbeats 1000000 in
theorem rfrom_no (ao : Option Addr) (n cap : Nat) (l : List Int) (b : Int) (w : World) (h : RowAt w ao n cap l) (hd : ¬ (2 ≤ b ∧ Digs b l)) :
    Calls Tryz.prog 93 #[.slice ao n cap, .int .u64 b] w fun e w' => e = .returned (.tuple #[.slice none 0 0, .int .i64 1]) ∧ Below w.heap.size w w' := by
  have hn : n ≤ 9223372036854775807 := by have := h.fits; have := h.most; unfold maxLen at this; omega
  have HA : Hid (RowAt w ao n cap l ∧ ¬ (2 ≤ b ∧ Digs b l) ∧ l.length = n) := ⟨h, hd, h.len⟩
  clear h hd
  by_cases hb : b < 2
  · go_enter Tryz.func93, Tryz.ntmps93
    go_wp2_with fail
    go_ret2
    exact ⟨rfl, Below.refl _ _⟩
  · go_enter Tryz.func93, Tryz.ntmps93
    go_wp2_with fail
    go_loopw [6] (fun i wr => ∃ k : Nat, k ≤ n ∧ i = .int .i64 k ∧ wr = w ∧ Hid (∀ j, j < k → l.getD j 0 < b)) (fun i _ => n - (intOf i).toNat)
    case atStart => exact ⟨0, Nat.zero_le _, rfl, rfl, fun j hj => absurd hj (Nat.not_lt_zero _)⟩
    case round =>
      obtain ⟨k, hk, rfl, rfl, hz⟩ := hrel
      by_cases hlt : k < n
      · have hlt' : (k : Int) < (n : Int) := by omega
        have hkl : k < l.length := by rw [HA.out.2.2]; exact hlt
        obtain ⟨lb, loff, rfl, hllt, hlc⟩ := HA.out.1.cells (by intro e; rw [e] at hkl; simp at hkl)
        have hck := hlc k hkl
        obtain ⟨x, hx⟩ : ∃ x, x = l.getD k 0 := ⟨_, rfl⟩
        rw [← hx] at hck
        have HX : Hid (x = l.getD k 0) := hx
        clear hlc hx hkl
        by_cases hge : b ≤ x
        · go_wp2_with fail
          go_ret2
          exact ⟨rfl, Below.refl _ _⟩
        · have HG : Hid (x < b) := Int.not_le.1 hge
          go_wp2_with fail
          go_roundw
          case rel =>
            refine ⟨k + 1, by omega, by go_num, by first | rfl | trivial, fun j hj => ?_⟩
            by_cases e : j = k
            · rw [e, ← HX.out]; exact HG.out
            · exact hz.out j (by omega)
          case measure => simp [intOf]; omega
      · exfalso
        refine HA.out.2.1 ⟨by omega, fun x hx => ?_⟩
        obtain ⟨j, hj, rfl⟩ := List.getElem_of_mem hx
        have h1 := hz.out j (by have := HA.out.2.2; omega)
        rw [List.getD_eq_getElem?_getD, List.getElem?_eq_getElem hj] at h1
        exact ⟨(HA.out.1.limbs _ hx).1, h1⟩

theorem rfrom_any (ao : Option Addr) (n cap : Nat) (l : List Int) (b : Int) (w : World) (h : RowAt w ao n cap l) (hbB : b < BB) :
    Calls Tryz.prog 93 #[.slice ao n cap, .int .u64 b] w fun e w' => ∃ ro m c r k, e = .returned (.tuple #[.slice ro m c, .int .i64 k]) ∧ RowAt w' ro m c r ∧ Out (2 ≤ b ∧ Digs b l) False (dval b l) r k ∧ Below w.heap.size w w' := by
  by_cases hd : 2 ≤ b ∧ Digs b l
  · exact rfrom_yes ao n cap l b w h hd.1 hbB hd.2
  · exact (rfrom_no ao n cap l b w h hd).mono fun e w' ⟨h1, h2⟩ => ⟨none, 0, 0, [], 1, h1, RowAt.nil _, Out.arg hd, h2⟩

end Go.Proofs.YtnedghhcidohnaaGreat
