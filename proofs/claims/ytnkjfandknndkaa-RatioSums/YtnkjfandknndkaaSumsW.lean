/-
  RatioSums, walked.
-/
import Derived.Test.YtnkjfandknndkaaSumF
import Derived.Test.YtnkjfandknndkaaK1
import Derived.Test.YtnkjfandknndkaaM1
import Derived.Test.YtnkjfandknndkaaSumE
import Derived.Deep.RegionHeld3
namespace Go.Proofs.Ytnkjfandknndkaa
open Go.RowKit

theorem gtr8_no {n : Nat} (h : ¬ 8 < n) : ¬ (8 : Int) < (n : Int) := by omega
theorem gtr8_yes {n : Nat} (h : 8 < n) : (8 : Int) < (n : Int) := by omega

set_option maxRecDepth 100000 in
set_option maxHeartbeats 4000000 in
theorem sums_long (ao : Option Addr) (al ac : Nat) (bo : Option Addr) (bl bc : Nat) (at' : Int) (w : World) (h : 8 < al ∨ 8 < bl) :
    Calls Try.prog 7 #[.slice ao al ac, .slice bo bl bc, .int .u8 at'] w fun e w' => e = .returned (.bool true) ∧ Below w.heap.size w w' := by
  by_cases h1 : 8 < al
  · have h1' := gtr8_yes h1
    clear h
    go_enter Try.func7, Try.ntmps7
    go_wp2_with fail
    refine (shown_r _).mono ?_
    rintro e w1 ⟨rfl, b1⟩
    have B : Hid (Below w.heap.size w w1) := b1
    clear b1
    go_wp2
    go_ret
    exact ⟨rfl, B.out⟩
  · have h1' := gtr8_no h1
    have h2' := gtr8_yes (show 8 < bl by omega)
    clear h
    go_enter Try.func7, Try.ntmps7
    go_wp2_with fail
    refine (shown_r _).mono ?_
    rintro e w1 ⟨rfl, b1⟩
    have B : Hid (Below w.heap.size w w1) := b1
    clear b1
    go_wp2
    go_ret
    exact ⟨rfl, B.out⟩

theorem and_127 : ∀ k : Nat, k < 256 → 0 ≤ IntKind.u32.wrap (bits BinOp.and IntKind.i8 ((k : Int) - 128) 127) ∧ IntKind.u32.wrap (bits BinOp.and IntKind.i8 ((k : Int) - 128) 127) ≤ 127 := by decide +kernel
theorem and_ex (z : Int) (h0 : -128 ≤ z) (h1 : z ≤ 127) : ∃ M, IntKind.u32.wrap (bits BinOp.and IntKind.i8 z 127) = M ∧ 0 ≤ M ∧ M ≤ 127 := by
  have h := and_127 (z + 128).toNat (by omega)
  rw [show (((z + 128).toNat : Nat) : Int) - 128 = z by omega] at h
  exact ⟨_, rfl, h⟩
theorem rem_ex (d : Int) (h0 : 0 ≤ d) (h1 : d ≤ 255) : ∃ D, (IntKind.u32.wrap d).tmod 9 = D ∧ 0 ≤ D ∧ D ≤ 8 := by
  have hw : IntKind.u32.wrap d = d := by rw [IntKind.wrap_u32]; omega
  rw [hw, Int.tmod_eq_emod_of_nonneg h0]
  exact ⟨_, rfl, by omega, by omega⟩
theorem zero28 : ∀ u ∈ (Value.agg #[.bool false, .slice none 0 0, .slice none 0 0]).cells.toList, Clean u := by
  intro u hu z
  simp [Value.cells] at hu
  rcases hu with rfl | rfl <;> simp
theorem isRow_cell {k : IntKind} {w : World} {ao : Option Addr} {al ac : Nat} {zs : List Int} (h : IsRow k w ao al ac zs) {j : Nat} (hj : j < al) : ∃ b off z, ao = some ⟨b, off, none⟩ ∧ w.cell? ⟨b, off + j, none⟩ = some (.int k z) ∧ (Lit.int k z).wf = true ∧ b < w.heap.size := by
  rcases h with ⟨rfl, rfl, rfl, rfl⟩ | ⟨x, rfl, hlc, hcm, hz, hc, hw⟩
  · omega
  · obtain ⟨b, off, rfl, hcc⟩ := ints_at hc (by omega)
    refine ⟨b, off, _, rfl, hcc j (by omega), hw _ ?_, World.block_lt_of_cell? w ⟨b, off + j, none⟩ (hcc j (by omega))⟩
    rw [List.getD_eq_getElem?_getD, List.getElem?_eq_getElem (by omega)]
    simp

theorem info28 : (Try.prog.info? 28).map (fun i => (i.zero, i.size, i.bytes)) = some (some (.agg #[.bool false, .slice none 0 0, .slice none 0 0]), 3, 56) := by kernel_rfl

set_option maxRecDepth 100000 in
set_option maxHeartbeats 16000000 in
theorem sums_walk (ao : Option Addr) (al ac : Nat) (bo : Option Addr) (bl bc : Nat) (at' : Int) (zs ds : List Int) (w : World) (hx : IsRow .i8 w ao al ac zs) (hy : IsRow .u8 w bo bl bc ds) (hat : (Lit.int .u8 at').wf = true) :
    Calls Try.prog 7 #[.slice ao al ac, .slice bo bl bc, .int .u8 at'] w fun e w' => e = .returned (.bool true) ∧ Below w.heap.size w w' := by
  by_cases h : 8 < al ∨ 8 < bl
  · exact sums_long ao al ac bo bl bc at' w h
  have h1' := gtr8_no (show ¬ 8 < al by omega)
  have h2' := gtr8_no (show ¬ 8 < bl by omega)
  obtain ⟨i0, hi0, hz0, hz1, hz2⟩ := info_parts info28
  obtain ⟨t0, t1⟩ := bounds_u8 hat
  have HI : Hid (IsRow .i8 w ao al ac zs ∧ IsRow .u8 w bo bl bc ds ∧ al ≤ 8 ∧ bl ≤ 8) := ⟨hx, hy, by omega, by omega⟩
  clear hx hy hat h
  go_enter Try.func7, Try.ntmps7
  go_wp2_with fail
  refine (shown_r _).mono ?_
  rintro e w1 ⟨rfl, b1⟩
  have HB : Hid (Below w.heap.size w w1 ∧ RatsOwn (w1.alloc (.cells #[] 28)) w1.heap.size (.slice (some ⟨w1.heap.size, 0, none⟩) 0 0) [] [] ∧ Below w.heap.size w (w1.alloc (.cells #[] 28))) := ⟨b1, RatsOwn.nil w1 _ (Nat.le_refl _), chain b1 ((Below.refl _ _).alloc (Nat.le_refl _) _)⟩
  clear b1
  go_wp2_with fail
  go_loopg [7, 8] al (fun m v i wr => ∃ (j : Nat) (g cap : Nat) (ps : List RP) (rs : List RatL) (cs : List Int), j ≤ al ∧ j ≤ bl ∧ al - j ≤ m ∧ i = .int .i64 j ∧ v = .slice (some ⟨g, 0, none⟩) j cap ∧ Hid (Below w.heap.size w wr ∧ RatsOwn wr w1.heap.size (.slice (some ⟨g, 0, none⟩) j cap) ps rs ∧ ps.length = j ∧ SmAll rs cs ∧ w1.heap.size ≤ wr.heap.size))
  case atStart => exact ⟨0, _, 0, [], [], [], Nat.zero_le _, Nat.zero_le _, by omega, rfl, rfl, HB.out.2.2, HB.out.2.1, rfl, trivial, by simp⟩
  case round =>
    obtain ⟨j, g, cap, ps, rs, cs, hj, hjb, hjr, rfl, rfl, hO⟩ := hrel
    by_cases h0 : j < al ∧ j < bl
    · obtain ⟨nb, noff, z, rfl, hc1, hzw, hnb⟩ := isRow_cell HI.out.1 h0.1
      obtain ⟨db, doff, d, rfl, hc2, hdw, hdb⟩ := isRow_cell HI.out.2.1 h0.2
      have k1 : wr.cell? ⟨nb, noff + j, none⟩ = some (.int .i8 z) := (hO.out.1.cell (p := ⟨nb, noff + j, none⟩) hnb).trans hc1
      have k2 : wr.cell? ⟨db, doff + j, none⟩ = some (.int .u8 d) := (hO.out.1.cell (p := ⟨db, doff + j, none⟩) hdb).trans hc2
      have hja : (j : Int) < (al : Int) := by omega
      have hjb' : (j : Int) < (bl : Int) := by omega
      have hj0 : (0 : Int) ≤ (j : Int) := Int.natCast_nonneg _
      obtain ⟨z0, z1⟩ := bounds_i8 hzw
      obtain ⟨d0, d1⟩ := bounds_u8 hdw
      clear hzw hdw
      have HN : Hid ((w.cell? ⟨nb, noff + j, none⟩ = some (.int .i8 z) ∧ nb < w.heap.size) ∧ w.cell? ⟨db, doff + j, none⟩ = some (.int .u8 d) ∧ db < w.heap.size) := ⟨⟨hc1, hnb⟩, hc2, hdb⟩
      have HGB : Hid (w1.heap.size ≤ g ∧ w.heap.size ≤ w1.heap.size) := ⟨(hO.out.2.1.own.row.lt g rfl).1, HB.out.1.size⟩
      clear hc1 hc2
      obtain ⟨M, hM, m0, m1⟩ := and_ex z z0 z1
      obtain ⟨D, hD, e0, e1⟩ := rem_ex d d0 d1
      have HE : Hid ((0 ≤ M ∧ M ≤ 127) ∧ (0 ≤ D ∧ D ≤ 8) ∧ (nb < wr.heap.size ∧ db < wr.heap.size) ∧ j < al ∧ j < bl ∧ al - j ≤ _) := ⟨⟨m0, m1⟩, ⟨e0, e1⟩, ⟨Nat.lt_of_lt_of_le hnb hO.out.1.size, Nat.lt_of_lt_of_le hdb hO.out.1.size⟩, h0.1, h0.2, hjr⟩
      clear m0 m1 e0 e1 z0 z1 d0 d1 hnb hdb hj hjb hjr h0
      have bz : Below wr.heap.size wr wr.drew := (Below.refl _ _).drew
      go_wp2_with fail
      go_region_held3 (fun w' => w'.cell? ⟨nb, noff + j, none⟩ = some (.int .i8 z) ∧ w'.cell? ⟨db, doff + j, none⟩ = some (.int .u8 d))
        (first | exact ⟨(B4.out.cell (p := ⟨nb, noff + j, none⟩) HN.out.1.2).trans HN.out.1.1, (B4.out.cell (p := ⟨db, doff + j, none⟩) HN.out.2.2).trans HN.out.2.1⟩ | (refine ⟨?_, ?_⟩; (rw [bz.cell (p := ⟨nb, noff + j, none⟩) HE.out.2.2.1.1]; assumption); (rw [bz.cell (p := ⟨db, doff + j, none⟩) HE.out.2.2.1.2]; assumption)) | go_keep)
        (first
          | (go_at_call 18; refine (made_r _ _ _ _ HE.out.1.1 (by have := HE.out.1.2; omega) HE.out.2.1.1 (by have := HE.out.2.1.2; omega)).mono ?_; rintro e w3 ⟨pg, po, pn, pc, qo, qn, qc, r, rfl, q1, q2, q3, q4⟩; have bz := chain bz q4; have a1 : Below w3.heap.size w3 (w3.alloc (.cells #[.bool pg, .slice po pn pc, .slice qo qn qc] 28)) := (Below.refl _ _).alloc (Nat.le_refl _) _; have G3 : Hid (RatsOwn (w3.alloc (.cells #[.bool pg, .slice po pn pc, .slice qo qn qc] 28)) w1.heap.size (.slice (some ⟨g, 0, none⟩) j cap) ps rs ∧ RatAt (w3.alloc (.cells #[.bool pg, .slice po pn pc, .slice qo qn qc] 28)) po pn pc qo qn qc r ∧ r.neg = pg ∧ Is r (sg (decide (z < 0)) M) (D + 1) ∧ Below w.heap.size w (w3.alloc (.cells #[.bool pg, .slice po pn pc, .slice qo qn qc] 28)) ∧ w1.heap.size ≤ (w3.alloc (.cells #[.bool pg, .slice po pn pc, .slice qo qn qc] 28)).heap.size) := ⟨(hO.out.2.1.below bz).below a1, q2.below a1, q1, q3, chain (chain hO.out.1 bz) a1, Nat.le_trans hO.out.2.2.2.2 (Nat.le_trans bz.size a1.size)⟩; clear q1 q2 q3 q4 a1)
          | (refine step_append_put _ (by rfl) _ _ _ (by rfl) w1.heap.size 28 i0 _ 3 56 Try.underlying24 hi0 hz0 hz1 hz2 rfl (by omega) zero28 _ j (cellsOf ps) (by rfl) (by have h := G3.out.1.own; rw [hO.out.2.2.1] at h; exact h) ⟨w3.heap.size, 0, none⟩ 1 1 [.bool pg, .slice po pn pc, .slice qo qn qc] (by rfl) (by rfl) (World.news_of_block (heap_alloc_new w3 _)) (by simp [Value.oneCell']) (RP.cs_clean ⟨pg, po, pn, pc, qo, qn, qc⟩) (by omega) (by have := HE.out.2.2.2.1; have := HI.out.2.2.1; unfold maxLen; omega) (by have := HE.out.2.2.2.1; have := HI.out.2.2.1; omega) G3.out.2.2.2.2.2 ?_; intro g2 cap2 w4 hown hgrow; have B4 : Hid (Below w.heap.size w w4) := G3.out.2.2.2.2.1.grown hgrow G3.out.2.2.2.2.1.size (fun k hk => by cases hk; exact Nat.le_trans HGB.out.2 HGB.out.1); have H4 : Hid (OwnS w4 w1.heap.size 28 3 (.slice (some ⟨g2, 0, none⟩) (j + 1) cap2) (j + 1) (cellsOf ps ++ [.bool pg, .slice po pn pc, .slice qo qn qc]) ∧ (w3.alloc (.cells #[.bool pg, .slice po pn pc, .slice qo qn qc] 28)).grownBy w4 (some g)) := ⟨hown, hgrow⟩; clear hown hgrow))
      clear bz hM hD k1 k2 hjb' hj0
      have HS := small_of G3.out.2.2.2.1 HE.out.1.1 HE.out.1.2 HE.out.2.1.1 HE.out.2.1.2
      obtain ⟨c, hc⟩ := HS
      have H5 : Hid (SmC r c) := hc
      clear hc
      go_wp2
      go_roundg (al - (j + 1))
      case measure => have := HE.out.2.2.2.1; have := HE.out.2.2.2.2.2; omega
      case rel =>
        refine ⟨j + 1, g2, cap2, ps ++ [⟨pg, po, pn, pc, qo, qn, qc⟩], rs ++ [r], cs ++ [c], by have := HE.out.2.2.2.1; omega, by have := HE.out.2.2.2.2.1; omega, Nat.le_refl _, by go_num, rfl, B4.out, ?_, by rw [List.length_append, hO.out.2.2.1]; rfl, hO.out.2.2.2.1.append ⟨H5.out, trivial⟩, Nat.le_trans G3.out.2.2.2.2.2 H4.out.2.size⟩
        refine G3.out.1.put (qs := [⟨pg, po, pn, pc, qo, qn, qc⟩]) (ss := [r]) rfl ?_ ?_ H4.out.2
        · intro i p r' hp hr
          cases i with
          | zero => simp at hp hr; subst hp hr; exact ⟨G3.out.2.1, G3.out.2.2.1⟩
          | succ i => simp at hp
        · rw [hO.out.2.2.1, cellsOf_one]
          exact H4.out.1
    · have hjn : ¬ ((j : Int) < (al : Int) ∧ (j : Int) < (bl : Int)) := by omega
      have hj9 : (j : Int) ≤ 8 := by have := HI.out.2.2.1; omega
      have hjj : (0 : Int) ≤ (j : Int) := by omega
      obtain ⟨K, hK, hKj⟩ : ∃ K : Nat, at'.tmod ((j : Int) + 1) = (K : Int) ∧ K ≤ j := by
        have h1 := Int.emod_nonneg at' (show (j : Int) + 1 ≠ 0 by omega)
        have h2 := Int.emod_lt_of_pos at' (show 0 < (j : Int) + 1 by omega)
        refine ⟨(at' % ((j : Int) + 1)).toNat, ?_, by omega⟩
        rw [Int.tmod_eq_emod_of_nonneg t0]
        omega
      have HP : Hid (K ≤ j ∧ j ≤ al ∧ al ≤ 8) := ⟨hKj, hj, HI.out.2.2.1⟩
      have hKj' : (K : Int) ≤ (j : Int) := by omega
      have hK0 : (0 : Int) ≤ (K : Int) := by omega
      have hjc : j ≤ cap := by obtain ⟨g0, cap0, he, _, _, hh, _⟩ := hO.out.2.1.form (by simp); cases he; have := hO.out.2.2.1; omega
      have hjc' : (j : Int) ≤ (cap : Int) := by omega
      by_cases hKc : K = cap
      · have hjK : j = K := by omega
        subst hjK
        subst hKc
        by_cases ha : (j : Int) < (al : Int)
        · have hb : ¬ (j : Int) < (bl : Int) := fun h => hjn ⟨ha, h⟩
          clear hjn hj hjb hjr h0
          have HQ : Hid (RatsOwn (wr.alloc (.cells #[] 28)) w1.heap.size (.slice (some ⟨g, 0, none⟩) j j) ps rs ∧ OwnS (wr.alloc (.cells #[] 28)) wr.heap.size 28 3 (.slice (some ⟨wr.heap.size, 0, none⟩) 0 0) 0 [] ∧ Below w.heap.size w (wr.alloc (.cells #[] 28)) ∧ g < wr.heap.size ∧ w1.heap.size ≤ g) :=
            ⟨hO.out.2.1.below ((Below.refl _ _).alloc (Nat.le_refl _) _), OwnS.made wr 28 3 (Nat.le_refl _), chain hO.out.1 ((Below.refl _ _).alloc (Nat.le_refl _) _), (hO.out.2.1.own.row.lt g rfl).2, (hO.out.2.1.own.row.lt g rfl).1⟩
          have HW : Hid (ps.length = j ∧ SmAll rs cs ∧ rs.length ≤ 8 ∧ w.heap.size ≤ wr.heap.size) := ⟨hO.out.2.2.1, hO.out.2.2.2.1, by have := HP.out; have := hO.out.2.1.len; have := hO.out.2.2.1; omega, hO.out.1.size⟩
          have hdrop : Hid (ps.drop j = []) := List.drop_of_length_le (by have := hO.out.2.2.1; omega)
          go_wp2_with (at_builtin; refine wpList_append_owns _ rfl _ _ _ rfl wr.heap.size 28 i0 _ 3 56 Try.underlying24 hi0 hz0 hz1 hz2 rfl (by omega) zero28 _ 0 [] rfl HQ.out.2.1 ⟨g, 0, none⟩ 0 0 (cellsOf (ps.drop j)) rfl (by rw [hdrop.out]; rfl) (by rw [hdrop.out]; intro j u h; simp [cellsOf] at h) (cellsOf_onecell _) (cellsOf_clean _) (by unfold maxLen; omega) (by omega) (by simp) ?_)
          intro v3 w3 o3 g3 n3
          have hv3 : v3 ≠ .slice none 0 0 := by first | exact n3 | exact fun e => by have := (n3.1 e).1; cases this
          have hlen3 : (ps.drop j).length = 0 := by have := hO.out.2.2.1; rw [List.length_drop]; omega
          have R3 : RatsOwn w3 wr.heap.size v3 (ps.drop j) (rs.drop j) := by
            have h := (RatsOwn.nil wr wr.heap.size (Nat.le_refl _)).put (qs := ps.drop j) (ss := rs.drop j) (HQ.out.1.at j).len (HQ.out.1.at j).each' (by rw [hlen3]; exact o3) g3
            exact h
          have L3 : RatsOwn w3 w1.heap.size (.slice (some ⟨g, 0, none⟩) j j) ps rs := HQ.out.1.kept g3 (by have := HQ.out.2.2.2.1; simp [Value.ownBlock]; omega) HQ.out.2.1.clean
          have B3 : Below w.heap.size w w3 := HQ.out.2.2.1.grown g3 HQ.out.2.2.1.size (fun k hk => by cases hk; exact HW.out.2.2.2)
          obtain ⟨gt, capt, ev3, hbt, _, _, hmt⟩ := R3.form hv3
          obtain ⟨LL, hLL⟩ : ∃ LL, (ps.drop j).length = LL := ⟨_, rfl⟩
          rw [hLL] at ev3
          subst ev3
          have HLL : Hid ((ps.drop j).length = LL) := hLL
          have H3 : Hid (RatsOwn w3 wr.heap.size (.slice (some ⟨gt, 0, none⟩) LL capt) (ps.drop j) (rs.drop j) ∧ RatsOwn w3 w1.heap.size (.slice (some ⟨g, 0, none⟩) j j) ps rs ∧ Below w.heap.size w w3 ∧ wr.heap.size ≤ gt ∧ wr.heap.size ≤ w3.heap.size) := ⟨R3, L3, B3, hbt, Nat.le_trans (by simp) g3.size⟩
          clear o3 g3 n3 hv3 hlen3 R3 L3 B3 hbt hmt hLL
          go_wp2_with fail
          refine (of_r 0 _ (by omega) (by omega)).mono ?_
          rintro e w4 ⟨zg, zo, zn, zc, zeo, zen, zec, z, rfl, q1, q2, q3, q4⟩
          have a1 : Below w4.heap.size w4 (w4.alloc (.cells #[.bool zg, .slice zo zn zc, .slice zeo zen zec] 28)) := (Below.refl _ _).alloc (Nat.le_refl _) _
          have H4 : Hid (RatsOwn (w4.alloc (.cells #[.bool zg, .slice zo zn zc, .slice zeo zen zec] 28)) wr.heap.size (.slice (some ⟨gt, 0, none⟩) LL capt) (ps.drop j) (rs.drop j) ∧ RatsOwn (w4.alloc (.cells #[.bool zg, .slice zo zn zc, .slice zeo zen zec] 28)) w1.heap.size (.slice (some ⟨g, 0, none⟩) j j) ps rs ∧ Below w.heap.size w (w4.alloc (.cells #[.bool zg, .slice zo zn zc, .slice zeo zen zec] 28)) ∧ RatAt (w4.alloc (.cells #[.bool zg, .slice zo zn zc, .slice zeo zen zec] 28)) zo zn zc zeo zen zec z ∧ z.neg = zg ∧ Is z 0 1 ∧ wr.heap.size ≤ (w4.alloc (.cells #[.bool zg, .slice zo zn zc, .slice zeo zen zec] 28)).heap.size) :=
            ⟨(H3.out.1.below q4).below a1, (H3.out.2.1.below q4).below a1, chain (chain H3.out.2.2.1 q4) a1, q2.below a1, q1, q3, Nat.le_trans H3.out.2.2.2.2 (Nat.le_trans q4.size a1.size)⟩
          have HL : Hid (LL ≤ 8) := by
            have h : LL ≤ 8 := by
              have e : (ps.drop j).length = ps.length - j := List.length_drop
              have e2 := HLL.out
              have := HP.out
              have := HW.out.1
              omega
            exact h
          clear q1 q2 q3 q4 a1
          go_wp2_with (at_builtin; refine wpList_append_put _ rfl _ _ _ rfl wr.heap.size 28 i0 _ 3 56 Try.underlying24 hi0 hz0 hz1 hz2 rfl (by omega) zero28 _ LL (cellsOf (ps.drop j)) rfl (by have h := H4.out.1.own; rw [HLL.out] at h; exact h) ⟨w4.heap.size, 0, none⟩ 1 1 [.bool zg, .slice zo zn zc, .slice zeo zen zec] rfl rfl (World.news_of_block (heap_alloc_new w4 _)) (by simp [Value.oneCell']) (RP.cs_clean ⟨zg, zo, zn, zc, zeo, zen, zec⟩) (by omega) (by have := HL.out; unfold maxLen; omega) (by have := HL.out; omega) H4.out.2.2.2.2.2.2 ?_)
          intro g5 cap5 w5 o5 k5
          have k5' : (w4.alloc (.cells #[.bool zg, .slice zo zn zc, .slice zeo zen zec] 28)).grownBy w5 (some gt) := k5
          have R5 : RatsOwn w5 wr.heap.size (.slice (some ⟨g5, 0, none⟩) (LL + 1) cap5) (ps.drop j ++ [(⟨zg, zo, zn, zc, zeo, zen, zec⟩ : RP)]) (rs.drop j ++ [z]) :=
            H4.out.1.put (qs := [(⟨zg, zo, zn, zc, zeo, zen, zec⟩ : RP)]) (ss := [z]) rfl (by
              intro i p r' hp hr
              cases i with
              | zero => simp at hp hr; subst hp hr; exact ⟨H4.out.2.2.2.1, H4.out.2.2.2.2.1⟩
              | succ i => simp at hp) (by rw [cellsOf_one, HLL.out]; exact o5) k5'
          have L5 : RatsOwn w5 w1.heap.size (.slice (some ⟨g, 0, none⟩) j j) ps rs := H4.out.2.1.kept k5' (by have := HQ.out.2.2.2.1; have := H3.out.2.2.2.1; simp [Value.ownBlock]; omega) H4.out.1.own.clean
          have B5 : Below w.heap.size w w5 := H4.out.2.2.1.grown k5' H4.out.2.2.1.size (fun k hk => by cases hk; exact Nat.le_trans HW.out.2.2.2 H3.out.2.2.2.1)
          have H5 : Hid (RatsOwn w5 wr.heap.size (.slice (some ⟨g5, 0, none⟩) (LL + 1) cap5) (ps.drop j ++ [(⟨zg, zo, zn, zc, zeo, zen, zec⟩ : RP)]) (rs.drop j ++ [z]) ∧ RatsOwn w5 w1.heap.size (.slice (some ⟨g, 0, none⟩) j j) ps rs ∧ Below w.heap.size w w5 ∧ wr.heap.size ≤ g5 ∧ wr.heap.size ≤ w5.heap.size) := ⟨R5, L5, B5, (R5.own.row.lt g5 rfl).1, Nat.le_trans H4.out.2.2.2.2.2.2 k5'.size⟩
          clear o5 k5 k5' R5 L5 B5
          go_wp2_with (at_builtin; refine wpList_append_owns _ rfl _ _ _ rfl wr.heap.size 28 i0 _ 3 56 Try.underlying24 hi0 hz0 hz1 hz2 rfl (by omega) zero28 _ (LL + 1) (cellsOf (ps.drop j ++ [(⟨zg, zo, zn, zc, zeo, zen, zec⟩ : RP)])) rfl (by have h := H5.out.1.own; rw [List.length_append, HLL.out] at h; exact h) ⟨g, 0, none⟩ j j (cellsOf (ps.take j)) rfl (by rw [cellsOf_length, List.length_take, HW.out.1]; have := HP.out; omega) (H5.out.2.1.all.take j).news (cellsOf_onecell _) (cellsOf_clean _) (by have := HL.out; have := HP.out; unfold maxLen; omega) (by have := HL.out; have := HP.out; omega) H5.out.2.2.2.2 ?_)
          intro v6 w6 o6 g6 n6
          have g6' : w5.grownBy w6 (some g5) := g6
          have hv6 : v6 ≠ .slice none 0 0 := by first | exact n6 | exact fun e => by have := (n6.1 e).1; cases this
          have R6 : RatsOwn w6 wr.heap.size v6 (ps.drop j ++ [(⟨zg, zo, zn, zc, zeo, zen, zec⟩ : RP)] ++ ps.take j) (rs.drop j ++ [z] ++ rs.take j) :=
            H5.out.1.put (qs := ps.take j) (ss := rs.take j) (H5.out.2.1.all.take j).len (H5.out.2.1.all.take j).each' (by rw [List.length_append, HLL.out, show (ps.take j).length = j by rw [List.length_take, HW.out.1]; have := HP.out; omega]; exact o6) g6'
          have L6 : RatsOwn w6 w1.heap.size (.slice (some ⟨g, 0, none⟩) j j) ps rs := H5.out.2.1.kept g6' (by have := HQ.out.2.2.2.1; have := H5.out.2.2.2.1; simp [Value.ownBlock]; omega) H5.out.1.own.clean
          have B6 : Below w.heap.size w w6 := H5.out.2.2.1.grown g6' H5.out.2.2.1.size (fun k hk => by cases hk; exact Nat.le_trans HW.out.2.2.2 H5.out.2.2.2.1)
          obtain ⟨g7, cap7, ev6, _, _, _, _⟩ := R6.form hv6
          obtain ⟨LM, hLM⟩ : ∃ LM, (ps.drop j ++ [(⟨zg, zo, zn, zc, zeo, zen, zec⟩ : RP)] ++ ps.take j).length = LM := ⟨_, rfl⟩
          rw [hLM] at ev6
          subst ev6
          have HLM : Hid ((ps.drop j ++ [(⟨zg, zo, zn, zc, zeo, zen, zec⟩ : RP)] ++ ps.take j).length = LM ∧ LM ≤ 1000) := ⟨hLM, by have e := HLL.out; have := HL.out; have := HP.out; rw [← hLM, List.length_append, List.length_append, e, List.length_take]; simp only [List.length_cons, List.length_nil]; omega⟩
          have H6 : Hid (RatsOwn w6 wr.heap.size (.slice (some ⟨g7, 0, none⟩) LM cap7) (ps.drop j ++ [(⟨zg, zo, zn, zc, zeo, zen, zec⟩ : RP)] ++ ps.take j) (rs.drop j ++ [z] ++ rs.take j) ∧ RatsOwn w6 w1.heap.size (.slice (some ⟨g, 0, none⟩) j j) ps rs ∧ Below w.heap.size w w6) := ⟨R6, L6, B6⟩
          clear o6 g6 n6 g6' hv6 R6 L6 B6 hLM
          go_wp2_with fail
          refine (sumR_any _ _ _ g 0 ps rs _ H6.out.2.1.all HW.out.1 (fun _ => rfl) (by have := HP.out; omega)).mono ?_
          rintro e w7 ⟨xg, xo, xn, xc, xeo, xen, xec, x, k, t0, rfl, q1, q2, q3, q5, q4⟩
          have a1 : Below w7.heap.size w7 (w7.alloc (.cells #[.bool xg, .slice xo xn xc, .slice xeo xen xec] 28)) := (Below.refl _ _).alloc (Nat.le_refl _) _
          have bx := RBox.new w7 xg xo xn xc xeo xen xec
          have H7 : Hid (RatsOwn (w7.alloc (.cells #[.bool xg, .slice xo xn xc, .slice xeo xen xec] 28)) wr.heap.size (.slice (some ⟨g7, 0, none⟩) LM cap7) (ps.drop j ++ [(⟨zg, zo, zn, zc, zeo, zen, zec⟩ : RP)] ++ ps.take j) (rs.drop j ++ [z] ++ rs.take j) ∧ Below w.heap.size w (w7.alloc (.cells #[.bool xg, .slice xo xn xc, .slice xeo xen xec] 28)) ∧ RatAt (w7.alloc (.cells #[.bool xg, .slice xo xn xc, .slice xeo xen xec] 28)) xo xn xc xeo xen xec x ∧ x.neg = xg ∧ Is t0 0 1 ∧ SumR rs t0 x k ∧ RBox (w7.alloc (.cells #[.bool xg, .slice xo xn xc, .slice xeo xen xec] 28)) w7.heap.size xg xo xn xc xeo xen xec) := ⟨(H6.out.1.below q4).below a1, chain (chain H6.out.2.2 q4) a1, q2.below a1, q1, q3, q5, bx⟩
          clear q1 q2 q3 q4 q5 a1 bx
          go_wp2_with fail
          refine (sumR_any _ _ _ g7 0 _ _ _ H7.out.1.all HLM.out.1 (fun _ => rfl) HLM.out.2).mono ?_
          rintro e w8 ⟨yg, yo, yn, yc, yeo, yen, yec, y, k', u0, rfl, q1, q2, q3, q5, q4⟩
          obtain ⟨hk, hk', hxy⟩ := sums_same j HW.out.2.1 HW.out.2.2.1 H4.out.2.2.2.2.2.1 H7.out.2.2.2.2.1 q3 H7.out.2.2.2.2.2.1 q5
          subst hk hk'
          have a1 : Below w8.heap.size w8 (w8.alloc (.cells #[.bool yg, .slice yo yn yc, .slice yeo yen yec] 28)) := (Below.refl _ _).alloc (Nat.le_refl _) _
          have bx := (H7.out.2.2.2.2.2.2.below q4).below a1
          have by' := RBox.new w8 yg yo yn yc yeo yen yec
          have c0 := bx.c0
          have c1 := bx.c1
          have c2 := bx.c2
          have d0 := by'.c0
          have d1 := by'.c1
          have d2 := by'.c2
          have H8 : Hid (RatAt (w8.alloc (.cells #[.bool yg, .slice yo yn yc, .slice yeo yen yec] 28)) xo xn xc xeo xen xec x ∧ RatAt (w8.alloc (.cells #[.bool yg, .slice yo yn yc, .slice yeo yen yec] 28)) yo yn yc yeo yen yec y ∧ x.neg = xg ∧ y.neg = yg ∧ x = y ∧ Below w.heap.size w (w8.alloc (.cells #[.bool yg, .slice yo yn yc, .slice yeo yen yec] 28))) := ⟨(H7.out.2.2.1.below q4).below a1, q2.below a1, H7.out.2.2.2.1, q1, hxy, chain (chain H7.out.2.1 q4) a1⟩
          clear q1 q2 q3 q4 q5 a1 bx by' hxy
          go_wp2_with fail
          refine (rsame_r _ _ _ _ _ _ _ _ _ _ _ _ _ _ x y _ H8.out.1 H8.out.2.1 H8.out.2.2.1 H8.out.2.2.2.1 true (yes_iff H8.out.2.2.2.2.1)).mono ?_
          rintro e w9 ⟨rfl, q⟩
          have HF : Hid (Below w.heap.size w w9) := chain H8.out.2.2.2.2.2 q
          clear q
          go_wp2
          go_ret
          exact ⟨rfl, HF.out⟩
        · clear hjn hj hjb hjr h0
          have HQ : Hid (RatsOwn (wr.alloc (.cells #[] 28)) w1.heap.size (.slice (some ⟨g, 0, none⟩) j j) ps rs ∧ OwnS (wr.alloc (.cells #[] 28)) wr.heap.size 28 3 (.slice (some ⟨wr.heap.size, 0, none⟩) 0 0) 0 [] ∧ Below w.heap.size w (wr.alloc (.cells #[] 28)) ∧ g < wr.heap.size ∧ w1.heap.size ≤ g) :=
            ⟨hO.out.2.1.below ((Below.refl _ _).alloc (Nat.le_refl _) _), OwnS.made wr 28 3 (Nat.le_refl _), chain hO.out.1 ((Below.refl _ _).alloc (Nat.le_refl _) _), (hO.out.2.1.own.row.lt g rfl).2, (hO.out.2.1.own.row.lt g rfl).1⟩
          have HW : Hid (ps.length = j ∧ SmAll rs cs ∧ rs.length ≤ 8 ∧ w.heap.size ≤ wr.heap.size) := ⟨hO.out.2.2.1, hO.out.2.2.2.1, by have := HP.out; have := hO.out.2.1.len; have := hO.out.2.2.1; omega, hO.out.1.size⟩
          have hdrop : Hid (ps.drop j = []) := List.drop_of_length_le (by have := hO.out.2.2.1; omega)
          go_wp2_with (at_builtin; refine wpList_append_owns _ rfl _ _ _ rfl wr.heap.size 28 i0 _ 3 56 Try.underlying24 hi0 hz0 hz1 hz2 rfl (by omega) zero28 _ 0 [] rfl HQ.out.2.1 ⟨g, 0, none⟩ 0 0 (cellsOf (ps.drop j)) rfl (by rw [hdrop.out]; rfl) (by rw [hdrop.out]; intro j u h; simp [cellsOf] at h) (cellsOf_onecell _) (cellsOf_clean _) (by unfold maxLen; omega) (by omega) (by simp) ?_)
          intro v3 w3 o3 g3 n3
          have hv3 : v3 ≠ .slice none 0 0 := by first | exact n3 | exact fun e => by have := (n3.1 e).1; cases this
          have hlen3 : (ps.drop j).length = 0 := by have := hO.out.2.2.1; rw [List.length_drop]; omega
          have R3 : RatsOwn w3 wr.heap.size v3 (ps.drop j) (rs.drop j) := by
            have h := (RatsOwn.nil wr wr.heap.size (Nat.le_refl _)).put (qs := ps.drop j) (ss := rs.drop j) (HQ.out.1.at j).len (HQ.out.1.at j).each' (by rw [hlen3]; exact o3) g3
            exact h
          have L3 : RatsOwn w3 w1.heap.size (.slice (some ⟨g, 0, none⟩) j j) ps rs := HQ.out.1.kept g3 (by have := HQ.out.2.2.2.1; simp [Value.ownBlock]; omega) HQ.out.2.1.clean
          have B3 : Below w.heap.size w w3 := HQ.out.2.2.1.grown g3 HQ.out.2.2.1.size (fun k hk => by cases hk; exact HW.out.2.2.2)
          obtain ⟨gt, capt, ev3, hbt, _, _, hmt⟩ := R3.form hv3
          obtain ⟨LL, hLL⟩ : ∃ LL, (ps.drop j).length = LL := ⟨_, rfl⟩
          rw [hLL] at ev3
          subst ev3
          have HLL : Hid ((ps.drop j).length = LL) := hLL
          have H3 : Hid (RatsOwn w3 wr.heap.size (.slice (some ⟨gt, 0, none⟩) LL capt) (ps.drop j) (rs.drop j) ∧ RatsOwn w3 w1.heap.size (.slice (some ⟨g, 0, none⟩) j j) ps rs ∧ Below w.heap.size w w3 ∧ wr.heap.size ≤ gt ∧ wr.heap.size ≤ w3.heap.size) := ⟨R3, L3, B3, hbt, Nat.le_trans (by simp) g3.size⟩
          clear o3 g3 n3 hv3 hlen3 R3 L3 B3 hbt hmt hLL
          go_wp2_with fail
          refine (of_r 0 _ (by omega) (by omega)).mono ?_
          rintro e w4 ⟨zg, zo, zn, zc, zeo, zen, zec, z, rfl, q1, q2, q3, q4⟩
          have a1 : Below w4.heap.size w4 (w4.alloc (.cells #[.bool zg, .slice zo zn zc, .slice zeo zen zec] 28)) := (Below.refl _ _).alloc (Nat.le_refl _) _
          have H4 : Hid (RatsOwn (w4.alloc (.cells #[.bool zg, .slice zo zn zc, .slice zeo zen zec] 28)) wr.heap.size (.slice (some ⟨gt, 0, none⟩) LL capt) (ps.drop j) (rs.drop j) ∧ RatsOwn (w4.alloc (.cells #[.bool zg, .slice zo zn zc, .slice zeo zen zec] 28)) w1.heap.size (.slice (some ⟨g, 0, none⟩) j j) ps rs ∧ Below w.heap.size w (w4.alloc (.cells #[.bool zg, .slice zo zn zc, .slice zeo zen zec] 28)) ∧ RatAt (w4.alloc (.cells #[.bool zg, .slice zo zn zc, .slice zeo zen zec] 28)) zo zn zc zeo zen zec z ∧ z.neg = zg ∧ Is z 0 1 ∧ wr.heap.size ≤ (w4.alloc (.cells #[.bool zg, .slice zo zn zc, .slice zeo zen zec] 28)).heap.size) :=
            ⟨(H3.out.1.below q4).below a1, (H3.out.2.1.below q4).below a1, chain (chain H3.out.2.2.1 q4) a1, q2.below a1, q1, q3, Nat.le_trans H3.out.2.2.2.2 (Nat.le_trans q4.size a1.size)⟩
          have HL : Hid (LL ≤ 8) := by
            have h : LL ≤ 8 := by
              have e : (ps.drop j).length = ps.length - j := List.length_drop
              have e2 := HLL.out
              have := HP.out
              have := HW.out.1
              omega
            exact h
          clear q1 q2 q3 q4 a1
          go_wp2_with (at_builtin; refine wpList_append_put _ rfl _ _ _ rfl wr.heap.size 28 i0 _ 3 56 Try.underlying24 hi0 hz0 hz1 hz2 rfl (by omega) zero28 _ LL (cellsOf (ps.drop j)) rfl (by have h := H4.out.1.own; rw [HLL.out] at h; exact h) ⟨w4.heap.size, 0, none⟩ 1 1 [.bool zg, .slice zo zn zc, .slice zeo zen zec] rfl rfl (World.news_of_block (heap_alloc_new w4 _)) (by simp [Value.oneCell']) (RP.cs_clean ⟨zg, zo, zn, zc, zeo, zen, zec⟩) (by omega) (by have := HL.out; unfold maxLen; omega) (by have := HL.out; omega) H4.out.2.2.2.2.2.2 ?_)
          intro g5 cap5 w5 o5 k5
          have k5' : (w4.alloc (.cells #[.bool zg, .slice zo zn zc, .slice zeo zen zec] 28)).grownBy w5 (some gt) := k5
          have R5 : RatsOwn w5 wr.heap.size (.slice (some ⟨g5, 0, none⟩) (LL + 1) cap5) (ps.drop j ++ [(⟨zg, zo, zn, zc, zeo, zen, zec⟩ : RP)]) (rs.drop j ++ [z]) :=
            H4.out.1.put (qs := [(⟨zg, zo, zn, zc, zeo, zen, zec⟩ : RP)]) (ss := [z]) rfl (by
              intro i p r' hp hr
              cases i with
              | zero => simp at hp hr; subst hp hr; exact ⟨H4.out.2.2.2.1, H4.out.2.2.2.2.1⟩
              | succ i => simp at hp) (by rw [cellsOf_one, HLL.out]; exact o5) k5'
          have L5 : RatsOwn w5 w1.heap.size (.slice (some ⟨g, 0, none⟩) j j) ps rs := H4.out.2.1.kept k5' (by have := HQ.out.2.2.2.1; have := H3.out.2.2.2.1; simp [Value.ownBlock]; omega) H4.out.1.own.clean
          have B5 : Below w.heap.size w w5 := H4.out.2.2.1.grown k5' H4.out.2.2.1.size (fun k hk => by cases hk; exact Nat.le_trans HW.out.2.2.2 H3.out.2.2.2.1)
          have H5 : Hid (RatsOwn w5 wr.heap.size (.slice (some ⟨g5, 0, none⟩) (LL + 1) cap5) (ps.drop j ++ [(⟨zg, zo, zn, zc, zeo, zen, zec⟩ : RP)]) (rs.drop j ++ [z]) ∧ RatsOwn w5 w1.heap.size (.slice (some ⟨g, 0, none⟩) j j) ps rs ∧ Below w.heap.size w w5 ∧ wr.heap.size ≤ g5 ∧ wr.heap.size ≤ w5.heap.size) := ⟨R5, L5, B5, (R5.own.row.lt g5 rfl).1, Nat.le_trans H4.out.2.2.2.2.2.2 k5'.size⟩
          clear o5 k5 k5' R5 L5 B5
          go_wp2_with (at_builtin; refine wpList_append_owns _ rfl _ _ _ rfl wr.heap.size 28 i0 _ 3 56 Try.underlying24 hi0 hz0 hz1 hz2 rfl (by omega) zero28 _ (LL + 1) (cellsOf (ps.drop j ++ [(⟨zg, zo, zn, zc, zeo, zen, zec⟩ : RP)])) rfl (by have h := H5.out.1.own; rw [List.length_append, HLL.out] at h; exact h) ⟨g, 0, none⟩ j j (cellsOf (ps.take j)) rfl (by rw [cellsOf_length, List.length_take, HW.out.1]; have := HP.out; omega) (H5.out.2.1.all.take j).news (cellsOf_onecell _) (cellsOf_clean _) (by have := HL.out; have := HP.out; unfold maxLen; omega) (by have := HL.out; have := HP.out; omega) H5.out.2.2.2.2 ?_)
          intro v6 w6 o6 g6 n6
          have g6' : w5.grownBy w6 (some g5) := g6
          have hv6 : v6 ≠ .slice none 0 0 := by first | exact n6 | exact fun e => by have := (n6.1 e).1; cases this
          have R6 : RatsOwn w6 wr.heap.size v6 (ps.drop j ++ [(⟨zg, zo, zn, zc, zeo, zen, zec⟩ : RP)] ++ ps.take j) (rs.drop j ++ [z] ++ rs.take j) :=
            H5.out.1.put (qs := ps.take j) (ss := rs.take j) (H5.out.2.1.all.take j).len (H5.out.2.1.all.take j).each' (by rw [List.length_append, HLL.out, show (ps.take j).length = j by rw [List.length_take, HW.out.1]; have := HP.out; omega]; exact o6) g6'
          have L6 : RatsOwn w6 w1.heap.size (.slice (some ⟨g, 0, none⟩) j j) ps rs := H5.out.2.1.kept g6' (by have := HQ.out.2.2.2.1; have := H5.out.2.2.2.1; simp [Value.ownBlock]; omega) H5.out.1.own.clean
          have B6 : Below w.heap.size w w6 := H5.out.2.2.1.grown g6' H5.out.2.2.1.size (fun k hk => by cases hk; exact Nat.le_trans HW.out.2.2.2 H5.out.2.2.2.1)
          obtain ⟨g7, cap7, ev6, _, _, _, _⟩ := R6.form hv6
          obtain ⟨LM, hLM⟩ : ∃ LM, (ps.drop j ++ [(⟨zg, zo, zn, zc, zeo, zen, zec⟩ : RP)] ++ ps.take j).length = LM := ⟨_, rfl⟩
          rw [hLM] at ev6
          subst ev6
          have HLM : Hid ((ps.drop j ++ [(⟨zg, zo, zn, zc, zeo, zen, zec⟩ : RP)] ++ ps.take j).length = LM ∧ LM ≤ 1000) := ⟨hLM, by have e := HLL.out; have := HL.out; have := HP.out; rw [← hLM, List.length_append, List.length_append, e, List.length_take]; simp only [List.length_cons, List.length_nil]; omega⟩
          have H6 : Hid (RatsOwn w6 wr.heap.size (.slice (some ⟨g7, 0, none⟩) LM cap7) (ps.drop j ++ [(⟨zg, zo, zn, zc, zeo, zen, zec⟩ : RP)] ++ ps.take j) (rs.drop j ++ [z] ++ rs.take j) ∧ RatsOwn w6 w1.heap.size (.slice (some ⟨g, 0, none⟩) j j) ps rs ∧ Below w.heap.size w w6) := ⟨R6, L6, B6⟩
          clear o6 g6 n6 g6' hv6 R6 L6 B6 hLM
          go_wp2_with fail
          refine (sumR_any _ _ _ g 0 ps rs _ H6.out.2.1.all HW.out.1 (fun _ => rfl) (by have := HP.out; omega)).mono ?_
          rintro e w7 ⟨xg, xo, xn, xc, xeo, xen, xec, x, k, t0, rfl, q1, q2, q3, q5, q4⟩
          have a1 : Below w7.heap.size w7 (w7.alloc (.cells #[.bool xg, .slice xo xn xc, .slice xeo xen xec] 28)) := (Below.refl _ _).alloc (Nat.le_refl _) _
          have bx := RBox.new w7 xg xo xn xc xeo xen xec
          have H7 : Hid (RatsOwn (w7.alloc (.cells #[.bool xg, .slice xo xn xc, .slice xeo xen xec] 28)) wr.heap.size (.slice (some ⟨g7, 0, none⟩) LM cap7) (ps.drop j ++ [(⟨zg, zo, zn, zc, zeo, zen, zec⟩ : RP)] ++ ps.take j) (rs.drop j ++ [z] ++ rs.take j) ∧ Below w.heap.size w (w7.alloc (.cells #[.bool xg, .slice xo xn xc, .slice xeo xen xec] 28)) ∧ RatAt (w7.alloc (.cells #[.bool xg, .slice xo xn xc, .slice xeo xen xec] 28)) xo xn xc xeo xen xec x ∧ x.neg = xg ∧ Is t0 0 1 ∧ SumR rs t0 x k ∧ RBox (w7.alloc (.cells #[.bool xg, .slice xo xn xc, .slice xeo xen xec] 28)) w7.heap.size xg xo xn xc xeo xen xec) := ⟨(H6.out.1.below q4).below a1, chain (chain H6.out.2.2 q4) a1, q2.below a1, q1, q3, q5, bx⟩
          clear q1 q2 q3 q4 q5 a1 bx
          go_wp2_with fail
          refine (sumR_any _ _ _ g7 0 _ _ _ H7.out.1.all HLM.out.1 (fun _ => rfl) HLM.out.2).mono ?_
          rintro e w8 ⟨yg, yo, yn, yc, yeo, yen, yec, y, k', u0, rfl, q1, q2, q3, q5, q4⟩
          obtain ⟨hk, hk', hxy⟩ := sums_same j HW.out.2.1 HW.out.2.2.1 H4.out.2.2.2.2.2.1 H7.out.2.2.2.2.1 q3 H7.out.2.2.2.2.2.1 q5
          subst hk hk'
          have a1 : Below w8.heap.size w8 (w8.alloc (.cells #[.bool yg, .slice yo yn yc, .slice yeo yen yec] 28)) := (Below.refl _ _).alloc (Nat.le_refl _) _
          have bx := (H7.out.2.2.2.2.2.2.below q4).below a1
          have by' := RBox.new w8 yg yo yn yc yeo yen yec
          have c0 := bx.c0
          have c1 := bx.c1
          have c2 := bx.c2
          have d0 := by'.c0
          have d1 := by'.c1
          have d2 := by'.c2
          have H8 : Hid (RatAt (w8.alloc (.cells #[.bool yg, .slice yo yn yc, .slice yeo yen yec] 28)) xo xn xc xeo xen xec x ∧ RatAt (w8.alloc (.cells #[.bool yg, .slice yo yn yc, .slice yeo yen yec] 28)) yo yn yc yeo yen yec y ∧ x.neg = xg ∧ y.neg = yg ∧ x = y ∧ Below w.heap.size w (w8.alloc (.cells #[.bool yg, .slice yo yn yc, .slice yeo yen yec] 28))) := ⟨(H7.out.2.2.1.below q4).below a1, q2.below a1, H7.out.2.2.2.1, q1, hxy, chain (chain H7.out.2.1 q4) a1⟩
          clear q1 q2 q3 q4 q5 a1 bx by' hxy
          go_wp2_with fail
          refine (rsame_r _ _ _ _ _ _ _ _ _ _ _ _ _ _ x y _ H8.out.1 H8.out.2.1 H8.out.2.2.1 H8.out.2.2.2.1 true (yes_iff H8.out.2.2.2.2.1)).mono ?_
          rintro e w9 ⟨rfl, q⟩
          have HF : Hid (Below w.heap.size w w9) := chain H8.out.2.2.2.2.2 q
          clear q
          go_wp2
          go_ret
          exact ⟨rfl, HF.out⟩
      · have hKc' : ¬ (K : Int) = (cap : Int) := by omega
        by_cases ha : (j : Int) < (al : Int)
        · have hb : ¬ (j : Int) < (bl : Int) := fun h => hjn ⟨ha, h⟩
          clear hjn hj hjb hjr h0
          have HQ : Hid (RatsOwn (wr.alloc (.cells #[] 28)) w1.heap.size (.slice (some ⟨g, 0, none⟩) j cap) ps rs ∧ OwnS (wr.alloc (.cells #[] 28)) wr.heap.size 28 3 (.slice (some ⟨wr.heap.size, 0, none⟩) 0 0) 0 [] ∧ Below w.heap.size w (wr.alloc (.cells #[] 28)) ∧ g < wr.heap.size ∧ w1.heap.size ≤ g) :=
            ⟨hO.out.2.1.below ((Below.refl _ _).alloc (Nat.le_refl _) _), OwnS.made wr 28 3 (Nat.le_refl _), chain hO.out.1 ((Below.refl _ _).alloc (Nat.le_refl _) _), (hO.out.2.1.own.row.lt g rfl).2, (hO.out.2.1.own.row.lt g rfl).1⟩
          have HW : Hid (ps.length = j ∧ SmAll rs cs ∧ rs.length ≤ 8 ∧ w.heap.size ≤ wr.heap.size) := ⟨hO.out.2.2.1, hO.out.2.2.2.1, by have := HP.out; have := hO.out.2.1.len; have := hO.out.2.2.1; omega, hO.out.1.size⟩
          go_wp2_with (at_builtin; refine wpList_append_owns _ rfl _ _ _ rfl wr.heap.size 28 i0 _ 3 56 Try.underlying24 hi0 hz0 hz1 hz2 rfl (by omega) zero28 _ 0 [] rfl HQ.out.2.1 ⟨g, K * 3, none⟩ (j - K) (cap - K) (cellsOf (ps.drop K)) rfl (by rw [cellsOf_length, List.length_drop, hO.out.2.2.1]) (HQ.out.1.at K).news (cellsOf_onecell _) (cellsOf_clean _) (by have := HP.out; unfold maxLen; omega) (by have := HP.out; omega) (by simp) ?_)
          intro v3 w3 o3 g3 n3
          have hv3 : v3 ≠ .slice none 0 0 := by first | exact n3 | exact fun e => by have := (n3.1 e).1; cases this
          have hlen3 : (ps.drop K).length = j - K := by have := hO.out.2.2.1; rw [List.length_drop]; omega
          have R3 : RatsOwn w3 wr.heap.size v3 (ps.drop K) (rs.drop K) := by
            have h := (RatsOwn.nil wr wr.heap.size (Nat.le_refl _)).put (qs := ps.drop K) (ss := rs.drop K) (HQ.out.1.at K).len (HQ.out.1.at K).each' (by rw [hlen3]; show OwnS _ _ _ _ _ (0 + (j - K)) ([] ++ _); rw [Nat.zero_add, List.nil_append]; exact o3) g3
            exact h
          have L3 : RatsOwn w3 w1.heap.size (.slice (some ⟨g, 0, none⟩) j cap) ps rs := HQ.out.1.kept g3 (by have := HQ.out.2.2.2.1; simp [Value.ownBlock]; omega) HQ.out.2.1.clean
          have B3 : Below w.heap.size w w3 := HQ.out.2.2.1.grown g3 HQ.out.2.2.1.size (fun k hk => by cases hk; exact HW.out.2.2.2)
          obtain ⟨gt, capt, ev3, hbt, _, _, hmt⟩ := R3.form hv3
          obtain ⟨LL, hLL⟩ : ∃ LL, (ps.drop K).length = LL := ⟨_, rfl⟩
          rw [hLL] at ev3
          subst ev3
          have HLL : Hid ((ps.drop K).length = LL) := hLL
          have H3 : Hid (RatsOwn w3 wr.heap.size (.slice (some ⟨gt, 0, none⟩) LL capt) (ps.drop K) (rs.drop K) ∧ RatsOwn w3 w1.heap.size (.slice (some ⟨g, 0, none⟩) j cap) ps rs ∧ Below w.heap.size w w3 ∧ wr.heap.size ≤ gt ∧ wr.heap.size ≤ w3.heap.size) := ⟨R3, L3, B3, hbt, Nat.le_trans (by simp) g3.size⟩
          clear o3 g3 n3 hv3 hlen3 R3 L3 B3 hbt hmt hLL
          go_wp2_with fail
          refine (of_r 0 _ (by omega) (by omega)).mono ?_
          rintro e w4 ⟨zg, zo, zn, zc, zeo, zen, zec, z, rfl, q1, q2, q3, q4⟩
          have a1 : Below w4.heap.size w4 (w4.alloc (.cells #[.bool zg, .slice zo zn zc, .slice zeo zen zec] 28)) := (Below.refl _ _).alloc (Nat.le_refl _) _
          have H4 : Hid (RatsOwn (w4.alloc (.cells #[.bool zg, .slice zo zn zc, .slice zeo zen zec] 28)) wr.heap.size (.slice (some ⟨gt, 0, none⟩) LL capt) (ps.drop K) (rs.drop K) ∧ RatsOwn (w4.alloc (.cells #[.bool zg, .slice zo zn zc, .slice zeo zen zec] 28)) w1.heap.size (.slice (some ⟨g, 0, none⟩) j cap) ps rs ∧ Below w.heap.size w (w4.alloc (.cells #[.bool zg, .slice zo zn zc, .slice zeo zen zec] 28)) ∧ RatAt (w4.alloc (.cells #[.bool zg, .slice zo zn zc, .slice zeo zen zec] 28)) zo zn zc zeo zen zec z ∧ z.neg = zg ∧ Is z 0 1 ∧ wr.heap.size ≤ (w4.alloc (.cells #[.bool zg, .slice zo zn zc, .slice zeo zen zec] 28)).heap.size) :=
            ⟨(H3.out.1.below q4).below a1, (H3.out.2.1.below q4).below a1, chain (chain H3.out.2.2.1 q4) a1, q2.below a1, q1, q3, Nat.le_trans H3.out.2.2.2.2 (Nat.le_trans q4.size a1.size)⟩
          have HL : Hid (LL ≤ 8) := by
            have h : LL ≤ 8 := by
              have e : (ps.drop K).length = ps.length - K := List.length_drop
              have e2 := HLL.out
              have := HP.out
              have := HW.out.1
              omega
            exact h
          clear q1 q2 q3 q4 a1
          go_wp2_with (at_builtin; refine wpList_append_put _ rfl _ _ _ rfl wr.heap.size 28 i0 _ 3 56 Try.underlying24 hi0 hz0 hz1 hz2 rfl (by omega) zero28 _ LL (cellsOf (ps.drop K)) rfl (by have h := H4.out.1.own; rw [HLL.out] at h; exact h) ⟨w4.heap.size, 0, none⟩ 1 1 [.bool zg, .slice zo zn zc, .slice zeo zen zec] rfl rfl (World.news_of_block (heap_alloc_new w4 _)) (by simp [Value.oneCell']) (RP.cs_clean ⟨zg, zo, zn, zc, zeo, zen, zec⟩) (by omega) (by have := HL.out; unfold maxLen; omega) (by have := HL.out; omega) H4.out.2.2.2.2.2.2 ?_)
          intro g5 cap5 w5 o5 k5
          have k5' : (w4.alloc (.cells #[.bool zg, .slice zo zn zc, .slice zeo zen zec] 28)).grownBy w5 (some gt) := k5
          have R5 : RatsOwn w5 wr.heap.size (.slice (some ⟨g5, 0, none⟩) (LL + 1) cap5) (ps.drop K ++ [(⟨zg, zo, zn, zc, zeo, zen, zec⟩ : RP)]) (rs.drop K ++ [z]) :=
            H4.out.1.put (qs := [(⟨zg, zo, zn, zc, zeo, zen, zec⟩ : RP)]) (ss := [z]) rfl (by
              intro i p r' hp hr
              cases i with
              | zero => simp at hp hr; subst hp hr; exact ⟨H4.out.2.2.2.1, H4.out.2.2.2.2.1⟩
              | succ i => simp at hp) (by rw [cellsOf_one, HLL.out]; exact o5) k5'
          have L5 : RatsOwn w5 w1.heap.size (.slice (some ⟨g, 0, none⟩) j cap) ps rs := H4.out.2.1.kept k5' (by have := HQ.out.2.2.2.1; have := H3.out.2.2.2.1; simp [Value.ownBlock]; omega) H4.out.1.own.clean
          have B5 : Below w.heap.size w w5 := H4.out.2.2.1.grown k5' H4.out.2.2.1.size (fun k hk => by cases hk; exact Nat.le_trans HW.out.2.2.2 H3.out.2.2.2.1)
          have H5 : Hid (RatsOwn w5 wr.heap.size (.slice (some ⟨g5, 0, none⟩) (LL + 1) cap5) (ps.drop K ++ [(⟨zg, zo, zn, zc, zeo, zen, zec⟩ : RP)]) (rs.drop K ++ [z]) ∧ RatsOwn w5 w1.heap.size (.slice (some ⟨g, 0, none⟩) j cap) ps rs ∧ Below w.heap.size w w5 ∧ wr.heap.size ≤ g5 ∧ wr.heap.size ≤ w5.heap.size) := ⟨R5, L5, B5, (R5.own.row.lt g5 rfl).1, Nat.le_trans H4.out.2.2.2.2.2.2 k5'.size⟩
          clear o5 k5 k5' R5 L5 B5
          go_wp2_with (at_builtin; refine wpList_append_owns _ rfl _ _ _ rfl wr.heap.size 28 i0 _ 3 56 Try.underlying24 hi0 hz0 hz1 hz2 rfl (by omega) zero28 _ (LL + 1) (cellsOf (ps.drop K ++ [(⟨zg, zo, zn, zc, zeo, zen, zec⟩ : RP)])) rfl (by have h := H5.out.1.own; rw [List.length_append, HLL.out] at h; exact h) ⟨g, 0, none⟩ K cap (cellsOf (ps.take K)) rfl (by rw [cellsOf_length, List.length_take, HW.out.1]; have := HP.out; omega) (H5.out.2.1.all.take K).news (cellsOf_onecell _) (cellsOf_clean _) (by have := HL.out; have := HP.out; unfold maxLen; omega) (by have := HL.out; have := HP.out; omega) H5.out.2.2.2.2 ?_)
          intro v6 w6 o6 g6 n6
          have g6' : w5.grownBy w6 (some g5) := g6
          have hv6 : v6 ≠ .slice none 0 0 := by first | exact n6 | exact fun e => by have := (n6.1 e).1; cases this
          have R6 : RatsOwn w6 wr.heap.size v6 (ps.drop K ++ [(⟨zg, zo, zn, zc, zeo, zen, zec⟩ : RP)] ++ ps.take K) (rs.drop K ++ [z] ++ rs.take K) :=
            H5.out.1.put (qs := ps.take K) (ss := rs.take K) (H5.out.2.1.all.take K).len (H5.out.2.1.all.take K).each' (by rw [List.length_append, HLL.out, show (ps.take K).length = K by rw [List.length_take, HW.out.1]; have := HP.out; omega]; exact o6) g6'
          have L6 : RatsOwn w6 w1.heap.size (.slice (some ⟨g, 0, none⟩) j cap) ps rs := H5.out.2.1.kept g6' (by have := HQ.out.2.2.2.1; have := H5.out.2.2.2.1; simp [Value.ownBlock]; omega) H5.out.1.own.clean
          have B6 : Below w.heap.size w w6 := H5.out.2.2.1.grown g6' H5.out.2.2.1.size (fun k hk => by cases hk; exact Nat.le_trans HW.out.2.2.2 H5.out.2.2.2.1)
          obtain ⟨g7, cap7, ev6, _, _, _, _⟩ := R6.form hv6
          obtain ⟨LM, hLM⟩ : ∃ LM, (ps.drop K ++ [(⟨zg, zo, zn, zc, zeo, zen, zec⟩ : RP)] ++ ps.take K).length = LM := ⟨_, rfl⟩
          rw [hLM] at ev6
          subst ev6
          have HLM : Hid ((ps.drop K ++ [(⟨zg, zo, zn, zc, zeo, zen, zec⟩ : RP)] ++ ps.take K).length = LM ∧ LM ≤ 1000) := ⟨hLM, by have e := HLL.out; have := HL.out; have := HP.out; rw [← hLM, List.length_append, List.length_append, e, List.length_take]; simp only [List.length_cons, List.length_nil]; omega⟩
          have H6 : Hid (RatsOwn w6 wr.heap.size (.slice (some ⟨g7, 0, none⟩) LM cap7) (ps.drop K ++ [(⟨zg, zo, zn, zc, zeo, zen, zec⟩ : RP)] ++ ps.take K) (rs.drop K ++ [z] ++ rs.take K) ∧ RatsOwn w6 w1.heap.size (.slice (some ⟨g, 0, none⟩) j cap) ps rs ∧ Below w.heap.size w w6) := ⟨R6, L6, B6⟩
          clear o6 g6 n6 g6' hv6 R6 L6 B6 hLM
          go_wp2_with fail
          refine (sumR_any _ _ _ g 0 ps rs _ H6.out.2.1.all HW.out.1 (fun _ => rfl) (by have := HP.out; omega)).mono ?_
          rintro e w7 ⟨xg, xo, xn, xc, xeo, xen, xec, x, k, t0, rfl, q1, q2, q3, q5, q4⟩
          have a1 : Below w7.heap.size w7 (w7.alloc (.cells #[.bool xg, .slice xo xn xc, .slice xeo xen xec] 28)) := (Below.refl _ _).alloc (Nat.le_refl _) _
          have bx := RBox.new w7 xg xo xn xc xeo xen xec
          have H7 : Hid (RatsOwn (w7.alloc (.cells #[.bool xg, .slice xo xn xc, .slice xeo xen xec] 28)) wr.heap.size (.slice (some ⟨g7, 0, none⟩) LM cap7) (ps.drop K ++ [(⟨zg, zo, zn, zc, zeo, zen, zec⟩ : RP)] ++ ps.take K) (rs.drop K ++ [z] ++ rs.take K) ∧ Below w.heap.size w (w7.alloc (.cells #[.bool xg, .slice xo xn xc, .slice xeo xen xec] 28)) ∧ RatAt (w7.alloc (.cells #[.bool xg, .slice xo xn xc, .slice xeo xen xec] 28)) xo xn xc xeo xen xec x ∧ x.neg = xg ∧ Is t0 0 1 ∧ SumR rs t0 x k ∧ RBox (w7.alloc (.cells #[.bool xg, .slice xo xn xc, .slice xeo xen xec] 28)) w7.heap.size xg xo xn xc xeo xen xec) := ⟨(H6.out.1.below q4).below a1, chain (chain H6.out.2.2 q4) a1, q2.below a1, q1, q3, q5, bx⟩
          clear q1 q2 q3 q4 q5 a1 bx
          go_wp2_with fail
          refine (sumR_any _ _ _ g7 0 _ _ _ H7.out.1.all HLM.out.1 (fun _ => rfl) HLM.out.2).mono ?_
          rintro e w8 ⟨yg, yo, yn, yc, yeo, yen, yec, y, k', u0, rfl, q1, q2, q3, q5, q4⟩
          obtain ⟨hk, hk', hxy⟩ := sums_same K HW.out.2.1 HW.out.2.2.1 H4.out.2.2.2.2.2.1 H7.out.2.2.2.2.1 q3 H7.out.2.2.2.2.2.1 q5
          subst hk hk'
          have a1 : Below w8.heap.size w8 (w8.alloc (.cells #[.bool yg, .slice yo yn yc, .slice yeo yen yec] 28)) := (Below.refl _ _).alloc (Nat.le_refl _) _
          have bx := (H7.out.2.2.2.2.2.2.below q4).below a1
          have by' := RBox.new w8 yg yo yn yc yeo yen yec
          have c0 := bx.c0
          have c1 := bx.c1
          have c2 := bx.c2
          have d0 := by'.c0
          have d1 := by'.c1
          have d2 := by'.c2
          have H8 : Hid (RatAt (w8.alloc (.cells #[.bool yg, .slice yo yn yc, .slice yeo yen yec] 28)) xo xn xc xeo xen xec x ∧ RatAt (w8.alloc (.cells #[.bool yg, .slice yo yn yc, .slice yeo yen yec] 28)) yo yn yc yeo yen yec y ∧ x.neg = xg ∧ y.neg = yg ∧ x = y ∧ Below w.heap.size w (w8.alloc (.cells #[.bool yg, .slice yo yn yc, .slice yeo yen yec] 28))) := ⟨(H7.out.2.2.1.below q4).below a1, q2.below a1, H7.out.2.2.2.1, q1, hxy, chain (chain H7.out.2.1 q4) a1⟩
          clear q1 q2 q3 q4 q5 a1 bx by' hxy
          go_wp2_with fail
          refine (rsame_r _ _ _ _ _ _ _ _ _ _ _ _ _ _ x y _ H8.out.1 H8.out.2.1 H8.out.2.2.1 H8.out.2.2.2.1 true (yes_iff H8.out.2.2.2.2.1)).mono ?_
          rintro e w9 ⟨rfl, q⟩
          have HF : Hid (Below w.heap.size w w9) := chain H8.out.2.2.2.2.2 q
          clear q
          go_wp2
          go_ret
          exact ⟨rfl, HF.out⟩
        · clear hjn hj hjb hjr h0
          have HQ : Hid (RatsOwn (wr.alloc (.cells #[] 28)) w1.heap.size (.slice (some ⟨g, 0, none⟩) j cap) ps rs ∧ OwnS (wr.alloc (.cells #[] 28)) wr.heap.size 28 3 (.slice (some ⟨wr.heap.size, 0, none⟩) 0 0) 0 [] ∧ Below w.heap.size w (wr.alloc (.cells #[] 28)) ∧ g < wr.heap.size ∧ w1.heap.size ≤ g) :=
            ⟨hO.out.2.1.below ((Below.refl _ _).alloc (Nat.le_refl _) _), OwnS.made wr 28 3 (Nat.le_refl _), chain hO.out.1 ((Below.refl _ _).alloc (Nat.le_refl _) _), (hO.out.2.1.own.row.lt g rfl).2, (hO.out.2.1.own.row.lt g rfl).1⟩
          have HW : Hid (ps.length = j ∧ SmAll rs cs ∧ rs.length ≤ 8 ∧ w.heap.size ≤ wr.heap.size) := ⟨hO.out.2.2.1, hO.out.2.2.2.1, by have := HP.out; have := hO.out.2.1.len; have := hO.out.2.2.1; omega, hO.out.1.size⟩
          go_wp2_with (at_builtin; refine wpList_append_owns _ rfl _ _ _ rfl wr.heap.size 28 i0 _ 3 56 Try.underlying24 hi0 hz0 hz1 hz2 rfl (by omega) zero28 _ 0 [] rfl HQ.out.2.1 ⟨g, K * 3, none⟩ (j - K) (cap - K) (cellsOf (ps.drop K)) rfl (by rw [cellsOf_length, List.length_drop, hO.out.2.2.1]) (HQ.out.1.at K).news (cellsOf_onecell _) (cellsOf_clean _) (by have := HP.out; unfold maxLen; omega) (by have := HP.out; omega) (by simp) ?_)
          intro v3 w3 o3 g3 n3
          have hv3 : v3 ≠ .slice none 0 0 := by first | exact n3 | exact fun e => by have := (n3.1 e).1; cases this
          have hlen3 : (ps.drop K).length = j - K := by have := hO.out.2.2.1; rw [List.length_drop]; omega
          have R3 : RatsOwn w3 wr.heap.size v3 (ps.drop K) (rs.drop K) := by
            have h := (RatsOwn.nil wr wr.heap.size (Nat.le_refl _)).put (qs := ps.drop K) (ss := rs.drop K) (HQ.out.1.at K).len (HQ.out.1.at K).each' (by rw [hlen3]; show OwnS _ _ _ _ _ (0 + (j - K)) ([] ++ _); rw [Nat.zero_add, List.nil_append]; exact o3) g3
            exact h
          have L3 : RatsOwn w3 w1.heap.size (.slice (some ⟨g, 0, none⟩) j cap) ps rs := HQ.out.1.kept g3 (by have := HQ.out.2.2.2.1; simp [Value.ownBlock]; omega) HQ.out.2.1.clean
          have B3 : Below w.heap.size w w3 := HQ.out.2.2.1.grown g3 HQ.out.2.2.1.size (fun k hk => by cases hk; exact HW.out.2.2.2)
          obtain ⟨gt, capt, ev3, hbt, _, _, hmt⟩ := R3.form hv3
          obtain ⟨LL, hLL⟩ : ∃ LL, (ps.drop K).length = LL := ⟨_, rfl⟩
          rw [hLL] at ev3
          subst ev3
          have HLL : Hid ((ps.drop K).length = LL) := hLL
          have H3 : Hid (RatsOwn w3 wr.heap.size (.slice (some ⟨gt, 0, none⟩) LL capt) (ps.drop K) (rs.drop K) ∧ RatsOwn w3 w1.heap.size (.slice (some ⟨g, 0, none⟩) j cap) ps rs ∧ Below w.heap.size w w3 ∧ wr.heap.size ≤ gt ∧ wr.heap.size ≤ w3.heap.size) := ⟨R3, L3, B3, hbt, Nat.le_trans (by simp) g3.size⟩
          clear o3 g3 n3 hv3 hlen3 R3 L3 B3 hbt hmt hLL
          go_wp2_with fail
          refine (of_r 0 _ (by omega) (by omega)).mono ?_
          rintro e w4 ⟨zg, zo, zn, zc, zeo, zen, zec, z, rfl, q1, q2, q3, q4⟩
          have a1 : Below w4.heap.size w4 (w4.alloc (.cells #[.bool zg, .slice zo zn zc, .slice zeo zen zec] 28)) := (Below.refl _ _).alloc (Nat.le_refl _) _
          have H4 : Hid (RatsOwn (w4.alloc (.cells #[.bool zg, .slice zo zn zc, .slice zeo zen zec] 28)) wr.heap.size (.slice (some ⟨gt, 0, none⟩) LL capt) (ps.drop K) (rs.drop K) ∧ RatsOwn (w4.alloc (.cells #[.bool zg, .slice zo zn zc, .slice zeo zen zec] 28)) w1.heap.size (.slice (some ⟨g, 0, none⟩) j cap) ps rs ∧ Below w.heap.size w (w4.alloc (.cells #[.bool zg, .slice zo zn zc, .slice zeo zen zec] 28)) ∧ RatAt (w4.alloc (.cells #[.bool zg, .slice zo zn zc, .slice zeo zen zec] 28)) zo zn zc zeo zen zec z ∧ z.neg = zg ∧ Is z 0 1 ∧ wr.heap.size ≤ (w4.alloc (.cells #[.bool zg, .slice zo zn zc, .slice zeo zen zec] 28)).heap.size) :=
            ⟨(H3.out.1.below q4).below a1, (H3.out.2.1.below q4).below a1, chain (chain H3.out.2.2.1 q4) a1, q2.below a1, q1, q3, Nat.le_trans H3.out.2.2.2.2 (Nat.le_trans q4.size a1.size)⟩
          have HL : Hid (LL ≤ 8) := by
            have h : LL ≤ 8 := by
              have e : (ps.drop K).length = ps.length - K := List.length_drop
              have e2 := HLL.out
              have := HP.out
              have := HW.out.1
              omega
            exact h
          clear q1 q2 q3 q4 a1
          go_wp2_with (at_builtin; refine wpList_append_put _ rfl _ _ _ rfl wr.heap.size 28 i0 _ 3 56 Try.underlying24 hi0 hz0 hz1 hz2 rfl (by omega) zero28 _ LL (cellsOf (ps.drop K)) rfl (by have h := H4.out.1.own; rw [HLL.out] at h; exact h) ⟨w4.heap.size, 0, none⟩ 1 1 [.bool zg, .slice zo zn zc, .slice zeo zen zec] rfl rfl (World.news_of_block (heap_alloc_new w4 _)) (by simp [Value.oneCell']) (RP.cs_clean ⟨zg, zo, zn, zc, zeo, zen, zec⟩) (by omega) (by have := HL.out; unfold maxLen; omega) (by have := HL.out; omega) H4.out.2.2.2.2.2.2 ?_)
          intro g5 cap5 w5 o5 k5
          have k5' : (w4.alloc (.cells #[.bool zg, .slice zo zn zc, .slice zeo zen zec] 28)).grownBy w5 (some gt) := k5
          have R5 : RatsOwn w5 wr.heap.size (.slice (some ⟨g5, 0, none⟩) (LL + 1) cap5) (ps.drop K ++ [(⟨zg, zo, zn, zc, zeo, zen, zec⟩ : RP)]) (rs.drop K ++ [z]) :=
            H4.out.1.put (qs := [(⟨zg, zo, zn, zc, zeo, zen, zec⟩ : RP)]) (ss := [z]) rfl (by
              intro i p r' hp hr
              cases i with
              | zero => simp at hp hr; subst hp hr; exact ⟨H4.out.2.2.2.1, H4.out.2.2.2.2.1⟩
              | succ i => simp at hp) (by rw [cellsOf_one, HLL.out]; exact o5) k5'
          have L5 : RatsOwn w5 w1.heap.size (.slice (some ⟨g, 0, none⟩) j cap) ps rs := H4.out.2.1.kept k5' (by have := HQ.out.2.2.2.1; have := H3.out.2.2.2.1; simp [Value.ownBlock]; omega) H4.out.1.own.clean
          have B5 : Below w.heap.size w w5 := H4.out.2.2.1.grown k5' H4.out.2.2.1.size (fun k hk => by cases hk; exact Nat.le_trans HW.out.2.2.2 H3.out.2.2.2.1)
          have H5 : Hid (RatsOwn w5 wr.heap.size (.slice (some ⟨g5, 0, none⟩) (LL + 1) cap5) (ps.drop K ++ [(⟨zg, zo, zn, zc, zeo, zen, zec⟩ : RP)]) (rs.drop K ++ [z]) ∧ RatsOwn w5 w1.heap.size (.slice (some ⟨g, 0, none⟩) j cap) ps rs ∧ Below w.heap.size w w5 ∧ wr.heap.size ≤ g5 ∧ wr.heap.size ≤ w5.heap.size) := ⟨R5, L5, B5, (R5.own.row.lt g5 rfl).1, Nat.le_trans H4.out.2.2.2.2.2.2 k5'.size⟩
          clear o5 k5 k5' R5 L5 B5
          go_wp2_with (at_builtin; refine wpList_append_owns _ rfl _ _ _ rfl wr.heap.size 28 i0 _ 3 56 Try.underlying24 hi0 hz0 hz1 hz2 rfl (by omega) zero28 _ (LL + 1) (cellsOf (ps.drop K ++ [(⟨zg, zo, zn, zc, zeo, zen, zec⟩ : RP)])) rfl (by have h := H5.out.1.own; rw [List.length_append, HLL.out] at h; exact h) ⟨g, 0, none⟩ K cap (cellsOf (ps.take K)) rfl (by rw [cellsOf_length, List.length_take, HW.out.1]; have := HP.out; omega) (H5.out.2.1.all.take K).news (cellsOf_onecell _) (cellsOf_clean _) (by have := HL.out; have := HP.out; unfold maxLen; omega) (by have := HL.out; have := HP.out; omega) H5.out.2.2.2.2 ?_)
          intro v6 w6 o6 g6 n6
          have g6' : w5.grownBy w6 (some g5) := g6
          have hv6 : v6 ≠ .slice none 0 0 := by first | exact n6 | exact fun e => by have := (n6.1 e).1; cases this
          have R6 : RatsOwn w6 wr.heap.size v6 (ps.drop K ++ [(⟨zg, zo, zn, zc, zeo, zen, zec⟩ : RP)] ++ ps.take K) (rs.drop K ++ [z] ++ rs.take K) :=
            H5.out.1.put (qs := ps.take K) (ss := rs.take K) (H5.out.2.1.all.take K).len (H5.out.2.1.all.take K).each' (by rw [List.length_append, HLL.out, show (ps.take K).length = K by rw [List.length_take, HW.out.1]; have := HP.out; omega]; exact o6) g6'
          have L6 : RatsOwn w6 w1.heap.size (.slice (some ⟨g, 0, none⟩) j cap) ps rs := H5.out.2.1.kept g6' (by have := HQ.out.2.2.2.1; have := H5.out.2.2.2.1; simp [Value.ownBlock]; omega) H5.out.1.own.clean
          have B6 : Below w.heap.size w w6 := H5.out.2.2.1.grown g6' H5.out.2.2.1.size (fun k hk => by cases hk; exact Nat.le_trans HW.out.2.2.2 H5.out.2.2.2.1)
          obtain ⟨g7, cap7, ev6, _, _, _, _⟩ := R6.form hv6
          obtain ⟨LM, hLM⟩ : ∃ LM, (ps.drop K ++ [(⟨zg, zo, zn, zc, zeo, zen, zec⟩ : RP)] ++ ps.take K).length = LM := ⟨_, rfl⟩
          rw [hLM] at ev6
          subst ev6
          have HLM : Hid ((ps.drop K ++ [(⟨zg, zo, zn, zc, zeo, zen, zec⟩ : RP)] ++ ps.take K).length = LM ∧ LM ≤ 1000) := ⟨hLM, by have e := HLL.out; have := HL.out; have := HP.out; rw [← hLM, List.length_append, List.length_append, e, List.length_take]; simp only [List.length_cons, List.length_nil]; omega⟩
          have H6 : Hid (RatsOwn w6 wr.heap.size (.slice (some ⟨g7, 0, none⟩) LM cap7) (ps.drop K ++ [(⟨zg, zo, zn, zc, zeo, zen, zec⟩ : RP)] ++ ps.take K) (rs.drop K ++ [z] ++ rs.take K) ∧ RatsOwn w6 w1.heap.size (.slice (some ⟨g, 0, none⟩) j cap) ps rs ∧ Below w.heap.size w w6) := ⟨R6, L6, B6⟩
          clear o6 g6 n6 g6' hv6 R6 L6 B6 hLM
          go_wp2_with fail
          refine (sumR_any _ _ _ g 0 ps rs _ H6.out.2.1.all HW.out.1 (fun _ => rfl) (by have := HP.out; omega)).mono ?_
          rintro e w7 ⟨xg, xo, xn, xc, xeo, xen, xec, x, k, t0, rfl, q1, q2, q3, q5, q4⟩
          have a1 : Below w7.heap.size w7 (w7.alloc (.cells #[.bool xg, .slice xo xn xc, .slice xeo xen xec] 28)) := (Below.refl _ _).alloc (Nat.le_refl _) _
          have bx := RBox.new w7 xg xo xn xc xeo xen xec
          have H7 : Hid (RatsOwn (w7.alloc (.cells #[.bool xg, .slice xo xn xc, .slice xeo xen xec] 28)) wr.heap.size (.slice (some ⟨g7, 0, none⟩) LM cap7) (ps.drop K ++ [(⟨zg, zo, zn, zc, zeo, zen, zec⟩ : RP)] ++ ps.take K) (rs.drop K ++ [z] ++ rs.take K) ∧ Below w.heap.size w (w7.alloc (.cells #[.bool xg, .slice xo xn xc, .slice xeo xen xec] 28)) ∧ RatAt (w7.alloc (.cells #[.bool xg, .slice xo xn xc, .slice xeo xen xec] 28)) xo xn xc xeo xen xec x ∧ x.neg = xg ∧ Is t0 0 1 ∧ SumR rs t0 x k ∧ RBox (w7.alloc (.cells #[.bool xg, .slice xo xn xc, .slice xeo xen xec] 28)) w7.heap.size xg xo xn xc xeo xen xec) := ⟨(H6.out.1.below q4).below a1, chain (chain H6.out.2.2 q4) a1, q2.below a1, q1, q3, q5, bx⟩
          clear q1 q2 q3 q4 q5 a1 bx
          go_wp2_with fail
          refine (sumR_any _ _ _ g7 0 _ _ _ H7.out.1.all HLM.out.1 (fun _ => rfl) HLM.out.2).mono ?_
          rintro e w8 ⟨yg, yo, yn, yc, yeo, yen, yec, y, k', u0, rfl, q1, q2, q3, q5, q4⟩
          obtain ⟨hk, hk', hxy⟩ := sums_same K HW.out.2.1 HW.out.2.2.1 H4.out.2.2.2.2.2.1 H7.out.2.2.2.2.1 q3 H7.out.2.2.2.2.2.1 q5
          subst hk hk'
          have a1 : Below w8.heap.size w8 (w8.alloc (.cells #[.bool yg, .slice yo yn yc, .slice yeo yen yec] 28)) := (Below.refl _ _).alloc (Nat.le_refl _) _
          have bx := (H7.out.2.2.2.2.2.2.below q4).below a1
          have by' := RBox.new w8 yg yo yn yc yeo yen yec
          have c0 := bx.c0
          have c1 := bx.c1
          have c2 := bx.c2
          have d0 := by'.c0
          have d1 := by'.c1
          have d2 := by'.c2
          have H8 : Hid (RatAt (w8.alloc (.cells #[.bool yg, .slice yo yn yc, .slice yeo yen yec] 28)) xo xn xc xeo xen xec x ∧ RatAt (w8.alloc (.cells #[.bool yg, .slice yo yn yc, .slice yeo yen yec] 28)) yo yn yc yeo yen yec y ∧ x.neg = xg ∧ y.neg = yg ∧ x = y ∧ Below w.heap.size w (w8.alloc (.cells #[.bool yg, .slice yo yn yc, .slice yeo yen yec] 28))) := ⟨(H7.out.2.2.1.below q4).below a1, q2.below a1, H7.out.2.2.2.1, q1, hxy, chain (chain H7.out.2.1 q4) a1⟩
          clear q1 q2 q3 q4 q5 a1 bx by' hxy
          go_wp2_with fail
          refine (rsame_r _ _ _ _ _ _ _ _ _ _ _ _ _ _ x y _ H8.out.1 H8.out.2.1 H8.out.2.2.1 H8.out.2.2.2.1 true (yes_iff H8.out.2.2.2.2.1)).mono ?_
          rintro e w9 ⟨rfl, q⟩
          have HF : Hid (Below w.heap.size w w9) := chain H8.out.2.2.2.2.2 q
          clear q
          go_wp2
          go_ret
          exact ⟨rfl, HF.out⟩
end Go.Proofs.Ytnkjfandknndkaa
