/-
  digit.Print.
-/
import Derived.Test.YtghnmfkgpkikfaaGreatDoorCollect
import Derived.Test.YtghnmfkgpkikfaaGreatDoorFmt
import Derived.Lib.OwnBridge
namespace Go.Proofs.YtghnmfkgpkikfaaGreatDoor
open Go.RowKit Go.Shelf

attribute [local go_sem] Oper.semAt_some

/-- append, under a name that the walk does not open. -/
def app_ (ats : Array TypeId) (ty : TypeId) (args : Array Value) : Sem Value := Builtin.append_ ats ty args
theorem app_eq (ats : Array TypeId) (ty : TypeId) (args : Array Value) : Builtin.append_ ats ty args = app_ ats ty args := rfl

theorem Tryz.info9 : (Tryz.prog.info? 9).map (fun i => (i.zero, i.size, i.bytes)) = some (some (.string ⟨#[]⟩), 1, 16) := by kernel_rfl

theorem KeepsOthers.of_below {W W' : World} (h : Below W.heap.size W W') : KeepsOthers W W' := ⟨h.size, fun k _ hk _ => (h.block k (Array.getElem?_eq_some_iff.1 hk).1).trans hk⟩

/-- A string is appended onto the variable's slice, and stored. -/
theorem collect_step {W w1 : World} {n₀ Bx k : Nat} {v : Value} {xs : List Value} (hv : Boxed W Bx 53 v) (hrow : W.ownsRow n₀ 9 1 v k xs) (hn : n₀ ≤ Bx) (hk : k < 1000) (b1 : Below W.heap.size W w1) (s : ByteArray) :
    ∃ g' cap' w2, (∀ ty, (app_ #[53, 53] ty #[v, .slice (some ⟨w1.heap.size, 0, none⟩) 1 1]).run Tryz.prog (w1.alloc (.cells #[.string s] 9)) = .ok (.slice (some ⟨g', 0, none⟩) (k + 1) cap') w2) ∧
      w1.cell? ⟨Bx, 0, none⟩ = some v ∧ (w1.alloc (.cells #[.string s] 9)).cell? ⟨Bx, 0, none⟩ = some v ∧ w2.cell? ⟨Bx, 0, none⟩ = some v ∧ w2.frozen? ⟨Bx, 0, none⟩ = false ∧
      KeepsOthers W (w2.setCell ⟨Bx, 0, none⟩ (.slice (some ⟨g', 0, none⟩) (k + 1) cap')) ∧ KeepsRows Bx W (w2.setCell ⟨Bx, 0, none⟩ (.slice (some ⟨g', 0, none⟩) (k + 1) cap')) ∧
      Boxed (w2.setCell ⟨Bx, 0, none⟩ (.slice (some ⟨g', 0, none⟩) (k + 1) cap')) Bx 53 (.slice (some ⟨g', 0, none⟩) (k + 1) cap') ∧
      (w2.setCell ⟨Bx, 0, none⟩ (.slice (some ⟨g', 0, none⟩) (k + 1) cap')).ownsRow n₀ 9 1 (.slice (some ⟨g', 0, none⟩) (k + 1) cap') (k + 1) (xs ++ [.string s]) ∧
      Below n₀ W (w2.setCell ⟨Bx, 0, none⟩ (.slice (some ⟨g', 0, none⟩) (k + 1) cap')) := by
  obtain ⟨i0, hi, hz0, hz1, hz2⟩ := info_parts Tryz.info9
  have hBx := hv.lt
  have hg1 : W.grownBy w1 none := ⟨b1.os, b1.tape, b1.output, b1.size, fun k hk _ => b1.block k hk⟩
  have hv1 : Boxed w1 Bx 53 v := hv.kept hg1 (by simp)
  have hrow1 : w1.ownsRow n₀ 9 1 v k xs := hrow.kept hg1 (by
    rcases hrow.2 with ⟨rfl, _⟩ | ⟨g, cap, cur, rfl, _⟩
    · exact .inl rfl
    · exact .inr (by simp [Value.ownBlock]))
  have hsz := b1.size
  have hrun : ∀ ty, ∃ v' w', (Builtin.append_ #[53, 53] ty #[v, .slice (some ⟨w1.heap.size, 0, none⟩) 1 1]).run Tryz.prog (w1.alloc (.cells #[.string s] 9)) = .ok v' w' ∧ w'.ownsRow n₀ 9 1 v' (k + 1) (xs ++ [.string s]) ∧ (w1.alloc (.cells #[.string s] 9)).grownBy w' v.ownBlock ∧
      (∀ k, v'.ownBlock = some k → v.ownBlock = some k ∨ k = (w1.alloc (.cells #[.string s] 9)).heap.size) := fun ty =>
    run_append_kin (P := Tryz.prog) _ n₀ 53 ty 9 i0 (.string ⟨#[]⟩) 1 16 Tryz.underlying53 hi hz0 hz1 hz2 rfl (by decide) v k xs (hrow1.alloc _) ⟨w1.heap.size, 0, none⟩ 1 1 [.string s] rfl (cell_one_new _ _ _) (by simp [Value.oneCell']) (by unfold maxLen; omega) (by omega) (by simp; omega) (by omega)
  have hty : ∀ ty, (Builtin.append_ #[53, 53] ty #[v, .slice (some ⟨w1.heap.size, 0, none⟩) 1 1]) = (Builtin.append_ #[53, 53] 53 #[v, .slice (some ⟨w1.heap.size, 0, none⟩) 1 1]) := fun _ => rfl
  obtain ⟨v', w2, hr, hown', hgrow, hkin⟩ := hrun 53
  obtain ⟨g', cap', rfl⟩ := ownsRow_succ hown'
  obtain ⟨a1, a2, a3, a4, a5⟩ := hv1.appended (by decide) hrow1 (by omega) hn hown' hgrow
  refine ⟨g', cap', w2, fun ty => by rw [← app_eq, hty]; exact hr, hv1.cell, (hv1.alloc _).cell, a1.cell, a1.frozen, (KeepsOthers.of_below b1).trans a4, (KeepsRows.of_below hBx b1).trans (KeepsRows.appended hv1 a2 hown' hgrow hkin), a2, a3, (b1.mono (by omega)).trans a5⟩

attribute [local go_sem ↓] app_eq

/-- The text of a part. -/
def pt (x : Digit 10000000000000000000) : List UInt8 := dtext (digs 19 x.1.toNat)

set_option maxRecDepth 100000 in
set_option maxHeartbeats 4000000 in
theorem print_may (ao : Option Addr) (na ca : Nat) (xs : List Int) (w : World) (ha : RowAt w ao na ca xs) (hm : May xs) (ht : Tab w) :
    CallsIn Fence.wide 4 Tryz.prog 13 #[.slice ao na ca] w fun e w' => ∃ s, e = .returned (.string ⟨s.toArray⟩) ∧ Txt s (val xs) ∧ Below w.heap.size w w' := by
  have HA : Hid (RowAt w ao na ca xs ∧ May xs ∧ Tab w) := ⟨ha, hm, ht⟩
  clear ha hm ht
  refine callsIn_of_wp_marks Tryz.func13 rfl trivial ?_ rfl
  simp only [Tryz.ntmps13, List.size_toArray, List.length_cons, List.length_nil, Nat.reduceAdd, Nat.reduceSub, Array.replicate_succ, Array.replicate_zero, List.push_toArray, List.append_toArray, List.nil_append, List.cons_append]
  gi_wp2_with fail
  refine ⟨trivial, ?_⟩
  refine (callsIn_wide.2 (may_val _ _ _ xs _ HA.out.1 true (yes_iff HA.out.2.1))).mono ?_
  rintro e w1 ⟨rfl, rfl⟩
  gi_wp2_with fail
  refine ⟨trivial, ?_⟩
  refine (callsIn_wide.2 (iter_any _ _ _ _ _)).mono ?_
  rintro e w1 ⟨rfl, rfl⟩
  gi_wp2_with fail
  have bO := ((Boxed.new w 53 (.slice none 0 0)).alloc (.cells #[.slice ao na ca] 23)).alloc (.cells #[.int .u64 10000000000000000000] 24)
  have cA := (Boxed.new (w.alloc (.cells #[.slice none 0 0] 53)) 23 (.slice ao na ca)).alloc (.cells #[.int .u64 10000000000000000000] 24)
  have cB := Boxed.new ((w.alloc (.cells #[.slice none 0 0] 53)).alloc (.cells #[.slice ao na ca] 23)) 24 (.int .u64 10000000000000000000)
  have hB0 : Below w.heap.size w (((w.alloc (.cells #[.slice none 0 0] 53)).alloc (.cells #[.slice ao na ca] 23)).alloc (.cells #[.int .u64 10000000000000000000] 24)) := (((Below.refl _ w).alloc (Nat.le_refl _) _).alloc (by simp) _).alloc (by simp; omega) _
  rw [World.size_alloc] at cA cB
  rw [World.size_alloc] at cB
  obtain ⟨W0, hW0⟩ : ∃ W0, (((w.alloc (.cells #[.slice none 0 0] 53)).alloc (.cells #[.slice ao na ca] 23)).alloc (.cells #[.int .u64 10000000000000000000] 24)) = W0 := ⟨_, rfl⟩
  have hsz : W0.heap.size = w.heap.size + 3 := by rw [← hW0]; simp
  rw [hW0] at bO cA cB hB0 ⊢
  clear hW0
  have hk0 : ∀ k, Kin w.heap.size W0 k → k = w.heap.size := by
    rintro k (rfl | ⟨v, hv, hb⟩)
    · rfl
    · rw [bO.cell] at hv
      cases hv
      simp [Value.ownBlock] at hb
  have hS := digits_stops 3 10000000000000000000 (by omega) (by unfold BB; omega) (w.heap.size + 1) (w.heap.size + 1 + 1) w.heap.size ao na ca xs HA.out.2.1 W0 (by omega) (by omega) (fun h => by have := hk0 _ h; omega) cA.cell cB.cell (HA.out.1.below hB0)
    (fun p hp hne h => by
      obtain ⟨b', off', e', hlt, _⟩ := HA.out.1.cells hne
      rw [hp] at e'
      cases e'
      have h9 : b' = w.heap.size := hk0 _ h
      omega) (by omega) (fun k h => by have := hk0 _ h; omega)
  have HS : Hid _ := hS
  have HO : Hid (Boxed W0 w.heap.size 53 (.slice none 0 0) ∧ Below w.heap.size w W0) := ⟨bO, hB0⟩
  have HX : Hid (Boxed W0 (w.heap.size + 1) 23 (.slice ao na ca)) := cA
  clear hS hk0 bO cA cB hB0
  refine wpIn_rangeFunc_ownG rfl (by omega) (gf := 46) (lb := #[.pointer (some ⟨w.heap.size + 1, 0, none⟩), .pointer (some ⟨w.heap.size + 1 + 1, 0, none⟩)]) rfl trivial (enters_of Tryz.func46 (by kernel_rfl) rfl)
    HS.out (fun h k => h.trans k) (keepsRows_b (by omega)) (Below.refl _ _) (fun _ => rfl)
    (fun (pre : List (Digit 10000000000000000000)) W => (∃ v, Boxed W w.heap.size 53 v ∧ W.ownsRow w.heap.size 9 1 v pre.length ((pre.map pt).map encStr) ∧ True) ∧ Below w.heap.size w W)
    (fun _ _ _ => False)
    (OwnFrom.and (Own.from (holdsRow_own (β := List (Digit 10000000000000000000)) w.heap.size w.heap.size 53 9 1 (fun pre => pre.length) (fun pre => (pre.map pt).map encStr) (fun _ _ => True)) _) (ownFrom_below (Nat.le_refl _) (by omega)))
    (fun _ _ _ _ _ hs _ _ => hs)
    ⟨⟨_, HO.out.1, World.ownsRow_nil _ _ _ _, trivial⟩, HO.out.2⟩
    (fun x => { tmps := #[.slice ao na ca, undef, .string ⟨#[]⟩, .pointer (some ⟨w.heap.size, 0, none⟩), .int .u64 x.1, undef, .slice ao na ca, .bool true, .bool false, .slice ao na ca, .func (.func 46) #[] #[.pointer (some ⟨w.heap.size + 1, 0, none⟩), .pointer (some ⟨w.heap.size + 1 + 1, 0, none⟩)], .int .u64 x.1, undef, undef, undef, undef, undef, undef, undef, undef, undef, undef, undef, undef, undef], defers := [] }) ?assign ?body ?done ?stop
  case assign =>
    intro l x W K hK
    gi_wp2
    exact hK
  case body =>
    rintro l pre x W ⟨⟨v, hv, hrow, -⟩, hB⟩ hlt
    have hc := hv.cell
    have hmx : Tryz.prog.follows .mixedOrders = true := by kernel_rfl
    have HT : Hid (Tab W.drew) := (HA.out.2.2.below hB).below (Below.refl _ _).drew
    have HV : Hid (Boxed W w.heap.size 53 v ∧ W.ownsRow w.heap.size 9 1 v pre.length ((pre.map pt).map encStr) ∧ Below w.heap.size w W) := ⟨hv, hrow, hB⟩
    clear hv hrow hB HS HO HX
    gi_wp2
    gi_region_with_o (refine ⟨trivial, ?_⟩; refine (CallsIn.inRound l (callsIn_wide.2 (partText_any x.1 x.2.1 x.2.2 _ HT.out))).mono ?_; rintro e w1 ⟨rfl, b1⟩; obtain ⟨g', cap', w2, hrun, hc1, hc2, hc3, hf3, k1, k2, k3, k4, k5⟩ := collect_step HV.out.1 HV.out.2.1 (Nat.le_refl _) (by omega) (((Below.refl _ W).drew).trans b1) (⟨(dtext (digs 19 x.1.toNat)).toArray⟩ : ByteArray); have K1 := Lib.hid k1; have K2 := Lib.hid k2; have K3 := Lib.hid k3; have K4 := Lib.hid k4; have K5 := Lib.hid k5; clear b1 k1 k2 k3 k4 k5)
    all_goals exact ⟨K1.out.from _, K2.out, ⟨_, K3.out, by rw [List.map_append, List.map_append, List.length_append]; exact K4.out, trivial⟩, HV.out.2.2.trans K5.out⟩
  case done =>
    rintro D ys W hD hS ⟨⟨v, hv, hrow, -⟩, hB⟩ hK
    have hc := hv.cell
    have hdig := print_txt (ys.map Subtype.val) (val xs) hS.digs hS.val
    have hmap : ((ys.map Subtype.val).map fun d => dtext (digs 19 d.toNat)) = ys.map pt := by rw [List.map_map]; rfl
    rw [hmap] at hdig
    obtain ⟨t, ht1, ht2, ht3⟩ := hdig
    have hyl : ys.length ≤ 512 := by
      have := few_digits (b := 10000000000000000000) (by omega) HA.out.1.limbs HA.out.2.1 _ hS
      simpa using this
    have hDW : D < W.heap.size := (Array.getElem?_eq_some_iff.1 hK).1
    clear HS HO HX hS hmap
    have HV : Hid (W.ownsRow w.heap.size 9 1 v ys.length ((ys.map pt).map encStr) ∧ Below w.heap.size w W ∧ W.heap[D]? = some (.deferred (some [])) ∧ Boxed W w.heap.size 53 v) := ⟨hrow, hB, hK, hv⟩
    have HT : Hid (Lib.trimLeftB (Lib.join ((ys.map pt).reverse) []) 48 = t ∧ (t = [] → Txt [48] (val xs)) ∧ (t ≠ [] → Txt t (val xs))) := ⟨ht1, ht2, ht3⟩
    clear hrow hB hK hv ht1 ht2 ht3
    by_cases hv0 : v = .slice none 0 0
    · subst hv0
      have hy0 : ys = [] := by
        rcases HV.out.1.2 with ⟨_, h⟩ | ⟨g, cap, cur, e, _⟩
        · exact List.length_eq_zero_iff.1 h
        · cases e
      subst hy0
      have ht0 : t = [] := HT.out.1.symm
      subst ht0
      have HZ : Hid (Txt [48] (val xs)) := HT.out.2.1 rfl
      clear HT
      gi_wp2_with fail
      refine ⟨trivial, ?_⟩
      refine (callsIn_wide.2 (Tryz.slices_Reverse_string_empty none 0 _)).mono ?_
      rintro e w1 ⟨rfl, rfl⟩
      gi_wp2_with fail
      refine ⟨trivial, ?_⟩
      refine (callsIn_wide.2 (Tryz.strings_Join_none none 0 _ _)).mono ?_
      rintro e w1 ⟨rfl, rfl⟩
      gi_wp2_with fail
      refine ⟨trivial, ?_⟩
      refine (callsIn_wide.2 (Tryz.strings_TrimLeft_one _ 48 (by decide) _)).mono ?_
      rintro e w1 ⟨rfl, rfl⟩
      gi_wp2
      refine ⟨by simp, .inl ⟨_, _, rfl, run_takeDeferred HV.out.2.2.1, ?_⟩⟩
      exact ⟨_, results_tmp rfl _ _ _, [48], rfl, HZ.out, HV.out.2.1.trans (belowK_b (w := w) (Nat.le_refl _) _ D _ _ (by omega) HV.out.2.2.1 rfl rfl)⟩
    · obtain ⟨g, cap, rfl, hg0, hg1, hg2, hg3, hg4, hH⟩ := Lib.holds_of_ownsRow HV.out.1 hv0
      have hgB : w.heap.size ≠ g := by
        rintro rfl
        have h1 := HV.out.2.2.2
        rcases HV.out.1.2 with ⟨h, _⟩ | ⟨g', cap', cur, e, _, hgb, _⟩
        · cases h
        · cases e
          have := (show W.heap[w.heap.size]? = _ from h1).symm.trans hgb
          simp at this
      have hgD : D ≠ g := by
        rintro rfl
        rcases HV.out.1.2 with ⟨h, _⟩ | ⟨g', cap', cur, e, _, hgb, _⟩
        · cases h
        · cases e
          have := HV.out.2.2.1.symm.trans hgb
          cases this
      have hC : Calls Tryz.prog 31 #[.slice (some ⟨g, 0, none⟩) ys.length cap] W _ := hg4 ▸ Tryz.slices_Reverse_string g 0 cap (ys.map pt) W hH (by omega)
      have HC : Hid (∀ u : Unit, Calls Tryz.prog 31 #[.slice (some ⟨g, 0, none⟩) ys.length cap] W _) := fun _ => hC
      have hput : ∀ q, Hid ((Sort.putRow encStr (Sort.ahead W q) g 0 (ys.map pt).reverse.toArray).cell? ⟨w.heap.size, 0, none⟩ = some (.slice (some ⟨g, 0, none⟩) ys.length cap) ∧ Below w.heap.size w (Sort.putRow encStr (Sort.ahead W q) g 0 (ys.map pt).reverse.toArray) ∧
          (Sort.putRow encStr (Sort.ahead W q) g 0 (ys.map pt).reverse.toArray).heap[D]? = some (.deferred (some [])) ∧ g < (Sort.putRow encStr (Sort.ahead W q) g 0 (ys.map pt).reverse.toArray).heap.size ∧
          ∀ (j : Nat) x, ((ys.map pt).reverse.map fun l => (⟨l.toArray⟩ : ByteArray))[j]? = some x → (Sort.putRow encStr (Sort.ahead W q) g 0 (ys.map pt).reverse.toArray).cell? ⟨g, 0 + j, none⟩ = some (.string x)) := by
        intro q
        refine ⟨(Sort.cell?_putRow_other _ _ _ _ _ _ (.inl hgB)).trans hc, Lib.below_putRow HV.out.2.1 hg0, ?_, ?_, ?_⟩
        · rw [← HV.out.2.2.1]
          simp [Sort.putRow, Sort.mapBlock, Sort.ahead, Array.getElem?_modify, hgD.symm]
        · simpa [Sort.ahead] using hg1
        · intro j x hx
          have hj : j < (ys.map pt).reverse.length := by
            have := (List.getElem?_eq_some_iff.1 hx).1
            simpa using this
          have hx2 : x = ⟨((ys.map pt).reverse[j]).toArray⟩ := by
            rw [List.getElem?_map, List.getElem?_eq_getElem hj] at hx
            simpa using hx.symm
          rw [hx2, Sort.cell?_putRow encStr (Sort.ahead W q) g 0 (ys.map pt).toArray (ys.map pt).reverse.toArray (fun k hk => hH k hk) (by simp) j (by simpa using hj)]
          rw [getElem!_pos _ j (by simpa using hj), List.getElem_toArray]
      have hjl : (Lib.join ((ys.map pt).reverse) []).length ≤ 19 * 512 := by
        have hj : ∀ zs : List (List UInt8), Lib.join zs [] = zs.flatten := by
          intro zs
          cases zs with
          | nil => rfl
          | cons x r => rw [Lib.join_cons]; simp [Lib.joinTail]
        rw [hj]
        have hl : ∀ zs : List (Digit 10000000000000000000), ((zs.map pt).flatten).length = 19 * zs.length := by
          intro zs
          induction zs with
          | nil => rfl
          | cons z zs ih => rw [List.map_cons, List.flatten_cons, List.length_append, ih, pt, dtext_length, digs_length, List.length_cons]; omega
        rw [← List.map_reverse, hl, List.length_reverse]
        omega
      obtain ⟨j, hjj⟩ : ∃ j, j = Lib.join ((ys.map pt).reverse) [] := ⟨_, rfl⟩
      have HJ : Hid (((ys.map pt).reverse.map fun l => (⟨l.toArray⟩ : ByteArray)).map (·.data.toList) = (ys.map pt).reverse ∧ ((ys.map pt).reverse.map fun l => (⟨l.toArray⟩ : ByteArray)).length = ys.length) := ⟨by rw [List.map_map]; exact List.map_id _, by simp⟩
      have hlen2 : (Lib.join (((ys.map pt).reverse.map fun l => (⟨l.toArray⟩ : ByteArray)).map (·.data.toList)) (⟨#[]⟩ : ByteArray).data.toList).length ≤ 140737488355328 := by
        rw [HJ.out.1]
        have : (⟨#[]⟩ : ByteArray).data.toList = [] := rfl
        rw [this]
        omega
      have HJ2 : Hid ((Lib.join (((ys.map pt).reverse.map fun l => (⟨l.toArray⟩ : ByteArray)).map (·.data.toList)) (⟨#[]⟩ : ByteArray).data.toList).length ≤ 140737488355328 ∧ Lib.join (((ys.map pt).reverse.map fun l => (⟨l.toArray⟩ : ByteArray)).map (·.data.toList)) (⟨#[]⟩ : ByteArray).data.toList = j) := ⟨hlen2, by rw [HJ.out.1, hjj]⟩
      have HT2 : Hid (Lib.trimLeftB j 48 = t ∧ (t = [] → Txt [48] (val xs)) ∧ (t ≠ [] → Txt t (val xs))) := by rw [hjj]; exact HT.out
      have HP : Hid _ := hput
      have HG : Hid (ys.length ≤ cap ∧ ys.length ≤ 512 ∧ w.heap.size ≤ D) := ⟨hg2, hyl, by omega⟩
      clear hC hput hjl hlen2 hjj HT hH hg0 hg1 hg2 hg3 hg4 hv0 hgB hgD hyl hDW hD
      gi_wp2_with fail
      refine ⟨trivial, ?_⟩
      refine (callsIn_wide.2 (HC.out ())).mono ?_
      rintro e w1 ⟨rfl, q, rfl⟩
      obtain ⟨W2, hW2⟩ : ∃ W2, Sort.putRow encStr (Sort.ahead W q) g 0 (ys.map pt).reverse.toArray = W2 := ⟨_, rfl⟩
      have hp := (HP.out q).out
      rw [hW2] at hp ⊢
      have hc2 := hp.1
      have HP2 : Hid _ := hp
      clear hp HP hW2 hc HC
      gi_wp2_with fail
      refine ⟨trivial, ?_⟩
      have hJC : Calls Tryz.prog 33 #[.slice (some ⟨g, 0, none⟩) ys.length cap, .string ⟨#[]⟩] W2 fun e w' => e = .returned (.string ⟨j.toArray⟩) ∧ Below W2.heap.size W2 w' := by
        have h := Tryz.strings_Join g 0 cap ((ys.map pt).reverse.map fun l => (⟨l.toArray⟩ : ByteArray)) ⟨#[]⟩ W2 HP2.out.2.2.2.2 HP2.out.2.2.2.1 (by have := HG.out; rw [HJ.out.2]; omega) (by rw [HJ.out.2]; exact HG.out.1) HJ2.out.1
        rw [HJ.out.2, HJ2.out.2] at h
        exact h
      refine (callsIn_wide.2 hJC).mono ?_
      clear hJC
      rintro e w3 ⟨rfl, b3⟩
      have HB3 : Hid (Below w.heap.size w w3 ∧ w3.heap[D]? = some (.deferred (some []))) := ⟨chain HP2.out.2.1 b3, (b3.block D (Array.getElem?_eq_some_iff.1 HP2.out.2.2.1).1).trans HP2.out.2.2.1⟩
      clear b3 HP2 hc2 HJ HJ2
      gi_wp2_with fail
      refine ⟨trivial, ?_⟩
      have hTC : Calls Tryz.prog 32 #[.string ⟨j.toArray⟩, .string ⟨#[48]⟩] w3 fun e w' => e = .returned (.string ⟨t.toArray⟩) ∧ w' = w3 := by
        have h := Tryz.strings_TrimLeft_one ⟨j.toArray⟩ 48 (by decide) w3
        rw [show (⟨j.toArray⟩ : ByteArray).data.toList = j from rfl, HT2.out.1] at h
        exact h
      refine (callsIn_wide.2 hTC).mono ?_
      clear hTC
      rintro e w4 ⟨rfl, rfl⟩
      obtain ⟨T, hT⟩ : ∃ T : ByteArray, T = ⟨t.toArray⟩ := ⟨_, rfl⟩
      rw [← hT]
      by_cases ht0 : t = []
      · have HZ : Hid (Txt [48] (val xs)) := HT2.out.2.1 ht0
        have hT0 : T = ⟨#[]⟩ := by rw [hT, ht0]
        clear hT HT2 ht0
        subst hT0
        gi_wp2
        refine ⟨by simp, .inl ⟨_, _, rfl, run_takeDeferred HB3.out.2, ?_⟩⟩
        exact ⟨_, results_tmp rfl _ _ _, [48], rfl, HZ.out, HB3.out.1.trans (belowK_b (w := w) (Nat.le_refl _) _ D _ _ HG.out.2.2 HB3.out.2 rfl rfl)⟩
      · have HZ : Hid (Txt t (val xs)) := HT2.out.2.2 ht0
        have hT0 : T.toList.isEmpty = false := by
          rw [hT, Lib.toList_data]
          simpa using ht0
        have HTT : Hid (T = ⟨t.toArray⟩) := hT
        clear hT HT2 ht0
        gi_wp2
        refine ⟨by simp, .inl ⟨_, _, rfl, run_takeDeferred HB3.out.2, ?_⟩⟩
        exact ⟨_, results_tmp rfl _ _ _, t, by rw [← HTT.out]; rfl, HZ.out, HB3.out.1.trans (belowK_b (w := w) (Nat.le_refl _) _ D _ _ HG.out.2.2 HB3.out.2 rfl rfl)⟩
  case stop =>
    rintro D c pre W _ _ h _
    exact h.elim

end Go.Proofs.YtghnmfkgpkikfaaGreatDoor
