/-
  Joined: PolyZ · PolyAA · PolyBB · PolyRR · MakesW · PolyEE.
-/
import Derived.Test.YtbdldijgcmgfaaaGreatJU1
import Derived.Lib.AppendZeros
import Derived.Laws.AppendOwnNone
import Derived.Test.YtbdldijgcmgfaaaGreatJQ1
import Derived.Test.YtbdldijgcmgfaaaGreatJR1
import Derived.Deep.RegionHeld3

/-! Grow of nothing. -/
namespace Go.Proofs.YtbdldijgcmgfaaaGreat
open Go.RowKit

theorem zeros_clean (n m : Nat) : ∀ u ∈ (Builtin.zeroCells (Value.agg #[.bool false, .slice none 0 0, .slice none 0 0, .int .i64 0, .int .i64 0, .int .i64 0, .int .i64 0]).cells n ++ Builtin.zeroCells (Value.agg #[.bool false, .slice none 0 0, .slice none 0 0, .int .i64 0, .int .i64 0, .int .i64 0, .int .i64 0]).cells m).toList, Clean u := by
  intro u hu
  simp only [Array.toList_append, List.mem_append] at hu
  rcases hu with hu | hu
  · exact zero_clean zero39 _ u hu
  · exact zero_clean zero39 _ u hu

theorem terms_room (w : World) (n cap : Nat) (hn : n ≤ cap) (hc : cap ≤ maxLen) : TermsOwn (w.drew.alloc (.cells (Builtin.zeroCells (Value.agg #[.bool false, .slice none 0 0, .slice none 0 0, .int .i64 0, .int .i64 0, .int .i64 0, .int .i64 0]).cells n ++ Builtin.zeroCells (Value.agg #[.bool false, .slice none 0 0, .slice none 0 0, .int .i64 0, .int .i64 0, .int .i64 0, .int .i64 0]).cells (cap - n)) 39)) w.heap.size (.slice (some ⟨w.heap.size, 0, none⟩) 0 cap) [] [] := by
  refine ⟨⟨⟨rfl, .inr ⟨w.heap.size, cap, _, rfl, Nat.le_refl _, heap_alloc_new w.drew _, Nat.zero_le _, hc, ?_, by simp [tcells]⟩⟩, fun g hg => ?_⟩, rfl, fun i p t h => by simp at h⟩
  · have e : (Value.agg #[.bool false, .slice none 0 0, .slice none 0 0, .int .i64 0, .int .i64 0, .int .i64 0, .int .i64 0]).cells.size = 7 := rfl
    rw [Array.size_append, size_zeroCells, size_zeroCells, e, ← Nat.add_mul]
    congr 1
    omega
  · cases hg
    exact ⟨_, (0, 0), heap_alloc_new w.drew _, zeros_clean _ _⟩

set_option maxRecDepth 100000 in
set_option maxHeartbeats 2000000 in
theorem grow_b (n : Nat) (w : World) (hn : n ≤ 1000000) :
    Calls Tryz.prog 90 #[.slice none 0 0, .int .i64 (n : Int)] w fun e w' => ∃ v, e = .returned v ∧ TermsOwn w' w.heap.size v [] [] ∧ Below w.heap.size w w' := by
  obtain ⟨i0, hi0, hz0, hz1, hz2⟩ := info_parts info39
  have hN : (n : Int) ≤ 1000000 := by omega
  have hN0 : (0 : Int) ≤ (n : Int) := by omega
  by_cases h0 : n = 0
  · subst h0
    go_enter Tryz.func90, Tryz.ntmps90
    go_wp2_with fail
    go_ret
    exact ⟨_, rfl, TermsOwn.nil _ _, Below.refl _ _⟩
  · have hpos : 0 < n := by omega
    have hposz : (0 : Int) < (n : Int) := by omega
    have happ := Lib.run_append_nil_zeros (P := Tryz.prog) w 23 3 23 39 i0 _ .i64 .i64 Tryz.underlying23 Tryz.underlying3 hi0 hz0 n hpos (by omega) (by omega) (by rw [hz2]; omega)
    have hge : n ≤ grownCap w n 0 39 := grownCap_ge w n 0 39
    have hle : grownCap w n 0 39 ≤ maxLen := grownCap_le_maxLen w n 0 39 (by unfold maxLen; omega)
    have hB : Below w.heap.size w w.drew := (Below.refl _ _).drew
    have HT : Hid (TermsOwn (w.drew.alloc (.cells (Builtin.zeroCells (Value.agg #[.bool false, .slice none 0 0, .slice none 0 0, .int .i64 0, .int .i64 0, .int .i64 0, .int .i64 0]).cells n ++ Builtin.zeroCells (Value.agg #[.bool false, .slice none 0 0, .slice none 0 0, .int .i64 0, .int .i64 0, .int .i64 0, .int .i64 0]).cells (grownCap w n 0 39 - n)) 39)) w.heap.size (.slice (some ⟨w.heap.size, 0, none⟩) 0 (grownCap w n 0 39)) [] [] ∧ Below w.heap.size w (w.drew.alloc (.cells (Builtin.zeroCells (Value.agg #[.bool false, .slice none 0 0, .slice none 0 0, .int .i64 0, .int .i64 0, .int .i64 0, .int .i64 0]).cells n ++ Builtin.zeroCells (Value.agg #[.bool false, .slice none 0 0, .slice none 0 0, .int .i64 0, .int .i64 0, .int .i64 0, .int .i64 0]).cells (grownCap w n 0 39 - n)) 39))) :=
      ⟨terms_room w n _ hge hle, hB.alloc (Nat.le_refl _) _⟩
    have hcm : (0 : Int) ≤ (grownCap w n 0 39 : Int) := by omega
    have hnc : (n : Int) ≤ (grownCap w n 0 39 : Int) := by omega
    generalize hZ : (Builtin.zeroCells (Value.agg #[.bool false, .slice none 0 0, .slice none 0 0, .int .i64 0, .int .i64 0, .int .i64 0, .int .i64 0]).cells n ++ Builtin.zeroCells (Value.agg #[.bool false, .slice none 0 0, .slice none 0 0, .int .i64 0, .int .i64 0, .int .i64 0, .int .i64 0]).cells (grownCap w n 0 39 - n)) = Z at happ HT
    generalize grownCap w n 0 39 = cap2 at happ HT hcm hnc
    clear hZ hB hge hle
    go_enter Tryz.func90, Tryz.ntmps90
    go_wp2_with (at_builtin; refine Lib.wpList_append_run _ rfl _ _ _ _ rfl _ _ rfl rfl _ _ happ ?_)
    go_ret
    exact ⟨_, rfl, HT.out.1, HT.out.2⟩
end Go.Proofs.YtbdldijgcmgfaaaGreat

/-! Concat, and the program's sum and Add. -/
namespace Go.Proofs.YtbdldijgcmgfaaaGreat
open Go.RowKit

theorem TermsAt.news {W : World} {b off : Nat} {ps : List TP} {ls : List TL} (h : TermsAt W b off ps ls) (j : Nat) (u : Value) (hu : (tcells ps)[j]? = some u) : W.cell? ⟨b, off + j, none⟩ = some u := by
  have hj : j < ps.length * 7 := by
    have := (List.getElem?_eq_some_iff.1 hu).1
    rwa [tcells_length] at this
  have hi : j / 7 < ps.length := by omega
  have hm : j % 7 < (ps[j / 7]).cs.length := by show j % 7 < 7; omega
  have h1 := tcells_at ps (j / 7) (j % 7) ps[j / 7] _ (List.getElem?_eq_getElem hi) (List.getElem?_eq_getElem hm)
  rw [show j / 7 * 7 + j % 7 = j by omega, hu] at h1
  have h2 := h.cells (j / 7) ps[j / 7] (List.getElem?_eq_getElem hi) (j % 7) _ (List.getElem?_eq_getElem hm)
  rw [show off + j / 7 * 7 + j % 7 = off + j by omega] at h2
  rw [h2, h1]

theorem PolyAt.news {W : World} {ad : Addr} {n cap : Nat} {ps : List TP} {ls : List TL} (h : PolyAt W (some ad) n cap ps ls) (j : Nat) (u : Value) (hu : (tcells ps)[j]? = some u) : W.cell? (ad.add j) = some u := by
  obtain ⟨b, off, h1, h2⟩ := h.at'
  have hj : j < ps.length * 7 := by
    have := (List.getElem?_eq_some_iff.1 hu).1
    rwa [tcells_length] at this
  have hn : 0 < n := by rw [← h.num]; omega
  have := h1 hn
  injection this with this
  rw [this, Addr.add_mid]
  exact h2.news j u hu

theorem flat_step {lss : List (List TL)} {j : Nat} {ls : List TL} (h : lss[j]? = some ls) : (lss.take (j + 1)).flatten = (lss.take j).flatten ++ ls := by
  rw [List.take_add_one, h]
  simp
theorem flat_le (lss : List (List TL)) (j : Nat) : (lss.take j).flatten.length ≤ lss.flatten.length := by
  have e : lss.flatten = (lss.take j).flatten ++ (lss.drop j).flatten := by rw [← List.flatten_append, List.take_append_drop]
  rw [e, List.length_append]
  omega

set_option maxRecDepth 100000 in
set_option maxHeartbeats 4000000 in
theorem concat_b (lo : Option Addr) (m cap : Nat) (lss : List (List TL)) (w : World) (h : ListAt w lo m lss) (hs : lss.flatten.length ≤ 1000000) :
    Calls Tryz.prog 72 #[.slice lo m cap] w fun e w' => ∃ lo' n' cap' ps, e = .returned (.slice lo' n' cap') ∧ PolyAt w' lo' n' cap' ps lss.flatten ∧ n' ≤ 1000000 ∧ Below w.heap.size w w' := by
  obtain ⟨i0, hi0, hz0, hz1, hz2⟩ := info_parts info39
  have hN := h.most
  have H : Hid (ListAt w lo m lss ∧ lss.flatten.length ≤ 1000000) := ⟨h, hs⟩
  clear h hs
  go_enter Tryz.func72, Tryz.ntmps72
  go_wp2_with fail
  go_loopg [3, 11] m (fun g vs i wr => ∃ j s : Nat, j ≤ m ∧ m - j ≤ g ∧ i = .int .i64 j ∧ vs = .int .i64 s ∧ Hid (s = (lss.take j).flatten.length ∧ Below w.heap.size w wr))
  case atStart => exact ⟨0, 0, Nat.zero_le _, by omega, rfl, rfl, by simp, Below.refl _ _⟩
  case round =>
    obtain ⟨j, s, hj, hjr, rfl, rfl, hO⟩ := hrel
    have hs6 : s ≤ 1000000 := by rw [hO.out.1]; exact Nat.le_trans (flat_le _ _) H.out.2
    by_cases h0 : j < m
    · obtain ⟨bk, off, po, pn, pc, ps, ls, rfl, hcell, hls, hpo, hblt⟩ := (H.out.1.below hO.out.2).elem j h0
      have hjn : (j : Int) < (m : Int) := by omega
      have hj0 : (0 : Int) ≤ (j : Int) := by omega
      have hst : s + pn = (lss.take (j + 1)).flatten.length := by rw [flat_step hls, List.length_append, ← hO.out.1, hpo.len]
      have hs7 : s + pn ≤ 1000000 := by rw [hst]; exact Nat.le_trans (flat_le _ _) H.out.2
      have hw : IntKind.i64.wrap ((s : Int) + (pn : Int)) = ((s + pn : Nat) : Int) := by rw [IntKind.wrap_i64]; omega
      have hp0 : (0 : Int) ≤ ((s + pn : Nat) : Int) := by omega
      have HP : Hid (s + pn = (lss.take (j + 1)).flatten.length ∧ j < m ∧ m - j ≤ _) := ⟨hst, h0, hjr⟩
      clear hls hpo hblt hj hjr h0 hst
      go_wp2_with fail
      go_roundg (m - (j + 1))
      case measure => have := HP.out.2.1; have := HP.out.2.2; omega
      case rel => exact ⟨j + 1, s + pn, by have := HP.out.2.1; omega, Nat.le_refl _, by go_num, rfl, HP.out.1, hO.out.2⟩
    · have hjm : j = m := by omega
      subst hjm
      clear hj hjr h0
      have HB : Hid (Below w.heap.size w _) := hO.out.2
      go_wp2_with fail
      refine (grow_b s _ hs6).mono ?_
      rintro e w1 ⟨v, rfl, q1, q2⟩
      obtain ⟨B0, hB0⟩ : ∃ B0, B0 = wr.heap.size := ⟨_, rfl⟩
      have H1 : Hid (TermsOwn w1 B0 v [] [] ∧ Below w.heap.size w w1 ∧ w.heap.size ≤ B0 ∧ B0 ≤ w1.heap.size) := ⟨by rw [hB0]; exact q1, chain HB.out q2, by rw [hB0]; exact HB.out.size, by rw [hB0]; exact q2.size⟩
      clear q1 q2 hB0
      go_wp2_with fail
      go_loopg [6, 27] j (fun g vv i wx => ∃ (q : Nat) (ps : List TP), q ≤ j ∧ j - q ≤ g ∧ i = .int .i64 q ∧ Hid (TermsOwn wx B0 vv ps (lss.take q).flatten ∧ Below w.heap.size w wx ∧ B0 ≤ wx.heap.size))
      case atStart => exact ⟨0, [], Nat.zero_le _, by omega, rfl, by simpa using H1.out.1, H1.out.2.1, H1.out.2.2.2⟩
      case round =>
        obtain ⟨q, ps, hq, hqr, rfl, hT⟩ := hrel
        by_cases h0 : q < j
        · obtain ⟨bk, off, po, pn, pc, qs, ls, rfl, hcell, hls, hpo, hblt⟩ := (H.out.1.below hT.out.2.1).elem q h0
          have hqj : (q : Int) < (j : Int) := by omega
          have hq0 : (0 : Int) ≤ (q : Int) := by omega
          have hfl := flat_step hls
          have hlen : ps.length + qs.length ≤ 1000000 := by
            have h1 := flat_le lss (q + 1)
            rw [hfl, List.length_append, ← hT.out.1.len, hpo.len, ← hpo.num] at h1
            exact Nat.le_trans h1 H.out.2
          have HP : Hid (PolyAt _ po pn pc qs ls ∧ (lss.take (q + 1)).flatten = (lss.take q).flatten ++ ls ∧ q < j ∧ j - q ≤ _ ∧ ps.length + qs.length ≤ 1000000) := ⟨hpo, hfl, h0, hqr, hlen⟩
          have hnum := hpo.num
          have hnc : pn ≤ pc := hpo.fits
          have hbare := hpo.bare
          clear hls hpo hblt hq hqr h0 hfl hlen
          cases po with
          | none =>
            have hc0 := hbare rfl
            subst hc0
            have hn0 : pn = 0 := by omega
            subst hn0
            have HQ : Hid (TermsOwn wr B0 u6 ps (lss.take (q + 1)).flatten) := by
              have hqs : qs = [] := List.length_eq_zero_iff.1 hnum
              have hl0 : ls = [] := List.length_eq_zero_iff.1 HP.out.1.len
              show TermsOwn wr B0 u6 ps (lss.take (q + 1)).flatten
              rw [HP.out.2.1, hl0, List.append_nil]
              exact hT.out.1
            clear hbare hnc hnum
            go_wp2_with (at_builtin; refine wpList_append_own_none rfl _ _ _ rfl B0 39 i0 7 Tryz.underlying23 hi0 _ _ _ rfl hT.out.1.own.row rfl ?_)
            go_roundg (j - (q + 1))
            case measure => have := HP.out.2.2.1; have := HP.out.2.2.2.1; omega
            case rel => exact ⟨q + 1, ps, by have := HP.out.2.2.1; omega, Nat.le_refl _, by go_num, HQ.out, hT.out.2.1, hT.out.2.2⟩
          | some ad =>
            clear hbare hnc
            have hl7 : (tcells qs).length = pn * 7 := by rw [tcells_length, hnum]
            go_wp2_with (at_builtin; refine wpList_append_owns _ rfl _ _ _ rfl B0 39 i0 _ 7 88 Tryz.underlying23 hi0 hz0 hz1 hz2 rfl (by omega) zero39 _ ps.length (tcells ps) rfl hT.out.1.own ad pn pc (tcells qs) rfl hl7 (HP.out.1.news) (tcells_onecell _) (tcells_clean _) (by have := HP.out.2.2.2.2; unfold maxLen; omega) (by have := HP.out.2.2.2.2; omega) hT.out.2.2 ?_)
            intro v2 w2 ho hg _
            have HQ : Hid (TermsOwn w2 B0 v2 (ps ++ qs) (lss.take (q + 1)).flatten ∧ Below w.heap.size w w2 ∧ B0 ≤ w2.heap.size) := by
              refine ⟨?_, hT.out.2.1.grown hg hT.out.2.1.size (fun k hk => Nat.le_trans H1.out.2.2.1 (hT.out.1.own.row.lt k hk).1), Nat.le_trans hT.out.2.2 hg.size⟩
              rw [HP.out.2.1]
              obtain ⟨b, off, _, h2⟩ := HP.out.1.at'
              exact hT.out.1.put h2.len h2.each (by rw [hnum]; exact ho) hg
            clear ho hg hl7 hnum
            go_wp2_with fail
            go_roundg (j - (q + 1))
            case measure => have := HP.out.2.2.1; have := HP.out.2.2.2.1; omega
            case rel => exact ⟨q + 1, _, by have := HP.out.2.2.1; omega, Nat.le_refl _, by go_num, HQ.out⟩
        · have hqj : q = j := by omega
          subst hqj
          clear hq hqr h0
          obtain ⟨lo2, cap2, rfl, hpa, _⟩ := hT.out.1.poly
          have hfl : (lss.take q).flatten = lss.flatten := by rw [List.take_of_length_le (by rw [H.out.1.len]; exact Nat.le_refl _)]
          rw [hfl] at hpa
          have hle : ps.length ≤ 1000000 := by rw [hpa.num.symm, ← hpa.num] ; exact (by have := hpa.len; have := H.out.2; omega)
          have HQ : Hid (PolyAt _ lo2 ps.length cap2 ps lss.flatten ∧ ps.length ≤ 1000000 ∧ Below w.heap.size w _) := ⟨hpa, hle, hT.out.2.1⟩
          clear hpa hle hfl
          go_wp2_with fail
          go_ret
          exact ⟨_, _, _, ps, rfl, HQ.out.1, HQ.out.2.1, HQ.out.2.2⟩
end Go.Proofs.YtbdldijgcmgfaaaGreat

/-! The program's sum and Add. -/
namespace Go.Proofs.YtbdldijgcmgfaaaGreat
open Go.RowKit

set_option maxRecDepth 100000 in
set_option maxHeartbeats 2000000 in
theorem sum_b (o : Int) (lo : Option Addr) (m cap : Nat) (lss : List (List TL)) (w : World) (ho : Ord o) (h : ListAt w lo m lss) (hs : lss.flatten.length ≤ 1000000) (hm : ∀ p ∈ lss, MayP o p) :
    Calls Tryz.prog 48 #[.int .i64 o, .slice lo m cap] w fun e w' => ∃ lo' n' cap' qs ms k, e = .returned (.tuple #[.slice lo' n' cap', .int .i64 k]) ∧ PolyAt w' lo' n' cap' qs ms ∧ TogIs o lss.flatten ms k ∧ Below w.heap.size w w' := by
  have HM : Hid (∀ s ∈ lss.flatten, MayT s) := fun s hs => by
    obtain ⟨p, hp, hsp⟩ := List.mem_flatten.1 hs
    exact (hm p hp).may s hsp
  have hc := concat_b lo m cap lss w h hs
  have HO : Hid (Ord o) := ho
  clear h hs hm ho
  go_enter Tryz.func48, Tryz.ntmps48
  go_wp2_with fail
  refine hc.mono ?_
  rintro e w1 ⟨lo1, n1, cap1, ps, rfl, h1, h2, h3⟩
  have H1 : Hid (PolyAt w1 lo1 n1 cap1 ps lss.flatten ∧ n1 ≤ 1000000 ∧ Below w.heap.size w w1) := ⟨h1, h2, h3⟩
  clear h1 h2 h3 hc
  go_wp2_with fail
  refine (together_b o _ _ _ _ _ _ HO.out H1.out.1 HM.out H1.out.2.1).mono ?_
  rintro e w3 ⟨lo3, n3, cap3, qs, ms, k, rfl, q1, q2, q3⟩
  have H3 : Hid (PolyAt w3 lo3 n3 cap3 qs ms ∧ TogIs o lss.flatten ms k ∧ Below w.heap.size w w3) := ⟨q1, q2, chain H1.out.2.2 q3⟩
  clear q1 q2 q3
  go_wp2_with fail
  go_ret2
  exact ⟨lo3, n3, cap3, qs, ms, k, rfl, H3.out.1, H3.out.2.1, H3.out.2.2⟩

set_option maxRecDepth 100000 in
set_option maxHeartbeats 2000000 in
theorem add_b (o : Int) (lo : Option Addr) (m cap : Nat) (lss : List (List TL)) (w : World) (h : ListAt w lo m lss) (hs : lss.flatten.length ≤ 1000000) :
    Calls Tryz.prog 18 #[.int .i64 o, .slice lo m cap] w fun e w' => ∃ lo' n' cap' qs ms k, e = .returned (.tuple #[.slice lo' n' cap', .int .i64 k]) ∧ PolyAt w' lo' n' cap' qs ms ∧ AddP o lss ms k ∧ Below w.heap.size w w' := by
  have b1 := bel1 w (.cells #[.int .i64 o] 3)
  have hc : (w.alloc (.cells #[.int .i64 o] 3)).cell? ⟨w.heap.size, 0, none⟩ = some (.int .i64 o) := by unfold World.cell?; rw [heap_alloc_new w (.cells #[.int .i64 o] 3)]; rfl
  have H : Hid (ListAt (w.alloc (.cells #[.int .i64 o] 3)) lo m lss ∧ lss.flatten.length ≤ 1000000 ∧ Below w.heap.size w (w.alloc (.cells #[.int .i64 o] 3)) ∧ (w.alloc (.cells #[.int .i64 o] 3)).cell? ⟨w.heap.size, 0, none⟩ = some (.int .i64 o) ∧ w.heap.size < (w.alloc (.cells #[.int .i64 o] 3)).heap.size) := ⟨h.below b1, hs, b1, hc, by rw [World.size_alloc]; omega⟩
  clear h hs b1 hc
  go_enter Tryz.func18, Tryz.ntmps18
  go_wp2_with fail
  by_cases ho : Ord o
  · have HO : Hid (Ord o) := ho
    refine (isOrder_b o true _ (yes_iff ho)).mono ?_
    rintro e w1 ⟨rfl, b1⟩
    have hc1 := (b1.cell (p := ⟨w.heap.size, 0, none⟩) H.out.2.2.2.2).trans H.out.2.2.2.1
    have H1 : Hid (ListAt w1 lo m lss ∧ Below w.heap.size w w1 ∧ w1.cell? ⟨w.heap.size, 0, none⟩ = some (.int .i64 o) ∧ w.heap.size < w1.heap.size) := ⟨H.out.1.below b1, chain H.out.2.2.1 b1, hc1, Nat.lt_of_lt_of_le H.out.2.2.2.2 b1.size⟩
    clear b1 ho hc1
    by_cases hm : ∀ p ∈ lss, MayP o p
    · have HM : Hid (∀ p ∈ lss, MayP o p) := hm
      have hb : false = true ↔ ¬ ∀ p ∈ lss, MayP o p := ⟨(fun e => by cases e), fun h => absurd HM.out h⟩
      have HQ : Hid (Calls Tryz.prog 47 #[.slice lo m cap, .func (.func 46) #[] #[.pointer (some ⟨w.heap.size, 0, none⟩)]] w1 fun e w' => e = .returned (.bool false) ∧ Below w1.heap.size w1 w') := contains_b o w.heap.size lo m cap lss w1 H1.out.1 H1.out.2.2.2 H1.out.2.2.1 false hb
      clear hm hb
      go_wp2_with fail
      refine HQ.out.mono ?_
      rintro e w2 ⟨rfl, b2⟩
      have hc2 := (b2.cell (p := ⟨w.heap.size, 0, none⟩) H1.out.2.2.2).trans H1.out.2.2.1
      have H2 : Hid (ListAt w2 lo m lss ∧ Below w.heap.size w w2) := ⟨H1.out.1.below b2, chain H1.out.2.1 b2⟩
      clear b2
      go_wp2_with fail
      refine (sum_b o _ _ _ _ _ HO.out H2.out.1 H.out.2.1 HM.out).mono ?_
      rintro e w3 ⟨lo3, n3, cap3, qs, ms, k, rfl, q1, q2, q3⟩
      have H3 : Hid (PolyAt w3 lo3 n3 cap3 qs ms ∧ TogIs o lss.flatten ms k ∧ Below w.heap.size w w3) := ⟨q1, q2, chain H2.out.2 q3⟩
      clear q1 q2 q3 hc2
      go_wp2_with fail
      go_ret2
      exact ⟨lo3, n3, cap3, qs, ms, k, rfl, H3.out.1, ⟨fun h => absurd ⟨HO.out, HM.out⟩ h, fun _ => H3.out.2.1⟩, H3.out.2.2⟩
    · have HM : Hid (¬ ∀ p ∈ lss, MayP o p) := hm
      have HQ : Hid (Calls Tryz.prog 47 #[.slice lo m cap, .func (.func 46) #[] #[.pointer (some ⟨w.heap.size, 0, none⟩)]] w1 fun e w' => e = .returned (.bool true) ∧ Below w1.heap.size w1 w') := contains_b o w.heap.size lo m cap lss w1 H1.out.1 H1.out.2.2.2 H1.out.2.2.1 true (yes_iff hm)
      clear hm
      go_wp2_with fail
      refine HQ.out.mono ?_
      rintro e w2 ⟨rfl, b2⟩
      have H2 : Hid (Below w.heap.size w w2) := chain H1.out.2.1 b2
      clear b2
      go_wp2_with fail
      go_ret2
      exact ⟨none, 0, 0, [], [], 1, rfl, PolyAt.nil _, ⟨fun _ => ⟨rfl, rfl⟩, fun h => absurd h.2 HM.out⟩, H2.out⟩
  · have HO : Hid (¬ Ord o) := ho
    refine (isOrder_b o false _ (no_iff ho)).mono ?_
    rintro e w1 ⟨rfl, b1⟩
    have H1 : Hid (Below w.heap.size w w1) := chain H.out.2.2.1 b1
    clear b1 ho
    go_wp2_with fail
    go_ret2
    exact ⟨none, 0, 0, [], [], 1, rfl, PolyAt.nil _, ⟨fun _ => ⟨rfl, rfl⟩, fun h => absurd h.1 HO.out⟩, H1.out⟩
end Go.Proofs.YtbdldijgcmgfaaaGreat

/-! shown: x + y, less y. -/
namespace Go.Proofs.YtbdldijgcmgfaaaGreat
open Go.RowKit

/-- A row of one term, of two. -/
def T1c (p : TP) : Obj := .cells #[.bool p.neg, .slice p.no p.nn p.nc, .slice p.eo p.en p.ec, .int .i64 p.a, .int .i64 p.b, .int .i64 p.c, .int .i64 p.d] 39
def T2c (p q : TP) : Obj := .cells #[.bool p.neg, .slice p.no p.nn p.nc, .slice p.eo p.en p.ec, .int .i64 p.a, .int .i64 p.b, .int .i64 p.c, .int .i64 p.d, .bool q.neg, .slice q.no q.nn q.nc, .slice q.eo q.en q.ec, .int .i64 q.a, .int .i64 q.b, .int .i64 q.c, .int .i64 q.d] 39
theorem poly1 {W : World} {b : Nat} {p : TP} {t : TL} (h : W.heap[b]? = some (T1c p)) (T : TermAt W p t) : PolyAt W (some ⟨b, 0, none⟩) 1 1 [p] [t] := by
  refine ⟨rfl, Nat.le_refl _, by unfold maxLen; omega, (fun e => by cases e), b, 0, fun _ => rfl, rfl, fun _ => (Array.getElem?_eq_some_iff.1 h).1, fun i q hq j v hv => ?_, fun i q s hq hs => ?_⟩
  · match i, hq with
    | 0, hq =>
      simp at hq
      subst hq
      have hh : W.heap[b]? = some (.cells p.cs.toArray 39 (0, 0)) := h
      rw [cell_of_row W b _ _ 39 (0, 0) hh]
      simpa using hv
  · match i, hq, hs with
    | 0, hq, hs =>
      simp at hq hs
      subst hq hs
      exact T
theorem poly2 {W : World} {b : Nat} {p q : TP} {t s : TL} (h : W.heap[b]? = some (T2c p q)) (T : TermAt W p t) (S : TermAt W q s) : PolyAt W (some ⟨b, 0, none⟩) 2 2 [p, q] [t, s] := by
  refine ⟨rfl, Nat.le_refl _, by unfold maxLen; omega, (fun e => by cases e), b, 0, fun _ => rfl, rfl, fun _ => (Array.getElem?_eq_some_iff.1 h).1, fun i r hr j v hv => ?_, fun i r u hr hu => ?_⟩
  · have hh : W.heap[b]? = some (.cells (tcells [p, q]).toArray 39 (0, 0)) := h
    rw [cell_of_row W b _ _ 39 (0, 0) hh]
    have := tcells_at [p, q] i j r v hr hv
    simpa using this
  · match i, hr, hu with
    | 0, hr, hu =>
      simp at hr hu
      subst hr hu
      exact T
    | 1, hr, hu =>
      simp at hr hu
      subst hr hu
      exact S
theorem list2 {W : World} {B : Nat} {lo mo : Option Addr} {n m nc mc : Nat} {ps qs : List TP} {ls ms : List TL} (h : W.heap[B]? = some (.cells #[.slice lo n nc, .slice mo m mc] 23 (0, 0))) (h1 : PolyAt W lo n nc ps ls) (h2 : PolyAt W mo m mc qs ms) : ListAt W (some ⟨B, 0, none⟩) 2 [ls, ms] := by
  refine ⟨rfl, by omega, fun i hi => ?_⟩
  match i, hi with
  | 0, _ => exact ⟨B, 0, lo, n, nc, ps, ls, rfl, by rw [cell_of_row W B _ _ 23 (0, 0) h]; rfl, rfl, h1, (Array.getElem?_eq_some_iff.1 h).1⟩
  | 1, _ => exact ⟨B, 0, mo, m, mc, qs, ms, rfl, by rw [cell_of_row W B _ _ 23 (0, 0) h]; rfl, rfl, h2, (Array.getElem?_eq_some_iff.1 h).1⟩
theorem new_at {W : World} {o : Obj} {b : Nat} (e : b = W.heap.size) : (W.alloc o).heap[b]? = some o := by
  subst e
  exact heap_alloc_new W o
theorem old_at {W W' : World} {o : Obj} {b : Nat} (h : W.heap[b]? = some o) (hb : Below W.heap.size W W') : W'.heap[b]? = some o := (hb.block b (Array.getElem?_eq_some_iff.1 h).1).trans h

theorem eight {W : World} {a b : Nat} (h : Mn.MBox W a 1 0 0 0) (g : Mn.MBox W b 0 1 0 0) : W.cell? ⟨a, 0, none⟩ = some (.int .i64 1) ∧ W.cell? ⟨a, 1, none⟩ = some (.int .i64 0) ∧ W.cell? ⟨a, 2, none⟩ = some (.int .i64 0) ∧ W.cell? ⟨a, 3, none⟩ = some (.int .i64 0) ∧ W.cell? ⟨b, 0, none⟩ = some (.int .i64 0) ∧ W.cell? ⟨b, 1, none⟩ = some (.int .i64 1) ∧ W.cell? ⟨b, 2, none⟩ = some (.int .i64 0) ∧ W.cell? ⟨b, 3, none⟩ = some (.int .i64 0) := ⟨h.c0, h.c1, h.c2, h.c3, g.c0, g.c1, g.c2, g.c3⟩

set_option maxRecDepth 100000 in
set_option maxHeartbeats 4000000 in
theorem shown_b (w : World) : Calls Tryz.prog 11 #[] w fun e w' => e = .returned (.bool true) ∧ Below w.heap.size w w' := by
  have HM : Hid (Mn.MBox ((w.alloc (.cells #[.int .i64 1, .int .i64 0, .int .i64 0, .int .i64 0] 37)).alloc (.cells #[.int .i64 0, .int .i64 1, .int .i64 0, .int .i64 0] 37)) w.heap.size 1 0 0 0 ∧ Mn.MBox ((w.alloc (.cells #[.int .i64 1, .int .i64 0, .int .i64 0, .int .i64 0] 37)).alloc (.cells #[.int .i64 0, .int .i64 1, .int .i64 0, .int .i64 0] 37)) (w.heap.size + 1) 0 1 0 0 ∧ Below w.heap.size w ((w.alloc (.cells #[.int .i64 1, .int .i64 0, .int .i64 0, .int .i64 0] 37)).alloc (.cells #[.int .i64 0, .int .i64 1, .int .i64 0, .int .i64 0] 37))) := by
    refine ⟨(Mn.MBox.new _ _ _ _ _).alloc _, ?_, below2' _ _ _⟩
    have h := Mn.MBox.new (w.alloc (.cells #[.int .i64 1, .int .i64 0, .int .i64 0, .int .i64 0] 37)) 0 1 0 0
    rw [World.size_alloc] at h
    exact h
  go_enter Tryz.func11, Tryz.ntmps11
  go_upto_region 3 with fail
  generalize ((w.alloc (.cells #[.int .i64 1, .int .i64 0, .int .i64 0, .int .i64 0] 37)).alloc (.cells #[.int .i64 0, .int .i64 1, .int .i64 0, .int .i64 0] 37)) = W0 at HM ⊢
  go_cut [3, 4] from 5 to 28 (fun s3 s4 wx => ∃ lo n cap ps ms, s3 = .slice lo n cap ∧ s4 = .int .i64 0 ∧ Hid (PolyAt wx lo n cap ps ms ∧ (∃ r, Is r 1 1 ∧ ms = [⟨r, moX⟩]) ∧ Below W0.heap.size W0 wx))
  case first =>
    have bz : Below W0.heap.size W0 W0.drew := (Below.refl _ _).drew
    go_region_held3 (fun w' => w'.cell? ⟨w.heap.size, 0, none⟩ = some (.int .i64 1) ∧ w'.cell? ⟨w.heap.size, 1, none⟩ = some (.int .i64 0) ∧ w'.cell? ⟨w.heap.size, 2, none⟩ = some (.int .i64 0) ∧ w'.cell? ⟨w.heap.size, 3, none⟩ = some (.int .i64 0) ∧ w'.cell? ⟨w.heap.size + 1, 0, none⟩ = some (.int .i64 0) ∧ w'.cell? ⟨w.heap.size + 1, 1, none⟩ = some (.int .i64 1) ∧ w'.cell? ⟨w.heap.size + 1, 2, none⟩ = some (.int .i64 0) ∧ w'.cell? ⟨w.heap.size + 1, 3, none⟩ = some (.int .i64 0))
      (first | exact eight (HM.out.1.below bz) (HM.out.2.1.below bz) | exact eight (HM.out.1.below (chain bz (bel1 _ _))) (HM.out.2.1.below (chain bz (bel1 _ _))) | exact eight (HM.out.1.below (chain (chain bz (bel1 _ _)) (bel1 _ _))) (HM.out.2.1.below (chain (chain bz (bel1 _ _)) (bel1 _ _))) | exact eight (HM.out.1.below (chain (chain (chain bz (bel1 _ _)) (bel1 _ _)) (bel1 _ _))) (HM.out.2.1.below (chain (chain (chain bz (bel1 _ _)) (bel1 _ _)) (bel1 _ _))))
      (first
        | (go_at_call 29; refine (one_b 1 1 0 0 0 _ (by omega) (by omega)).mono ?_; rintro e w3 ⟨p1, r1, rfl, t1, i1, b1⟩; have bz := chain bz b1)
        | (go_at_call 29; refine (one_b 1 0 1 0 0 _ (by omega) (by omega)).mono ?_; rintro e w4 ⟨p2, r2, rfl, t2, i2, b2⟩; have bz := chain bz b2; have t1 := t1.below b2)
        | (go_at_call 29; refine (one_b (-1) 0 1 0 0 _ (by omega) (by omega)).mono ?_; rintro e w5 ⟨p3, r3, rfl, t3, i3, b3⟩; have T1 : TermAt w5 p1 ⟨r1, moX⟩ := (by first | exact t1.below b3 | exact (t1.below (bel1 _ _)).below b3); have T2 : TermAt w5 p2 ⟨r2, moY⟩ := (by first | exact t2.below b3 | exact (t2.below (bel1 _ _)).below b3); have bz := (by first | exact chain bz b3 | exact chain (chain bz (bel1 _ _)) b3))
        | (go_at_call 18; refine (add_b 0 _ _ _ [[⟨r1, moX⟩, ⟨r2, moY⟩], [⟨r3, moY⟩]] _ ?_ (by simp)).mono ?_; (first
            | exact list2 (new_at (by simp [World.size_alloc])) (poly2 (old_at (old_at (heap_alloc_new w4 _) b3) (chain (bel1 _ _) (bel1 _ _))) (T1.below (chain (bel1 _ _) (bel1 _ _))) (T2.below (chain (bel1 _ _) (bel1 _ _)))) (poly1 (old_at (heap_alloc_new w5 _) (bel1 _ _)) (t3.below (chain (bel1 _ _) (bel1 _ _))))
            | exact list2 (new_at (by simp [World.size_alloc])) (poly2 (old_at (heap_alloc_new w5 _) (chain (bel1 _ _) (bel1 _ _))) (T1.below (chain (chain (bel1 _ _) (bel1 _ _)) (bel1 _ _))) (T2.below (chain (chain (bel1 _ _) (bel1 _ _)) (bel1 _ _)))) (poly1 (old_at (new_at (W := w5.alloc _) (by simp [World.size_alloc])) (bel1 _ _)) (t3.below (chain (chain (bel1 _ _) (bel1 _ _)) (bel1 _ _))))
            | exact list2 (new_at (by simp [World.size_alloc])) (poly2 (old_at (new_at (W := w5.alloc _) (by simp [World.size_alloc])) (bel1 _ _)) (T1.below (chain (chain (bel1 _ _) (bel1 _ _)) (bel1 _ _))) (T2.below (chain (chain (bel1 _ _) (bel1 _ _)) (bel1 _ _)))) (poly1 (old_at (heap_alloc_new w5 _) (chain (bel1 _ _) (bel1 _ _))) (t3.below (chain (chain (bel1 _ _) (bel1 _ _)) (bel1 _ _))))); rintro e w6 ⟨lo, n, cap, qs, ms, k, rfl, g1, g2, g3⟩; obtain ⟨hk, hms⟩ := shown_math i1 i2 i3 g2; subst hk; have bz := (by first | exact chain (chain bz (chain (bel1 _ _) (bel1 _ _))) g3 | exact chain (chain bz (chain (chain (bel1 _ _) (bel1 _ _)) (bel1 _ _))) g3); have HF : Hid (PolyAt w6 lo n cap qs ms ∧ (∃ r, Is r 1 1 ∧ ms = [⟨r, moX⟩]) ∧ Below W0.heap.size W0 w6) := ⟨g1, ⟨r1, i1, hms⟩, bz⟩))
    all_goals
      go_wp2_with fail
      go_meet
      exact ⟨lo, n, cap, qs, ms, rfl, rfl, HF.out⟩
  case rest =>
    rename World => wx
    obtain ⟨lo, n, cap, ps, ms, rfl, rfl, hX⟩ := hcut
    have x0 := (HM.out.1.below hX.out.2.2).c0
    have x1 := (HM.out.1.below hX.out.2.2).c1
    have x2 := (HM.out.1.below hX.out.2.2).c2
    have x3 := (HM.out.1.below hX.out.2.2).c3
    go_wp2_with fail
    refine (one_b 1 1 0 0 0 _ (by omega) (by omega)).mono ?_
    rintro e w3 ⟨p1, r1, rfl, t1, i1, b1⟩
    have b2 := chain b1 (bel1 w3 (T1c p1))
    have HQ : Hid (PolyAt (w3.alloc (T1c p1)) lo n cap ps ms ∧ PolyAt (w3.alloc (T1c p1)) (some ⟨w3.heap.size, 0, none⟩) 1 1 [p1] [⟨r1, moX⟩] ∧ Below w.heap.size w (w3.alloc (T1c p1)) ∧ ms = [⟨r1, moX⟩]) := by
      refine ⟨hX.out.1.below b2, poly1 (heap_alloc_new _ _) (t1.below (bel1 _ _)), chain (chain HM.out.2.2 hX.out.2.2) b2, ?_⟩
      obtain ⟨r, h1, h2⟩ := hX.out.2.1
      rw [h2, h1.one i1 rfl]
    unfold T1c at HQ
    clear t1 i1 b1 b2 x0 x1 x2 x3
    go_wp2_with fail
    refine (rsame_b _ _ _ _ _ _ _ _ _ _ _ HQ.out.1 HQ.out.2.1 true (yes_iff HQ.out.2.2.2)).mono ?_
    rintro e w5 ⟨rfl, q⟩
    have HB : Hid (Below w.heap.size w w5) := chain HQ.out.2.2.1 q
    clear q
    go_wp2_with fail
    go_ret
    exact ⟨rfl, HB.out⟩
end Go.Proofs.YtbdldijgcmgfaaaGreat

/-! The walk of the law that Make is the document's. -/
namespace Go.Proofs.YtbdldijgcmgfaaaGreat
open Go.RowKit

theorem dec_iff (p : Prop) [Decidable p] : decide p = true ↔ p := decide_eq_true_iff
open Classical in
theorem bool_of (p : Prop) : ∃ b : Bool, b = true ↔ p := ⟨decide p, decide_eq_true_iff⟩

set_option maxRecDepth 100000 in
set_option maxHeartbeats 4000000 in
theorem makes_walk (o : Int) (lo : Option Addr) (n cap : Nat) (ps : List TP) (ls : List TL) (mo : Option Addr) (m mcap : Nat) (qs : List TP) (ms : List TL) (w : World) (h : PolyAt w lo n cap ps ls) (g : PolyAt w mo m mcap qs ms) :
    Calls Tryz.prog 3 #[.int .i64 o, .slice lo n cap, .slice mo m mcap] w fun e w' => e = .returned (.bool true) ∧ Below w.heap.size w w' := by
  have H : Hid (PolyAt w lo n cap ps ls ∧ PolyAt w mo m mcap qs ms) := ⟨h, g⟩
  clear h g
  go_enter Tryz.func3, Tryz.ntmps3
  go_wp2_with fail
  refine (heavy_b _ _ _ _ _ _ H.out.1).mono ?_
  rintro e w1 ⟨b1, rfl, h1, q1⟩
  have H1 : Hid ((b1 = false → n ≤ 80) ∧ PolyAt w1 lo n cap ps ls ∧ PolyAt w1 mo m mcap qs ms ∧ Below w.heap.size w w1) := ⟨h1, H.out.1.below q1, H.out.2.below q1, q1⟩
  clear h1 q1
  cases b1 with
  | true =>
    go_wp2_with fail
    refine (shown_b _).mono ?_
    rintro e w2 ⟨rfl, q⟩
    have H2 : Hid (Below w.heap.size w w2) := chain H1.out.2.2.2 q
    clear q
    go_wp2_with fail
    go_ret
    exact ⟨rfl, H2.out⟩
  | false =>
    have HN : Hid (n ≤ 80) := H1.out.1 rfl
    go_wp2_with fail
    refine (heavy_b _ _ _ _ _ _ H1.out.2.2.1).mono ?_
    rintro e w2 ⟨b2, rfl, _, q2⟩
    have H2 : Hid (PolyAt w2 lo n cap ps ls ∧ PolyAt w2 mo m mcap qs ms ∧ Below w.heap.size w w2) := ⟨H1.out.2.1.below q2, H1.out.2.2.1.below q2, chain H1.out.2.2.2 q2⟩
    clear q2
    cases b2 with
    | true =>
      go_wp2_with fail
      refine (shown_b _).mono ?_
      rintro e w3 ⟨rfl, q⟩
      have H3 : Hid (Below w.heap.size w w3) := chain H2.out.2.2 q
      clear q
      go_wp2_with fail
      go_ret
      exact ⟨rfl, H3.out⟩
    | false =>
      go_wp2_with fail
      refine (shown_b _).mono ?_
      rintro e w3 ⟨rfl, q⟩
      have H3 : Hid (PolyAt w3 lo n cap ps ls ∧ PolyAt w3 mo m mcap qs ms ∧ Below w.heap.size w w3) := ⟨H2.out.1.below q, H2.out.2.1.below q, chain H2.out.2.2 q⟩
      clear q
      go_wp2_with fail
      refine (make_b o _ _ _ _ _ _ H3.out.1 (by have := HN.out; omega)).mono ?_
      rintro e w4 ⟨xo, xn, xc, xp, x, k, rfl, a1, a2, q⟩
      have H4 : Hid (PolyAt w4 lo n cap ps ls ∧ PolyAt w4 mo m mcap qs ms ∧ PolyAt w4 xo xn xc xp x ∧ MakeIs o ls x k ∧ Below w.heap.size w w4) := ⟨H3.out.1.below q, H3.out.2.1.below q, a1, a2, chain H3.out.2.2 q⟩
      clear q a1 a2
      go_wp2_with fail
      refine (rmake_b o _ _ _ _ _ _ H4.out.1 (by have := HN.out; omega)).mono ?_
      rintro e w5 ⟨yo, yn, yc, yp, y, j, rfl, a1, a2, q⟩
      obtain ⟨rfl, rfl⟩ := H4.out.2.2.2.1.one a2
      have H5 : Hid (PolyAt w5 mo m mcap qs ms ∧ PolyAt w5 xo xn xc xp x ∧ PolyAt w5 yo yn yc yp x ∧ Below w.heap.size w w5) := ⟨H4.out.2.1.below q, H4.out.2.2.1.below q, a1, chain H4.out.2.2.2.2 q⟩
      clear q a1 a2
      go_wp2_with fail
      refine (rsame_b _ _ _ _ _ _ _ _ _ _ _ H5.out.2.1 H5.out.2.2.1 true (yes_iff rfl)).mono ?_
      rintro e w6 ⟨rfl, q⟩
      have H6 : Hid (PolyAt w6 mo m mcap qs ms ∧ PolyAt w6 xo xn xc xp x ∧ Below w.heap.size w w6) := ⟨H5.out.1.below q, H5.out.2.1.below q, chain H5.out.2.2.2 q⟩
      clear q
      obtain ⟨bp, hbp⟩ := bool_of (MayP o ms)
      obtain ⟨bx, hbx⟩ := bool_of (MayP o x)
      obtain ⟨bs, hbs⟩ := bool_of (ms = x)
      have HB : Hid ((bp = true ↔ MayP o ms) ∧ (bx = true ↔ MayP o x) ∧ (bs = true ↔ ms = x)) := ⟨hbp, hbx, hbs⟩
      clear hbp hbx hbs
      go_wp2_with fail
      refine (may_b o _ _ _ _ _ _ H6.out.1 bp HB.out.1).mono ?_
      rintro e w7 ⟨rfl, q⟩
      have H7 : Hid (PolyAt w7 mo m mcap qs ms ∧ PolyAt w7 xo xn xc xp x ∧ Below w.heap.size w w7) := ⟨H6.out.1.below q, H6.out.2.1.below q, chain H6.out.2.2 q⟩
      clear q
      go_wp2_with fail
      refine (rmay_b o _ _ _ _ _ _ H7.out.1 bp HB.out.1).mono ?_
      rintro e w8 ⟨rfl, q⟩
      have H8 : Hid (PolyAt w8 mo m mcap qs ms ∧ PolyAt w8 xo xn xc xp x ∧ Below w.heap.size w w8) := ⟨H7.out.1.below q, H7.out.2.1.below q, chain H7.out.2.2 q⟩
      clear q
      go_wp2_with fail
      refine (may_b o _ _ _ _ _ _ H8.out.2.1 bx HB.out.2.1).mono ?_
      rintro e w9 ⟨rfl, q⟩
      have H9 : Hid (PolyAt w9 mo m mcap qs ms ∧ PolyAt w9 xo xn xc xp x ∧ Below w.heap.size w w9) := ⟨H8.out.1.below q, H8.out.2.1.below q, chain H8.out.2.2 q⟩
      clear q
      go_wp2_with fail
      refine (rmay_b o _ _ _ _ _ _ H9.out.2.1 bx HB.out.2.1).mono ?_
      rintro e w10 ⟨rfl, q⟩
      have HX : Hid (PolyAt w10 mo m mcap qs ms ∧ PolyAt w10 xo xn xc xp x ∧ Below w.heap.size w w10) := ⟨H9.out.1.below q, H9.out.2.1.below q, chain H9.out.2.2 q⟩
      clear q
      go_wp2_with fail
      refine (same_b _ _ _ _ _ _ _ _ _ _ _ HX.out.1 HX.out.2.1 bs HB.out.2.2).mono ?_
      rintro e w11 ⟨rfl, q⟩
      have HY : Hid (PolyAt w11 mo m mcap qs ms ∧ PolyAt w11 xo xn xc xp x ∧ Below w.heap.size w w11) := ⟨HX.out.1.below q, HX.out.2.1.below q, chain HX.out.2.2 q⟩
      clear q
      go_wp2_with fail
      refine (rsame_b _ _ _ _ _ _ _ _ _ _ _ HY.out.1 HY.out.2.1 bs HB.out.2.2).mono ?_
      rintro e w12 ⟨rfl, q⟩
      have HZ : Hid (Below w.heap.size w w12) := chain HY.out.2.2 q
      clear q
      go_wp2_with fail
      go_ret
      refine ⟨?_, HZ.out⟩
      simp
end Go.Proofs.YtbdldijgcmgfaaaGreat

/-! The reference's Add. -/
namespace Go.Proofs.YtbdldijgcmgfaaaGreat
open Go.RowKit

/-- Two types of one slice. -/
theorem append_types {P : Program} (t tx ty e : TypeId) (i : TypeInfo) (hi : P.info? e = some i) (ht : P.underlying t = some (.slice e)) (htx : P.underlying tx = some (.slice e)) (v x : Value) (w : World) :
    (Builtin.append_ #[t, tx] ty #[v, x]).run P w = (Builtin.append_ #[t, t] ty #[v, x]).run P w := by
  cases v <;> simp [Builtin.append_, run_underlying ht, run_underlying htx, sizeOf, typeInfo, hi]

set_option maxRecDepth 100000 in
set_option maxHeartbeats 4000000 in
theorem radd_b (o : Int) (lo : Option Addr) (m cap : Nat) (lss : List (List TL)) (w : World) (h : ListAt w lo m lss) (hs : lss.flatten.length ≤ 90000) :
    Calls Tryz.prog 19 #[.int .i64 o, .slice lo m cap] w fun e w' => ∃ lo' n' cap' qs ms k, e = .returned (.tuple #[.slice lo' n' cap', .int .i64 k]) ∧ PolyAt w' lo' n' cap' qs ms ∧ AddP o lss ms k ∧ Below w.heap.size w w' := by
  obtain ⟨i0, hi0, hz0, hz1, hz2⟩ := info_parts info39
  have hN := h.most
  have H : Hid (ListAt w lo m lss ∧ lss.flatten.length ≤ 90000) := ⟨h, hs⟩
  have H0 : Hid (TermsOwn (w.alloc (.cells #[] 39)) w.heap.size (.slice (some ⟨w.heap.size, 0, none⟩) 0 0) [] [] ∧ Below w.heap.size w (w.alloc (.cells #[] 39))) := ⟨TermsOwn.made w _ (Nat.le_refl _), bel1 _ _⟩
  clear h hs
  go_enter Tryz.func19, Tryz.ntmps19
  go_wp2_with fail
  go_loopg [6, 7] m (fun g vv i wx => ∃ (q : Nat) (ps : List TP), q ≤ m ∧ m - q ≤ g ∧ i = .int .i64 q ∧ Hid (TermsOwn wx w.heap.size vv ps (lss.take q).flatten ∧ Below w.heap.size w wx ∧ ∀ i p, i < q → lss[i]? = some p → MayP o p))
  case atStart => exact ⟨0, [], Nat.zero_le _, by omega, rfl, by simpa using H0.out.1, H0.out.2, fun i p h => absurd h (by omega)⟩
  case round =>
    obtain ⟨q, ps, hq, hqr, rfl, hT⟩ := hrel
    by_cases h0 : q < m
    · obtain ⟨bk, off, po, pn, pc, qs, ls, rfl, hcell, hls, hpo, hblt⟩ := (H.out.1.below hT.out.2.1).elem q h0
      have hqj : (q : Int) < (m : Int) := by omega
      have hq0 : (0 : Int) ≤ (q : Int) := by omega
      have hfl := flat_step hls
      have hlen : ps.length + qs.length ≤ 90000 := by
        have h1 := flat_le lss (q + 1)
        rw [hfl, List.length_append, ← hT.out.1.len, hpo.len, ← hpo.num] at h1
        exact Nat.le_trans h1 H.out.2
      have HP : Hid (PolyAt _ po pn pc qs ls ∧ (lss.take (q + 1)).flatten = (lss.take q).flatten ++ ls ∧ q < m ∧ m - q ≤ _ ∧ ps.length + qs.length ≤ 90000 ∧ lss[q]? = some ls ∧ bk < _) := ⟨hpo, hfl, h0, hqr, hlen, hls, hblt⟩
      clear hls hpo hblt hq hqr h0 hfl hlen
      by_cases hm : MayP o ls
      · have HM : Hid (MayP o ls) := hm
        clear hm
        go_wp2_with fail
        refine (rmay_b o _ _ _ _ _ _ HP.out.1 true (yes_iff HM.out)).mono ?_
        rintro e w2 ⟨rfl, b2⟩
        have hcell2 : w2.cell? ⟨bk, off + q, none⟩ = some (.slice po pn pc) := (b2.cell (p := ⟨bk, off + q, none⟩) HP.out.2.2.2.2.2.2).trans hcell
        have HQ : Hid (TermsOwn w2 w.heap.size u6 ps (lss.take q).flatten ∧ Below w.heap.size w w2 ∧ PolyAt w2 po pn pc qs ls) := ⟨hT.out.1.below b2, chain hT.out.2.1 b2, HP.out.1.below b2⟩
        have HA : Hid (∀ i p, i < q + 1 → lss[i]? = some p → MayP o p) := fun i p hi hp => by
          by_cases hiq : i = q
          · subst hiq
            have := HP.out.2.2.2.2.2.1.symm.trans hp
            injection this with this
            rw [← this]
            exact HM.out
          · exact hT.out.2.2 i p (by omega) hp
        have hnum := HP.out.1.num
        have hnc : pn ≤ pc := HP.out.1.fits
        have hbare := HP.out.1.bare
        clear b2 hcell
        cases po with
        | none =>
          have hc0 := hbare rfl
          subst hc0
          have hn0 : pn = 0 := by omega
          subst hn0
          have HZ : Hid (TermsOwn w2 w.heap.size u6 ps (lss.take (q + 1)).flatten) := by
            have hl0 : ls = [] := List.length_eq_zero_iff.1 HP.out.1.len
            show TermsOwn w2 w.heap.size u6 ps (lss.take (q + 1)).flatten
            rw [HP.out.2.1, hl0, List.append_nil]
            exact HQ.out.1
          have hr := (append_types 22 23 22 39 i0 hi0 Tryz.underlying22 Tryz.underlying23 u6 (.slice none 0 0) w2).trans (run_append_owned_none (P := Tryz.prog) (w := w2) w.heap.size 22 22 39 i0 7 Tryz.underlying22 hi0 u6 _ _ HQ.out.1.own.row)
          clear hbare hnc hnum
          go_wp2_with (at_builtin; refine Lib.wpList_append_run _ rfl _ _ _ _ rfl _ _ rfl rfl _ _ hr ?_)
          clear hr
          go_roundg (m - (q + 1))
          case measure => have := HP.out.2.2.1; have := HP.out.2.2.2.1; omega
          case rel => exact ⟨q + 1, ps, by have := HP.out.2.2.1; omega, Nat.le_refl _, by go_num, HZ.out, HQ.out.2.1, HA.out⟩
        | some ad =>
          clear hbare hnc
          have hl7 : (tcells qs).length = pn * 7 := by rw [tcells_length, hnum]
          obtain ⟨v2, w3, hr0, ho, hg, _⟩ := run_append_owns (P := Tryz.prog) w2 w.heap.size 22 22 39 i0 _ 7 88 Tryz.underlying22 hi0 hz0 hz1 hz2 rfl (by omega) zero39 u6 ps.length (tcells ps) HQ.out.1.own ad pn pc (tcells qs) hl7 HQ.out.2.2.news (tcells_onecell _) (tcells_clean _) (by have := HP.out.2.2.2.2.1; unfold maxLen; omega) (by have := HP.out.2.2.2.2.1; omega) HQ.out.2.1.size
          have hr := (append_types 22 23 22 39 i0 hi0 Tryz.underlying22 Tryz.underlying23 u6 (.slice (some ad) pn pc) w2).trans hr0
          have HZ : Hid (TermsOwn w3 w.heap.size v2 (ps ++ qs) (lss.take (q + 1)).flatten ∧ Below w.heap.size w w3) := by
            refine ⟨?_, HQ.out.2.1.grown hg HQ.out.2.1.size (fun k hk => (HQ.out.1.own.row.lt k hk).1)⟩
            rw [HP.out.2.1]
            obtain ⟨b, off, _, h2⟩ := HQ.out.2.2.at'
            exact HQ.out.1.put h2.len h2.each (by rw [hnum]; exact ho) hg
          clear ho hg hl7 hnum hr0
          go_wp2_with (at_builtin; refine Lib.wpList_append_run _ rfl _ _ _ _ rfl _ _ rfl rfl _ _ hr ?_)
          clear hr
          go_roundg (m - (q + 1))
          case measure => have := HP.out.2.2.1; have := HP.out.2.2.2.1; omega
          case rel => exact ⟨q + 1, _, by have := HP.out.2.2.1; omega, Nat.le_refl _, by go_num, HZ.out.1, HZ.out.2, HA.out⟩
      · have HM : Hid (¬ MayP o ls) := hm
        clear hm
        go_wp2_with fail
        refine (rmay_b o _ _ _ _ _ _ HP.out.1 false (no_iff HM.out)).mono ?_
        rintro e w2 ⟨rfl, b2⟩
        have H2 : Hid (Below w.heap.size w w2) := chain hT.out.2.1 b2
        clear b2 hcell
        go_wp2_with fail
        go_ret2
        exact ⟨none, 0, 0, [], [], 1, rfl, PolyAt.nil _, ⟨fun _ => ⟨rfl, rfl⟩, fun h => absurd (h.2 ls (List.mem_of_getElem? HP.out.2.2.2.2.2.1)) HM.out⟩, H2.out⟩
    · have hqm : q = m := by omega
      subst hqm
      clear hq hqr h0
      obtain ⟨lo2, cap2, rfl, hpa, _⟩ := hT.out.1.poly
      have hfl : (lss.take q).flatten = lss.flatten := by rw [List.take_of_length_le (by rw [H.out.1.len]; exact Nat.le_refl _)]
      rw [hfl] at hpa
      have hle : ps.length ≤ 90000 := by have := hpa.len; have := H.out.2; omega
      have HA : Hid (∀ p ∈ lss, MayP o p) := fun p hp => by
        obtain ⟨i, hi⟩ := List.mem_iff_getElem?.1 hp
        refine hT.out.2.2 i p ?_ hi
        have := (List.getElem?_eq_some_iff.1 hi).1
        rw [← H.out.1.len]
        exact this
      have HQ : Hid (PolyAt _ lo2 ps.length cap2 ps lss.flatten ∧ Below w.heap.size w _) := ⟨hpa, hT.out.2.1⟩
      clear hpa hfl
      go_wp2_with fail
      refine (rmake_b o _ _ _ _ _ _ HQ.out.1 hle).mono ?_
      rintro e w3 ⟨lo3, n3, cap3, qs, ms, k, rfl, q1, q2, q3⟩
      have H3 : Hid (PolyAt w3 lo3 n3 cap3 qs ms ∧ MakeIs o lss.flatten ms k ∧ Below w.heap.size w w3) := ⟨q1, q2, chain HQ.out.2 q3⟩
      clear q1 q2 q3 hle
      go_wp2_with fail
      go_ret2
      have hmm : ∀ s ∈ lss.flatten, Ord o → MayT s := fun s hs _ => by
        obtain ⟨p, hp, hsp⟩ := List.mem_flatten.1 hs
        exact (HA.out p hp).may s hsp
      exact ⟨lo3, n3, cap3, qs, ms, k, rfl, H3.out.1, ⟨fun h => H3.out.2.1.arg (fun g => h ⟨g.1, HA.out⟩), fun h => H3.out.2.1.ok ⟨h.1, fun t ht => hmm t ht h.1⟩⟩, H3.out.2.2⟩
end Go.Proofs.YtbdldijgcmgfaaaGreat
