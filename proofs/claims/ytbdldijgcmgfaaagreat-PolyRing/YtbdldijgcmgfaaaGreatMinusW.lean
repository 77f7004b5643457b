/-
  Minus: the reference's.
-/
import Derived.Test.YtbdldijgcmgfaaaGreatRingM
import Derived.Test.YtbdldijgcmgfaaaGreatJR1
import Derived.Deep.RegionHeld3
namespace Go.Proofs.YtbdldijgcmgfaaaGreat
open Go.RowKit

/-- The terms with the other sign so far. -/
structure NgSt (w wr : World) (v : Value) (ls : List TL) (j : Nat) (qs : List TP) (ms : List TL) : Prop where
  bel : Below w.heap.size w wr
  own : TermsOwn wr w.heap.size v qs ms
  len : qs.length = j
  ms : ms = (ls.take j).map negT
theorem NgSt.start {w : World} {ls : List TL} : NgSt w (w.alloc (.cells #[] 39)) (.slice (some ⟨w.heap.size, 0, none⟩) 0 0) ls 0 [] [] := ⟨bel1 _ _, TermsOwn.made w _ (Nat.le_refl _), rfl, by simp⟩
theorem NgSt.below {w wr w' : World} {v : Value} {ls : List TL} {j : Nat} {qs : List TP} {ms : List TL} (h : NgSt w wr v ls j qs ms) (hb : Below wr.heap.size wr w') : NgSt w w' v ls j qs ms := ⟨chain h.bel hb, h.own.below hb, h.len, h.ms⟩
theorem NgSt.put {w wr w' : World} {v v' : Value} {ls : List TL} {j : Nat} {qs : List TP} {ms : List TL} {p : TP} {t : TL} (h : NgSt w wr v ls j qs ms) (ht : ls[j]? = some t) (hp : TermAt wr p (negT t)) (ho : OwnS w' w.heap.size 39 7 v' (j + 1) (tcells qs ++ p.cs)) (hg : wr.grownBy w' v.ownBlock) : NgSt w w' v' ls (j + 1) (qs ++ [p]) (ms ++ [negT t]) :=
  ⟨h.bel.grown hg h.bel.size (fun k hk => (h.own.own.row.lt k hk).1), h.own.put1 hp h.len ho hg, by simp [h.len], by rw [h.ms, List.take_add_one, ht]; simp⟩

set_option maxRecDepth 100000 in
set_option maxHeartbeats 8000000 in
theorem minus_b (o : Int) (lo : Option Addr) (n cap : Nat) (ps : List TP) (ls : List TL) (w : World) (h : PolyAt w lo n cap ps ls) (hm : MayP o ls) :
    Calls Tryz.prog 28 #[.slice lo n cap] w fun e w' => ∃ lo' n' cap' qs, e = .returned (.slice lo' n' cap') ∧ PolyAt w' lo' n' cap' qs (ls.map negT) ∧ Below w.heap.size w w' := by
  obtain ⟨i0, hi0, hz0, hz1, hz2⟩ := info_parts info39
  have hN := h.most'
  have H : Hid (PolyAt w lo n cap ps ls ∧ MayP o ls ∧ n ≤ 60) := ⟨h, hm, by have := h.len; have := hm.len; omega⟩
  clear h hm
  go_enter Tryz.func28, Tryz.ntmps28
  go_wp2_with fail
  go_loopg [3, 4] n (fun g vv i wr => ∃ (j : Nat) (qs : List TP) (ms : List TL), j ≤ n ∧ n - j ≤ g ∧ i = .int .i64 j ∧ Hid (NgSt w wr vv ls j qs ms))
  case atStart => exact ⟨0, [], [], by omega, by omega, rfl, NgSt.start⟩
  case round =>
    obtain ⟨j, qs, ms, hj, hjr, rfl, hT⟩ := hrel
    rename World => wr
    obtain ⟨lov, capv, hv, hpv, _⟩ := hT.out.own.poly
    have hjl := hT.out.len
    rw [hjl] at hpv hv
    subst hv
    have hj0 : (0 : Int) ≤ (j : Int) := by omega
    have HV : Hid (PolyAt wr lov j capv qs ms ∧ qs.length = j) := ⟨hpv, hjl⟩
    clear hpv
    by_cases h0 : j < n
    · obtain ⟨bk, off, p, x, rfl, hpj, hxj, hat, hel, hblt⟩ := H.out.1.elem h0
      obtain ⟨neg, no, nn, nc, eo, en, ec, pa, pb, pc, pd⟩ := p
      have hjn : (j : Int) < (n : Int) := by omega
      have HS : Hid (∀ W, Below w.heap.size w W → W.cell? ⟨bk, off + j * 7, none⟩ = some (.bool neg) ∧ W.cell? ⟨bk, off + j * 7 + 1, none⟩ = some (.slice no nn nc) ∧ W.cell? ⟨bk, off + j * 7 + 2, none⟩ = some (.slice eo en ec) ∧ W.cell? ⟨bk, off + j * 7 + 3, none⟩ = some (.int .i64 pa) ∧ W.cell? ⟨bk, off + j * 7 + 3 + 1, none⟩ = some (.int .i64 pb) ∧ W.cell? ⟨bk, off + j * 7 + 3 + 2, none⟩ = some (.int .i64 pc) ∧ W.cell? ⟨bk, off + j * 7 + 3 + 3, none⟩ = some (.int .i64 pd)) := fun W hW => by
        have h := hel.below hblt hW
        exact ⟨h.c0, h.c1, h.c2, h.c3, h.c4, h.c5, h.c6⟩
      have HX : Hid (TermAt w ⟨neg, no, nn, nc, eo, en, ec, pa, pb, pc, pd⟩ x ∧ MayR x.c ∧ x.c.top ≠ 0 ∧ ls[j]? = some x ∧ j < n ∧ n - j ≤ _) := ⟨hat, (H.out.2.1.may x (List.mem_of_getElem? hxj)).c, H.out.2.1.nz x (List.mem_of_getElem? hxj), hxj, h0, hjr⟩
      have bz : Below w.heap.size w wr.drew := hT.out.bel.drew
      have by' : Below wr.heap.size wr wr.drew := (Below.refl _ _).drew
      clear hpj hxj hat hel hblt h0 hjr hj hjl
      go_wp2_with fail
      go_region_held3 (fun W => W.cell? ⟨bk, off + j * 7, none⟩ = some (.bool neg) ∧ W.cell? ⟨bk, off + j * 7 + 1, none⟩ = some (.slice no nn nc) ∧ W.cell? ⟨bk, off + j * 7 + 2, none⟩ = some (.slice eo en ec) ∧ W.cell? ⟨bk, off + j * 7 + 3, none⟩ = some (.int .i64 pa) ∧ W.cell? ⟨bk, off + j * 7 + 3 + 1, none⟩ = some (.int .i64 pb) ∧ W.cell? ⟨bk, off + j * 7 + 3 + 2, none⟩ = some (.int .i64 pc) ∧ W.cell? ⟨bk, off + j * 7 + 3 + 3, none⟩ = some (.int .i64 pd))
        (first | exact HS.out _ B4.out | exact HS.out _ bz | exact HS.out _ (chain bz (bel1 _ _)))
        (first
          | (go_at_call 54; refine (rneg_r _ _ _ _ _ _ _ x.c _ (HX.out.1.rat.below bz) HX.out.1.neg HX.out.2.1 HX.out.2.2.1).mono ?_; rintro e w3 ⟨rfl, q1, q2⟩; have bz := chain bz q2; have b5 := chain (chain by' q2) (bel1 w3 (.cells #[.bool (!neg), .slice no nn nc, .slice eo en ec, .int .i64 pa, .int .i64 pb, .int .i64 pc, .int .i64 pd] 39)); have G3 : Hid (NgSt w (w3.alloc (.cells #[.bool (!neg), .slice no nn nc, .slice eo en ec, .int .i64 pa, .int .i64 pb, .int .i64 pc, .int .i64 pd] 39)) (.slice lov j capv) ls j qs ms ∧ TermAt (w3.alloc (.cells #[.bool (!neg), .slice no nn nc, .slice eo en ec, .int .i64 pa, .int .i64 pb, .int .i64 pc, .int .i64 pd] 39)) ⟨!neg, no, nn, nc, eo, en, ec, pa, pb, pc, pd⟩ (negT x)) := ⟨hT.out.below b5, ⟨by (have h9 := q1.below (bel1 w3 (.cells #[.bool (!neg), .slice no nn nc, .slice eo en ec, .int .i64 pa, .int .i64 pb, .int .i64 pc, .int .i64 pd] 39)); unfold negT; rw [HX.out.1.neg]; exact h9), by (unfold negT; rw [HX.out.1.neg]), HX.out.1.mo⟩⟩; clear q1 q2 b5)
          | (refine step_append_put _ (by rfl) _ _ _ (by rfl) w.heap.size 39 i0 _ 7 88 Tryz.underlying23 hi0 hz0 hz1 hz2 rfl (by omega) zero39 _ j (tcells qs) (by rfl) (by have h := G3.out.1.own.own; rw [HV.out.2] at h; exact h) ⟨w3.heap.size, 0, none⟩ 1 1 (TP.cs (⟨!neg, no, nn, nc, eo, en, ec, pa, pb, pc, pd⟩ : TP)) (by rfl) (by rfl) (World.news_of_block (heap_alloc_new w3 _)) (TP.cs_one (⟨!neg, no, nn, nc, eo, en, ec, pa, pb, pc, pd⟩ : TP)) (TP.cs_clean (⟨!neg, no, nn, nc, eo, en, ec, pa, pb, pc, pd⟩ : TP)) (by omega) (by have := HX.out.2.2.2.2.1; have := H.out.2.2; unfold maxLen; omega) (by have := HX.out.2.2.2.2.1; have := H.out.2.2; omega) G3.out.1.bel.size ?_; intro g2 cap2 w4 hown hgrow; have H4 : Hid (NgSt w w4 (.slice (some ⟨g2, 0, none⟩) (j + 1) cap2) ls (j + 1) (qs ++ [⟨!neg, no, nn, nc, eo, en, ec, pa, pb, pc, pd⟩]) (ms ++ [negT x])) := G3.out.1.put HX.out.2.2.2.1 G3.out.2 hown hgrow; have B4 : Hid (Below w.heap.size w w4) := H4.out.bel; clear hown hgrow))
      clear bz by' hjn
      go_wp2
      go_roundg (n - (j + 1))
      case measure => have := HX.out.2.2.2.2; omega
      case rel => exact ⟨j + 1, _, _, by have := HX.out.2.2.2.2.1; omega, Nat.le_refl _, by (have := HX.out.2.2.2.2.1; have := H.out.2.2; exact congrArg (Value.int .i64) (show wrap64 ((j : Int) + 1) = ((j + 1 : Nat) : Int) from by unfold wrap64; omega)), H4.out⟩
    · have hjn : j = n := by omega
      subst hjn
      have HQ : Hid (PolyAt wr lov j capv qs (ls.map negT) ∧ Below w.heap.size w wr) := by
        refine ⟨?_, hT.out.bel⟩
        have h := HV.out.1
        rw [hT.out.ms, List.take_of_length_le (by rw [H.out.1.len]; exact Nat.le_refl _)] at h
        exact h
      clear hj hjr h0 hjl
      go_wp2_with fail
      go_ret
      exact ⟨lov, j, capv, qs, rfl, HQ.out⟩
end Go.Proofs.YtbdldijgcmgfaaaGreat
