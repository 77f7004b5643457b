/-
  Joined: PolyHH · PolyII · PolyJJ · PolyKK · PolyNN · PolyPP.
-/
import Derived.Test.YtbdldijgcmgfaaaGreatJU1
import Derived.Test.YtbdldijgcmgfaaaGreatJS1
import Derived.Test.YtbdldijgcmgfaaaGreatJP1
import Derived.Laws.OwnMore
import Derived.Test.YtbdldijgcmgfaaaGreatJR1
import Derived.Test.YtbdldijgcmgfaaaGreatJN1
import Derived.Test.YtbdldijgcmgfaaaGreatJO1

/-! A row of zeros as terms; the program's times, its arithmetic. -/
namespace Go.Proofs.YtbdldijgcmgfaaaGreat
open Go.RowKit

def zp : TP := ⟨false, none, 0, 0, none, 0, 0, 0, 0, 0, 0⟩
def zt : TL := ⟨rat0, ⟨0, 0, 0, 0⟩⟩
theorem zp_at (w : World) : TermAt w zp zt := by
  refine ⟨⟨?_, ?_⟩, rfl, rfl⟩
  · exact ⟨rfl, (fun x hx => by cases hx), Nat.le_refl _, Nat.zero_le _, fun _ => rfl, fun h => absurd rfl h⟩
  · exact ⟨rfl, (fun x hx => by cases hx), Nat.le_refl _, Nat.zero_le _, fun _ => rfl, fun h => absurd rfl h⟩

theorem made_terms (n : Nat) : (madeCells (Value.agg #[.bool false, .slice none 0 0, .slice none 0 0, .int .i64 0, .int .i64 0, .int .i64 0, .int .i64 0]).cells (n * 7)).toList = tcells (List.replicate n zp) := by
  apply List.ext_getElem?
  intro k
  by_cases hk : k < n * 7
  · have hi : k / 7 < n := by omega
    have hm : k % 7 < 7 := by omega
    have h2 := tcells_at (List.replicate n zp) (k / 7) (k % 7) zp (zp.cs[k % 7]'hm) (by simp [hi]) (List.getElem?_eq_getElem hm)
    rw [show k / 7 * 7 + k % 7 = k by omega] at h2
    rw [h2]
    have e : (Value.agg #[.bool false, .slice none 0 0, .slice none 0 0, .int .i64 0, .int .i64 0, .int .i64 0, .int .i64 0]).cells = zp.cs.toArray := rfl
    rw [e]
    have hs : zp.cs.toArray.size = 7 := rfl
    simp only [madeCells, hs, Array.getElem?_toList, Array.getElem?_map, Array.getElem?_range, hk, if_true, Option.map_some]
    congr 1
    rw [getElem!_pos zp.cs.toArray (k % 7) (by rw [hs]; exact hm)]
    rfl
  · rw [List.getElem?_eq_none (by rw [Array.length_toList, size_madeCells]; omega), List.getElem?_eq_none (by rw [tcells_length, List.length_replicate]; omega)]

theorem terms_zero (w : World) (n : Nat) (hn : n ≤ maxLen) : TermsOwn (w.alloc (.cells (madeCells (Value.agg #[.bool false, .slice none 0 0, .slice none 0 0, .int .i64 0, .int .i64 0, .int .i64 0, .int .i64 0]).cells (n * 7)) 39)) w.heap.size (.slice (some ⟨w.heap.size, 0, none⟩) n n) (List.replicate n zp) (List.replicate n zt) := by
  have h1 := World.ownsRow_lit (e := 39) (size := 7) w (madeCells (Value.agg #[.bool false, .slice none 0 0, .slice none 0 0, .int .i64 0, .int .i64 0, .int .i64 0, .int .i64 0]).cells (n * 7)) n (Nat.le_refl w.heap.size) hn (size_madeCells _ _)
  have hc := made_terms n
  rw [hc] at h1
  generalize madeCells (Value.agg #[.bool false, .slice none 0 0, .slice none 0 0, .int .i64 0, .int .i64 0, .int .i64 0, .int .i64 0]).cells (n * 7) = cs at h1 hc
  refine ⟨⟨by rw [List.length_replicate]; exact h1, fun g hg => ?_⟩, by simp, fun i p t hp ht => ?_⟩
  · cases hg
    exact ⟨cs, (0, 0), heap_alloc_new w _, by rw [hc]; exact tcells_clean _⟩
  · have e1 := (List.mem_replicate.1 (List.mem_of_getElem? hp)).2
    have e2 := (List.mem_replicate.1 (List.mem_of_getElem? ht)).2
    rw [e1, e2]
    exact zp_at _

/-- One step of Times. -/
theorem TimesL.step {t x : TL} {c : RatL} {m : Mo} {p rest : List TL} {k : Int} (h1 : MulOut x.c t.c c 0) (h2 : MulM x.m t.m m 0) (h3 : TimesL t p rest k) : TimesL t (x :: p) (if k = 0 then ⟨c, m⟩ :: rest else []) k :=
  ⟨c, 0, h1, fun e => absurd rfl e, fun _ => ⟨m, 0, h2, fun e => absurd rfl e, fun _ => ⟨rest, h3, fun e => by rw [if_neg e], fun e => by rw [if_pos e]⟩⟩⟩
theorem TimesL.stopR {t x : TL} {c : RatL} {p : List TL} {k : Int} (h1 : MulOut x.c t.c c k) (hk : k ≠ 0) : TimesL t (x :: p) [] k :=
  ⟨c, k, h1, fun _ => ⟨rfl, rfl⟩, fun e => absurd e hk⟩
theorem TimesL.stopM {t x : TL} {c : RatL} {m : Mo} {p : List TL} {k : Int} (h1 : MulOut x.c t.c c 0) (h2 : MulM x.m t.m m k) (hk : k ≠ 0) : TimesL t (x :: p) [] k :=
  ⟨c, 0, h1, fun e => absurd rfl e, fun _ => ⟨m, k, h2, fun _ => ⟨rfl, rfl⟩, fun e => absurd e hk⟩⟩
end Go.Proofs.YtbdldijgcmgfaaaGreat

/-! times: the program's. -/
namespace Go.Proofs.YtbdldijgcmgfaaaGreat
open Go.RowKit

/-- The products so far. -/
structure TmSt (w1 wr : World) (n : Nat) (t : TL) (ls : List TL) (j : Nat) (qs : List TP) (ms : List TL) : Prop where
  bel : Below w1.heap.size w1 wr
  own : TermsOwn wr w1.heap.size (.slice (some ⟨w1.heap.size, 0, none⟩) n n) (qs ++ List.replicate (n - j) zp) (ms ++ List.replicate (n - j) zt)
  len : qs.length = j
  len' : ms.length = j
  ok : ∀ rest k, TimesL t (ls.drop j) rest k → (k ≠ 0 → rest = []) → TimesL t ls (if k = 0 then ms ++ rest else []) k

theorem TmSt.below {w1 wr w' : World} {n : Nat} {t : TL} {ls : List TL} {j : Nat} {qs : List TP} {ms : List TL} (h : TmSt w1 wr n t ls j qs ms) (hb : Below wr.heap.size wr w') : TmSt w1 w' n t ls j qs ms := ⟨chain h.bel hb, h.own.below hb, h.len, h.len', h.ok⟩
theorem set_at {A : Type} (xs : List A) (n j : Nat) (z p : A) (h : xs.length = j) (hj : j < n) : (xs ++ List.replicate (n - j) z).set j p = (xs ++ [p]) ++ List.replicate (n - (j + 1)) z := by
  obtain ⟨r, hr⟩ : ∃ r, n - j = r + 1 := ⟨n - j - 1, by omega⟩
  rw [hr, show n - (j + 1) = r by omega, List.set_append_right _ _ (by omega), h, Nat.sub_self, List.replicate_succ]
  simp
theorem TmSt.step {w1 wr : World} {n : Nat} {t x : TL} {ls : List TL} {j : Nat} {qs : List TP} {ms : List TL} {p : TP} {c : RatL} {m : Mo} (h : TmSt w1 wr n t ls j qs ms) (hj : j < n) (hx : ls[j]? = some x) (hc : MulOut x.c t.c c 0) (hm : MulM x.m t.m m 0) (hp : TermAt wr p ⟨c, m⟩) : TmSt w1 (setAt wr w1.heap.size (j * 7) p) n t ls (j + 1) (qs ++ [p]) (ms ++ [⟨c, m⟩]) := by
  have h1 := h.own.set (i := j) (p := p) (t := ⟨c, m⟩) (by simp [h.len]; omega) hp
  rw [set_at qs n j zp p h.len hj, set_at ms n j zt _ h.len' hj] at h1
  refine ⟨h.bel.grown (setAt_grown _ _ _ _) h.bel.size (fun k hk => by cases hk; exact Nat.le_refl _), h1, by simp [h.len], by simp [h.len'], fun rest k hr hk => ?_⟩
  have h2 := h.ok (if k = 0 then ⟨c, m⟩ :: rest else []) k (by rw [drop_at2 ls j x hx]; exact TimesL.step hc hm hr) (fun e => by rw [if_neg e])
  by_cases e : k = 0
  · subst e
    simpa using h2
  · rw [if_neg e] at h2 ⊢
    exact h2
theorem TmSt.stop {w1 wr : World} {n : Nat} {t x : TL} {ls : List TL} {j : Nat} {qs : List TP} {ms : List TL} {k : Int} (h : TmSt w1 wr n t ls j qs ms) (hx : ls[j]? = some x) (hs : TimesL t (x :: ls.drop (j + 1)) [] k) (hk : k ≠ 0) : TimesL t ls [] k := by
  have := h.ok [] k (by rw [drop_at2 ls j x hx]; exact hs) (fun _ => rfl)
  rwa [if_neg hk] at this
theorem TmSt.cells {w1 wr : World} {n : Nat} {t : TL} {ls : List TL} {j : Nat} {qs : List TP} {ms : List TL} (h : TmSt w1 wr n t ls j qs ms) (hj : j < n) : ElemAt wr w1.heap.size (j * 7) zp ∧ ∀ k, wr.frozen? ⟨w1.heap.size, k, none⟩ = false := by
  have hp : (qs ++ List.replicate (n - j) zp)[j]? = some zp := by
    rw [List.getElem?_append_right (by rw [h.len]; exact Nat.le_refl _), h.len, Nat.sub_self, List.getElem?_replicate, if_pos (by omega)]
  have hc := (h.own.at).cells j zp hp
  rw [Nat.zero_add] at hc
  refine ⟨.of hc, fun k => ?_⟩
  rcases h.own.own.row.2 with ⟨e, _⟩ | ⟨g', cap', cur, e, _, hb, _⟩
  · cases e
  · simp only [Value.slice.injEq, Option.some.injEq, Addr.mk.injEq, and_true] at e
    obtain ⟨e0, _, _⟩ := e
    subst e0
    simp [World.frozen?, hb]

set_option maxRecDepth 100000 in
set_option maxHeartbeats 2000000 in
theorem times_b (lo : Option Addr) (n cap : Nat) (ps : List TP) (ls : List TL) (tp : TP) (t : TL) (w : World) (h : PolyAt w lo n cap ps ls) (ht : TermAt w tp t) (hm : ∀ s ∈ ls, MayT s) (hmt : MayT t) (hn : n ≤ 1000000) :
    Calls Tryz.prog 49 #[.slice lo n cap, .agg #[.bool tp.neg, .slice tp.no tp.nn tp.nc, .slice tp.eo tp.en tp.ec, .int .i64 tp.a, .int .i64 tp.b, .int .i64 tp.c, .int .i64 tp.d]] w fun e w' =>
      ∃ lo' n' cap' qs ms k, e = .returned (.tuple #[.slice lo' n' cap', .int .i64 k]) ∧ PolyAt w' lo' n' cap' qs ms ∧ TimT ls t ms k ∧ Below w.heap.size w w' := by
  obtain ⟨i0, hi0, hz0, hz1, hz2⟩ := info_parts info39
  obtain ⟨tg, tno, tnn, tnc, teo, ten, tec, ta, tb, tc, td⟩ := tp
  dsimp only
  have hN := h.most'
  have hnn : (n : Int) ≤ 1000000 := by omega
  have hn0 : (0 : Int) ≤ (n : Int) := by omega
  have b1 := bel1 w (.cells #[.bool tg, .slice tno tnn tnc, .slice teo ten tec, .int .i64 ta, .int .i64 tb, .int .i64 tc, .int .i64 td] 39)
  have H : Hid (PolyAt (w.alloc (.cells #[.bool tg, .slice tno tnn tnc, .slice teo ten tec, .int .i64 ta, .int .i64 tb, .int .i64 tc, .int .i64 td] 39)) lo n cap ps ls ∧ TermAt (w.alloc (.cells #[.bool tg, .slice tno tnn tnc, .slice teo ten tec, .int .i64 ta, .int .i64 tb, .int .i64 tc, .int .i64 td] 39)) ⟨tg, tno, tnn, tnc, teo, ten, tec, ta, tb, tc, td⟩ t ∧ (∀ s ∈ ls, MayT s) ∧ MayT t ∧ Below w.heap.size w (w.alloc (.cells #[.bool tg, .slice tno tnn tnc, .slice teo ten tec, .int .i64 ta, .int .i64 tb, .int .i64 tc, .int .i64 td] 39)) ∧ MBx (w.alloc (.cells #[.bool tg, .slice tno tnn tnc, .slice teo ten tec, .int .i64 ta, .int .i64 tb, .int .i64 tc, .int .i64 td] 39)) w.heap.size ⟨tg, tno, tnn, tnc, teo, ten, tec, ta, tb, tc, td⟩ ∧ n ≤ 1000000) :=
    ⟨h.below b1, ht.below b1, hm, hmt, b1, MBx.new w ⟨tg, tno, tnn, tnc, teo, ten, tec, ta, tb, tc, td⟩, hn⟩
  clear h ht hm hmt b1
  have hmk : ∀ wx, (Instr.makeSlice 23 (.int .i64 (n : Int)) (.int .i64 (n : Int))).run Tryz.prog wx = .ok (.slice (some ⟨wx.heap.size, 0, none⟩) n n) (wx.alloc (.cells (madeCells (Value.agg #[.bool false, .slice none 0 0, .slice none 0 0, .int .i64 0, .int .i64 0, .int .i64 0, .int .i64 0]).cells (n * 7)) 39)) := fun wx => by
    have hr := run_makeSlice (P := Tryz.prog) (w := wx) 23 39 i0 _ Tryz.underlying23 hi0 hz0 .i64 .i64 n n (by omega) (Int.le_refl _) (by rw [hz1]; omega) (by rw [hz2]; omega) (by omega)
    simp only [Int.toNat_natCast, hz1] at hr
    exact hr
  go_enter Tryz.func49, Tryz.ntmps49
  go_wp2_with fail
  by_cases hz : t.c.top = 0
  · refine (zeroR_b _ _ _ _ _ _ _ t.c _ H.out.2.1.rat H.out.2.2.2.1.c true (yes_iff hz)).mono ?_
    rintro e w1 ⟨rfl, q1⟩
    have H1 : Hid (Below w.heap.size w w1 ∧ t.c.top = 0) := ⟨chain H.out.2.2.2.2.1 q1, hz⟩
    clear q1 hz hmk
    go_wp2_with fail
    go_ret2
    exact ⟨none, 0, 0, [], [], 0, rfl, PolyAt.nil _, ⟨fun _ => ⟨rfl, rfl⟩, fun h => absurd H1.out.2 h⟩, H1.out.1⟩
  · refine (zeroR_b _ _ _ _ _ _ _ t.c _ H.out.2.1.rat H.out.2.2.2.1.c false (no_iff hz)).mono ?_
    rintro e w1 ⟨rfl, q1⟩
    have H1 : Hid (Below w.heap.size w w1 ∧ t.c.top ≠ 0 ∧ PolyAt w1 lo n cap ps ls ∧ TermAt w1 ⟨tg, tno, tnn, tnc, teo, ten, tec, ta, tb, tc, td⟩ t ∧ MBx w1 w.heap.size ⟨tg, tno, tnn, tnc, teo, ten, tec, ta, tb, tc, td⟩) := ⟨chain H.out.2.2.2.2.1 q1, hz, H.out.1.below q1, H.out.2.1.below q1, H.out.2.2.2.2.2.1.below q1⟩
    clear q1 hz
    have S0 : Hid (TmSt w1 (w1.alloc (.cells (madeCells (Value.agg #[.bool false, .slice none 0 0, .slice none 0 0, .int .i64 0, .int .i64 0, .int .i64 0, .int .i64 0]).cells (n * 7)) 39)) n t ls 0 [] []) :=
      ⟨bel1 _ _, by simpa using terms_zero w1 n (by have := H.out.2.2.2.2.2.2; unfold maxLen; omega), rfl, rfl, fun rest k hr hk => by
        by_cases e : k = 0
        · rw [if_pos e]; exact hr
        · rw [if_neg e, ← hk e]; exact hr⟩
    generalize madeCells (Value.agg #[.bool false, .slice none 0 0, .slice none 0 0, .int .i64 0, .int .i64 0, .int .i64 0, .int .i64 0]).cells (n * 7) = Z at hmk S0
    go_wp2_with fail
    clear hmk
    go_loopg [20] n (fun m i wr => ∃ (j : Nat) (qs : List TP) (ms : List TL), j ≤ n ∧ n - j ≤ m ∧ i = .int .i64 j ∧ Hid (TmSt w1 wr n t ls j qs ms))
    case atStart => exact ⟨0, [], [], Nat.zero_le _, by omega, rfl, S0.out⟩
    case round =>
      obtain ⟨j, qs, ms, hj, hjr, rfl, hT⟩ := hrel
      by_cases h0 : j < n
      · obtain ⟨bk, off, p, x, rfl, hpj, hxj, hat, hel, hblt⟩ := (H1.out.2.2.1.below hT.out.bel).elem h0
        have hjn : (j : Int) < (n : Int) := by omega
        have hj0 : (0 : Int) ≤ (j : Int) := by omega
        obtain ⟨neg, no, nn, nc, eo, en, ec, pa, pb, pc, pd⟩ := p
        obtain ⟨e0, e1, e2, e3, e4, e5, e6⟩ := hel
        dsimp only at e0 e1 e2 e3 e4 e5 e6
        have c2 := bel1 wr (.cells #[.bool neg, .slice no nn nc, .slice eo en ec, .int .i64 pa, .int .i64 pb, .int .i64 pc, .int .i64 pd] 39)
        have tbx := (H1.out.2.2.2.2.below hT.out.bel).below c2
        obtain ⟨t0, t1, t2, _, _, _, _⟩ := tbx.el
        dsimp only at t0 t1 t2
        have HJ : Hid (j < n ∧ n - j ≤ _ ∧ ls[j]? = some x ∧ TermAt (wr.alloc (.cells #[.bool neg, .slice no nn nc, .slice eo en ec, .int .i64 pa, .int .i64 pb, .int .i64 pc, .int .i64 pd] 39)) ⟨neg, no, nn, nc, eo, en, ec, pa, pb, pc, pd⟩ x ∧ MBx (wr.alloc (.cells #[.bool neg, .slice no nn nc, .slice eo en ec, .int .i64 pa, .int .i64 pb, .int .i64 pc, .int .i64 pd] 39)) wr.heap.size ⟨neg, no, nn, nc, eo, en, ec, pa, pb, pc, pd⟩ ∧ MBx (wr.alloc (.cells #[.bool neg, .slice no nn nc, .slice eo en ec, .int .i64 pa, .int .i64 pb, .int .i64 pc, .int .i64 pd] 39)) w.heap.size ⟨tg, tno, tnn, tnc, teo, ten, tec, ta, tb, tc, td⟩ ∧ TermAt (wr.alloc (.cells #[.bool neg, .slice no nn nc, .slice eo en ec, .int .i64 pa, .int .i64 pb, .int .i64 pc, .int .i64 pd] 39)) ⟨tg, tno, tnn, tnc, teo, ten, tec, ta, tb, tc, td⟩ t ∧ TmSt w1 (wr.alloc (.cells #[.bool neg, .slice no nn nc, .slice eo en ec, .int .i64 pa, .int .i64 pb, .int .i64 pc, .int .i64 pd] 39)) n t ls j qs ms ∧ MayT x) :=
          ⟨h0, hjr, hxj, hat.below c2, MBx.new wr ⟨neg, no, nn, nc, eo, en, ec, pa, pb, pc, pd⟩, tbx, ((H1.out.2.2.2.1.below hT.out.bel).below c2), hT.out.below c2, H.out.2.2.1 x (List.mem_of_getElem? hxj)⟩
        clear hpj hxj hat hblt hj hjr h0 c2 tbx
        go_wp2_with fail
        refine (rmul_r _ _ _ _ _ _ _ _ _ _ _ _ _ _ x.c t.c _ HJ.out.2.2.2.1.rat HJ.out.2.2.2.2.2.2.1.rat HJ.out.2.2.2.1.neg HJ.out.2.2.2.2.2.2.1.neg).mono ?_
        rintro e w3 ⟨xg, xo, xn, xc, xeo, xen, xec, r, k, rfl, q1, q2, q3, q4⟩
        have q5 := chain q4 (bel1 w3 (.cells #[.bool xg, .slice xo xn xc, .slice xeo xen xec] 35))
        have B2 : Hid (Below w.heap.size w (w3.alloc (.cells #[.bool xg, .slice xo xn xc, .slice xeo xen xec] 35)) ∧ Below _ _ (w3.alloc (.cells #[.bool xg, .slice xo xn xc, .slice xeo xen xec] 35))) := ⟨(H1.out.1.trans ((HJ.out.2.2.2.2.2.2.2.1.bel.mono H1.out.1.size).trans (q5.mono (Nat.le_trans H1.out.1.size HJ.out.2.2.2.2.2.2.2.1.bel.size)))), q5⟩
        by_cases hk : k = 0
        · subst hk
          obtain ⟨⟨ma, mb, mc, md⟩, i, hmu⟩ := MulM.ex x.m t.m
          have HMu : Hid (Mn.MulIs pa pb pc pd ta tb tc td ma mb mc md i ∧ MulM x.m t.m ⟨ma, mb, mc, md⟩ i) := by
            refine ⟨?_, hmu⟩
            have h := hmu
            rw [HJ.out.2.2.2.1.mo, HJ.out.2.2.2.2.2.2.1.mo] at h
            exact h
          have p4 := HJ.out.2.2.2.2.1.below q5
          have u4 := HJ.out.2.2.2.2.2.1.below q5
          obtain ⟨_, _, _, p3, p4', p5, p6⟩ := p4.el
          obtain ⟨_, _, _, u3, u4', u5, u6⟩ := u4.el
          dsimp only at p3 p4' p5 p6 u3 u4' u5 u6
          have H4 : Hid (r.neg = xg ∧ RatAt (w3.alloc (.cells #[.bool xg, .slice xo xn xc, .slice xeo xen xec] 35)) xo xn xc xeo xen xec r ∧ MulOut x.c t.c r 0 ∧ RBox (w3.alloc (.cells #[.bool xg, .slice xo xn xc, .slice xeo xen xec] 35)) w3.heap.size xg xo xn xc xeo xen xec ∧ TmSt w1 (w3.alloc (.cells #[.bool xg, .slice xo xn xc, .slice xeo xen xec] 35)) n t ls j qs ms) := ⟨q1, q2.below (bel1 _ _), q3, RBox.new w3 xg xo xn xc xeo xen xec, HJ.out.2.2.2.2.2.2.2.1.below q5⟩
          clear q1 q2 q3 q4 q5 hmu p4 u4 e0 e1 e2 e3 e4 e5 e6 t0 t1 t2
          go_wp2_with fail
          refine (Mn.mul_is _ _ _ _ _ _ _ _ _ _ _ _ _ _ HMu.out.1).mono ?_
          rintro e w5 ⟨rfl, b5⟩
          have b6 := chain b5 (bel1 w5 (.cells #[.int .i64 ma, .int .i64 mb, .int .i64 mc, .int .i64 md] 37))
          by_cases hi : i = 0
          · subst hi
            have rx := H4.out.2.2.2.1.below b6
            have mx := Mn.MBox.new w5 ma mb mc md
            have r0 := rx.c0
            have r1 := rx.c1
            have r2 := rx.c2
            have m0 := mx.c0
            have m1 := mx.c1
            have m2 := mx.c2
            have m3 := mx.c3
            have T6 := H4.out.2.2.2.2.below b6
            obtain ⟨⟨z0, z1, z2, z3, z4, z5, z6⟩, fz⟩ := T6.cells HJ.out.1
            dsimp only [zp] at z0 z1 z2 z3 z4 z5 z6
            have f0 := fz (j * 7)
            have f1 := fz (j * 7 + 1)
            have f2 := fz (j * 7 + 2)
            have f3 := fz (j * 7 + 3)
            have f4 := fz (j * 7 + 4)
            have f5 := fz (j * 7 + 5)
            have f6 := fz (j * 7 + 6)
            have H6 : Hid (TmSt w1 (setAt (w5.alloc (.cells #[.int .i64 ma, .int .i64 mb, .int .i64 mc, .int .i64 md] 37)) w1.heap.size (j * 7) ⟨xg, xo, xn, xc, xeo, xen, xec, ma, mb, mc, md⟩) n t ls (j + 1) (qs ++ [⟨xg, xo, xn, xc, xeo, xen, xec, ma, mb, mc, md⟩]) (ms ++ [⟨r, ⟨ma, mb, mc, md⟩⟩])) := T6.step HJ.out.1 HJ.out.2.2.1 H4.out.2.2.1 HMu.out.2 ⟨H4.out.2.1.below b6, H4.out.1, rfl⟩
            clear b5 b6 rx mx T6 fz p3 p4' p5 p6 u3 u4' u5 u6
            go_wp2_with fail
            go_roundg (n - (j + 1))
            case measure => have := HJ.out.1; have := HJ.out.2.1; omega
            case rel => exact ⟨j + 1, _, _, by have := HJ.out.1; omega, Nat.le_refl _, by go_num, H6.out⟩
          · have HI : Hid (i ≠ 0 ∧ Below w.heap.size w (w5.alloc (.cells #[.int .i64 ma, .int .i64 mb, .int .i64 mc, .int .i64 md] 37))) := ⟨hi, chain B2.out.1 b6⟩
            clear b5 b6 p3 p4' p5 p6 u3 u4' u5 u6
            go_wp2_with fail
            go_ret2
            exact ⟨none, 0, 0, [], [], i, rfl, PolyAt.nil _, ⟨fun e => absurd e H1.out.2.1, fun _ => HJ.out.2.2.2.2.2.2.2.1.stop HJ.out.2.2.1 (TimesL.stopM H4.out.2.2.1 HMu.out.2 HI.out.1) HI.out.1⟩, HI.out.2⟩
        · have HK : Hid (k ≠ 0 ∧ MulOut x.c t.c r k) := ⟨hk, q3⟩
          clear q1 q2 q3 q4 q5 e0 e1 e2 e3 e4 e5 e6 t0 t1 t2
          go_wp2_with fail
          go_ret2
          exact ⟨none, 0, 0, [], [], k, rfl, PolyAt.nil _, ⟨fun e => absurd e H1.out.2.1, fun _ => HJ.out.2.2.2.2.2.2.2.1.stop HJ.out.2.2.1 (TimesL.stopR HK.out.2 HK.out.1) HK.out.1⟩, B2.out.1⟩
      · have hjn : j = n := by omega
        subst hjn
        clear hj hjr h0
        have hf : qs ++ List.replicate (j - j) zp = qs := by simp
        have hg : ms ++ List.replicate (j - j) zt = ms := by simp
        have ho := hT.out.own
        rw [hf, hg] at ho
        obtain ⟨lo2, cap2, ev, hpa, _⟩ := ho.poly
        simp only [Value.slice.injEq] at ev
        obtain ⟨v1, v2, v3⟩ := ev
        subst v1 v3
        rw [← v2] at hpa
        have hok := hT.out.ok [] 0 (by rw [List.drop_of_length_le (by rw [H1.out.2.2.1.len]; exact Nat.le_refl _)]; exact ⟨rfl, rfl⟩) (fun _ => rfl)
        rw [if_pos rfl, List.append_nil] at hok
        have HQ : Hid (PolyAt wr (some ⟨w1.heap.size, 0, none⟩) j j qs ms ∧ TimesL t ls ms 0 ∧ Below w.heap.size w wr) := ⟨hpa, hok, H1.out.1.trans (hT.out.bel.mono H1.out.1.size)⟩
        clear hf hg ho hpa hok v2
        go_wp2_with fail
        go_ret2
        exact ⟨_, _, _, qs, ms, 0, rfl, HQ.out.1, ⟨fun e => absurd e H1.out.2.1, fun _ => HQ.out.2.1⟩, HQ.out.2.2⟩
end Go.Proofs.YtbdldijgcmgfaaaGreat

/-! Times: the program's. -/
namespace Go.Proofs.YtbdldijgcmgfaaaGreat
open Go.RowKit

set_option maxRecDepth 100000 in
set_option maxHeartbeats 2000000 in
theorem timesP_b (o : Int) (lo : Option Addr) (n cap : Nat) (ps : List TP) (ls : List TL) (tp : TP) (t : TL) (w : World) (h : PolyAt w lo n cap ps ls) (ht : TermAt w tp t) (hn : n ≤ 1000000) :
    Calls Tryz.prog 20 #[.int .i64 o, .slice lo n cap, .agg #[.bool tp.neg, .slice tp.no tp.nn tp.nc, .slice tp.eo tp.en tp.ec, .int .i64 tp.a, .int .i64 tp.b, .int .i64 tp.c, .int .i64 tp.d]] w fun e w' =>
      ∃ lo' n' cap' qs ms k, e = .returned (.tuple #[.slice lo' n' cap', .int .i64 k]) ∧ PolyAt w' lo' n' cap' qs ms ∧ TimesIs o ls t ms k ∧ Below w.heap.size w w' := by
  obtain ⟨tg, tno, tnn, tnc, teo, ten, tec, ta, tb, tc, td⟩ := tp
  dsimp only
  have b1 := bel1 w (.cells #[.bool tg, .slice tno tnn tnc, .slice teo ten tec, .int .i64 ta, .int .i64 tb, .int .i64 tc, .int .i64 td] 39)
  have H : Hid (PolyAt (w.alloc (.cells #[.bool tg, .slice tno tnn tnc, .slice teo ten tec, .int .i64 ta, .int .i64 tb, .int .i64 tc, .int .i64 td] 39)) lo n cap ps ls ∧ TermAt (w.alloc (.cells #[.bool tg, .slice tno tnn tnc, .slice teo ten tec, .int .i64 ta, .int .i64 tb, .int .i64 tc, .int .i64 td] 39)) ⟨tg, tno, tnn, tnc, teo, ten, tec, ta, tb, tc, td⟩ t ∧ Below w.heap.size w (w.alloc (.cells #[.bool tg, .slice tno tnn tnc, .slice teo ten tec, .int .i64 ta, .int .i64 tb, .int .i64 tc, .int .i64 td] 39)) ∧ MBx (w.alloc (.cells #[.bool tg, .slice tno tnn tnc, .slice teo ten tec, .int .i64 ta, .int .i64 tb, .int .i64 tc, .int .i64 td] 39)) w.heap.size ⟨tg, tno, tnn, tnc, teo, ten, tec, ta, tb, tc, td⟩ ∧ n ≤ 1000000) := ⟨h.below b1, ht.below b1, b1, MBx.new w ⟨tg, tno, tnn, tnc, teo, ten, tec, ta, tb, tc, td⟩, hn⟩
  clear h ht b1
  go_enter Tryz.func20, Tryz.ntmps20
  go_wp2_with fail
  by_cases hp : MayP o ls
  · refine (may_b o _ _ _ _ _ _ H.out.1 true (yes_iff hp)).mono ?_
    rintro e w1 ⟨rfl, q1⟩
    have H1 : Hid (MayP o ls ∧ PolyAt w1 lo n cap ps ls ∧ TermAt w1 ⟨tg, tno, tnn, tnc, teo, ten, tec, ta, tb, tc, td⟩ t ∧ Below w.heap.size w w1 ∧ MBx w1 w.heap.size ⟨tg, tno, tnn, tnc, teo, ten, tec, ta, tb, tc, td⟩) := ⟨hp, H.out.1.below q1, H.out.2.1.below q1, chain H.out.2.2.1 q1, H.out.2.2.2.1.below q1⟩
    obtain ⟨c0, c1, c2, c3, c4, c5, c6⟩ := H1.out.2.2.2.2.el
    dsimp only at c0 c1 c2 c3 c4 c5 c6
    clear q1 hp
    by_cases hm : MayT t
    · have HM : Hid (MayT t) := hm
      clear hm
      go_wp2_with fail
      refine (termMay_b _ t true _ H1.out.2.2.1 (yes_iff HM.out)).mono ?_
      rintro e w2 ⟨rfl, q2⟩
      have H2 : Hid (PolyAt w2 lo n cap ps ls ∧ TermAt w2 ⟨tg, tno, tnn, tnc, teo, ten, tec, ta, tb, tc, td⟩ t ∧ Below w.heap.size w w2 ∧ MBx w2 w.heap.size ⟨tg, tno, tnn, tnc, teo, ten, tec, ta, tb, tc, td⟩) := ⟨H1.out.2.1.below q2, H1.out.2.2.1.below q2, chain H1.out.2.2.2.1 q2, H1.out.2.2.2.2.below q2⟩
      obtain ⟨d0, d1, d2, d3, d4, d5, d6⟩ := H2.out.2.2.2.el
      dsimp only at d0 d1 d2 d3 d4 d5 d6
      clear q2 c0 c1 c2 c3 c4 c5 c6
      go_wp2_with fail
      refine (times_b _ _ _ _ _ _ t _ H2.out.1 H2.out.2.1 H1.out.1.may HM.out H.out.2.2.2.2).mono ?_
      rintro e w3 ⟨lo3, n3, cap3, qs, ms, k, rfl, q1, q2, q3⟩
      have H3 : Hid (PolyAt w3 lo3 n3 cap3 qs ms ∧ TimT ls t ms k ∧ Below w.heap.size w w3) := ⟨q1, q2, chain H2.out.2.2.1 q3⟩
      clear q1 q2 q3 d0 d1 d2 d3 d4 d5 d6
      go_wp2_with fail
      go_ret2
      exact ⟨lo3, n3, cap3, qs, ms, k, rfl, H3.out.1, ⟨fun e => absurd ⟨H1.out.1, HM.out⟩ e, fun _ => H3.out.2.1⟩, H3.out.2.2⟩
    · have HM : Hid (¬ MayT t) := hm
      clear hm
      go_wp2_with fail
      refine (termMay_b _ t false _ H1.out.2.2.1 (no_iff HM.out)).mono ?_
      rintro e w2 ⟨rfl, q2⟩
      have H2 : Hid (Below w.heap.size w w2) := chain H1.out.2.2.2.1 q2
      clear q2 c0 c1 c2 c3 c4 c5 c6
      go_wp2_with fail
      go_ret2
      exact ⟨none, 0, 0, [], [], 1, rfl, PolyAt.nil _, ⟨fun _ => ⟨rfl, rfl⟩, fun e => absurd e.2 HM.out⟩, H2.out⟩
  · refine (may_b o _ _ _ _ _ _ H.out.1 false (no_iff hp)).mono ?_
    rintro e w1 ⟨rfl, q1⟩
    have H1 : Hid (¬ MayP o ls ∧ Below w.heap.size w w1) := ⟨hp, chain H.out.2.2.1 q1⟩
    clear q1 hp
    go_wp2_with fail
    go_ret2
    exact ⟨none, 0, 0, [], [], 1, rfl, PolyAt.nil _, ⟨fun _ => ⟨rfl, rfl⟩, fun e => absurd e.1 H1.out.1⟩, H1.out.2⟩
end Go.Proofs.YtbdldijgcmgfaaaGreat

/-! Monic: the program's. -/
namespace Go.Proofs.YtbdldijgcmgfaaaGreat
open Go.RowKit

set_option maxRecDepth 100000 in
set_option maxHeartbeats 2000000 in
theorem monic_b (o : Int) (lo : Option Addr) (n cap : Nat) (ps : List TP) (ls : List TL) (w : World) (h : PolyAt w lo n cap ps ls) (hn : n ≤ 1000000) :
    Calls Tryz.prog 24 #[.int .i64 o, .slice lo n cap] w fun e w' => ∃ lo' n' cap' qs ms k, e = .returned (.tuple #[.slice lo' n' cap', .int .i64 k]) ∧ PolyAt w' lo' n' cap' qs ms ∧ MonicIs o ls ms k ∧ Below w.heap.size w w' := by
  have hN := h.most'
  have H : Hid (PolyAt w lo n cap ps ls ∧ n ≤ 1000000) := ⟨h, hn⟩
  clear h
  go_enter Tryz.func24, Tryz.ntmps24
  go_wp2_with fail
  by_cases hp : MayP o ls
  · refine (may_b o _ _ _ _ _ _ H.out.1 true (yes_iff hp)).mono ?_
    rintro e w1 ⟨rfl, q1⟩
    have H1 : Hid (MayP o ls ∧ PolyAt w1 lo n cap ps ls ∧ Below w.heap.size w w1) := ⟨hp, H.out.1.below q1, q1⟩
    clear q1 hp
    by_cases h0 : n = 0
    · subst h0
      have hl : ls = [] := List.length_eq_zero_iff.1 H1.out.2.1.len
      have HL : Hid (ls = []) := hl
      clear hl
      go_wp2_with fail
      go_ret2
      exact ⟨none, 0, 0, [], [], 0, rfl, PolyAt.nil _, ⟨fun e => absurd H1.out.1 e, fun _ _ => ⟨rfl, rfl⟩, fun _ t l e => by rw [HL.out] at e; cases e⟩, H1.out.2.2⟩
    · have hn0 : ¬ (n : Int) = 0 := by omega
      have hnp : (0 : Int) < (n : Int) := by omega
      have hnn : 0 < n := by omega
      obtain ⟨bk, off, p, x, rfl, hpj, hxj, hat, hel, hblt⟩ := H1.out.2.1.elem hnn
      obtain ⟨neg, no, nn, nc, eo, en, ec, pa, pb, pc, pd⟩ := p
      obtain ⟨e0, e1, e2, _, _, _, _⟩ := hel
      dsimp only at e0 e1 e2
      rw [Nat.zero_mul, Nat.add_zero] at e0 e1 e2
      have hx : MayR x.c ∧ x.c.top ≠ 0 := ⟨(H1.out.1.may x (List.mem_of_getElem? hxj)).c, H1.out.1.nz x (List.mem_of_getElem? hxj)⟩
      have HX : Hid (TermAt w1 ⟨neg, no, nn, nc, eo, en, ec, pa, pb, pc, pd⟩ x ∧ MayR x.c ∧ x.c.top ≠ 0 ∧ ls[0]? = some x ∧ MayT ⟨x.c.inv, mo0⟩) := ⟨hat, hx.1, hx.2, hxj, ((Is.self hx.1 hat.rat.lim).inv hx.2).may, Mn.may_zero⟩
      clear hpj hxj hat hblt hx
      go_wp2_with fail
      refine (inv_r _ _ _ _ _ _ _ x.c _ HX.out.1.rat HX.out.1.neg HX.out.2.1 HX.out.2.2.1).mono ?_
      rintro e w2 ⟨yg, yo, yn, yc, yeo, yen, yec, rfl, q1, q2, q3⟩
      have q4 := chain q3 (bel1 w2 (.cells #[.bool yg, .slice yo yn yc, .slice yeo yen yec] 35))
      have H2 : Hid (PolyAt (w2.alloc (.cells #[.bool yg, .slice yo yn yc, .slice yeo yen yec] 35)) (some ⟨bk, off, none⟩) n cap ps ls ∧ TermAt (w2.alloc (.cells #[.bool yg, .slice yo yn yc, .slice yeo yen yec] 35)) ⟨yg, yo, yn, yc, yeo, yen, yec, 0, 0, 0, 0⟩ ⟨x.c.inv, mo0⟩ ∧ Below w.heap.size w (w2.alloc (.cells #[.bool yg, .slice yo yn yc, .slice yeo yen yec] 35))) := ⟨H1.out.2.1.below q4, ⟨q2.below (bel1 _ _), q1, rfl⟩, chain H1.out.2.2 q4⟩
      clear q1 q2 q3 q4 e0 e1 e2
      go_wp2_with fail
      refine (times_b _ _ _ _ _ ⟨yg, yo, yn, yc, yeo, yen, yec, 0, 0, 0, 0⟩ ⟨x.c.inv, mo0⟩ _ H2.out.1 H2.out.2.1 H1.out.1.may HX.out.2.2.2.2 H.out.2).mono ?_
      rintro e w3 ⟨lo3, n3, cap3, qs, ms, k, rfl, q1, q2, q3⟩
      have H3 : Hid (PolyAt w3 lo3 n3 cap3 qs ms ∧ TimT ls ⟨x.c.inv, mo0⟩ ms k ∧ Below w.heap.size w w3) := ⟨q1, q2, chain H2.out.2.2 q3⟩
      clear q1 q2 q3
      go_wp2_with fail
      go_ret2
      have hmo : MonicIs o ls ms k := by
        refine ⟨fun e => absurd H1.out.1 e, fun _ e => ?_, fun _ t l e => ?_⟩
        · have h := HX.out.2.2.2.1
          rw [e] at h
          cases h
        · have h := HX.out.2.2.2.1
          rw [e] at h
          have h2 : t = x := by injection h
          rw [h2]
          exact H3.out.2.1
      exact ⟨lo3, n3, cap3, qs, ms, k, rfl, H3.out.1, hmo, H3.out.2.2⟩
  · refine (may_b o _ _ _ _ _ _ H.out.1 false (no_iff hp)).mono ?_
    rintro e w1 ⟨rfl, q1⟩
    have H1 : Hid (¬ MayP o ls ∧ Below w.heap.size w w1) := ⟨hp, q1⟩
    clear q1 hp
    go_wp2_with fail
    go_ret2
    exact ⟨none, 0, 0, [], [], 1, rfl, PolyAt.nil _, ⟨fun _ => ⟨rfl, rfl⟩, fun e => absurd e H1.out.1, fun e => absurd e H1.out.1⟩, H1.out.2⟩
end Go.Proofs.YtbdldijgcmgfaaaGreat

/-! Times: the reference's. -/
namespace Go.Proofs.YtbdldijgcmgfaaaGreat
open Go.RowKit

/-- The reference's products so far. -/
structure RTm (w1 wr : World) (v : Value) (t : TL) (ls : List TL) (j : Nat) (qs : List TP) (ms : List TL) : Prop where
  bel : Below w1.heap.size w1 wr
  own : TermsOwn wr w1.heap.size v qs ms
  len : qs.length = j
  ok : ∀ rest k, TimesL t (ls.drop j) rest k → (k ≠ 0 → rest = []) → TimesL t ls (if k = 0 then ms ++ rest else []) k

theorem RTm.below {w1 wr w' : World} {v : Value} {t : TL} {ls : List TL} {j : Nat} {qs : List TP} {ms : List TL} (h : RTm w1 wr v t ls j qs ms) (hb : Below wr.heap.size wr w') : RTm w1 w' v t ls j qs ms := ⟨chain h.bel hb, h.own.below hb, h.len, h.ok⟩
theorem RTm.start {w1 : World} {t : TL} {ls : List TL} : RTm w1 (w1.alloc (.cells #[] 39)) (.slice (some ⟨w1.heap.size, 0, none⟩) 0 0) t ls 0 [] [] := ⟨bel1 _ _, TermsOwn.made w1 _ (Nat.le_refl _), rfl, fun rest k hr hk => by
  by_cases e : k = 0
  · rw [if_pos e]; exact hr
  · rw [if_neg e, ← hk e]; exact hr⟩
theorem RTm.put {w1 wr w' : World} {v v' : Value} {t x : TL} {ls : List TL} {j : Nat} {qs : List TP} {ms : List TL} {p : TP} {c : RatL} {m : Mo} (h : RTm w1 wr v t ls j qs ms) (hx : ls[j]? = some x) (hc : MulOut x.c t.c c 0) (hm : MulM x.m t.m m 0) (hp : TermAt wr p ⟨c, m⟩) (ho : OwnS w' w1.heap.size 39 7 v' (j + 1) (tcells qs ++ p.cs)) (hg : wr.grownBy w' v.ownBlock) :
    RTm w1 w' v' t ls (j + 1) (qs ++ [p]) (ms ++ [⟨c, m⟩]) := by
  refine ⟨h.bel.grown hg h.bel.size (fun k hk => (h.own.own.row.lt k hk).1), h.own.put1 hp h.len ho hg, by simp [h.len], fun rest k hr hk => ?_⟩
  have h2 := h.ok (if k = 0 then ⟨c, m⟩ :: rest else []) k (by rw [drop_at2 ls j x hx]; exact TimesL.step hc hm hr) (fun e => by rw [if_neg e])
  by_cases e : k = 0
  · subst e
    simpa using h2
  · rw [if_neg e] at h2 ⊢
    exact h2
theorem RTm.stop {w1 wr : World} {v : Value} {t x : TL} {ls : List TL} {j : Nat} {qs : List TP} {ms : List TL} {k : Int} (h : RTm w1 wr v t ls j qs ms) (hx : ls[j]? = some x) (hs : TimesL t (x :: ls.drop (j + 1)) [] k) (hk : k ≠ 0) : TimesL t ls [] k := by
  have := h.ok [] k (by rw [drop_at2 ls j x hx]; exact hs) (fun _ => rfl)
  rwa [if_neg hk] at this

set_option maxRecDepth 100000 in
set_option maxHeartbeats 4000000 in
theorem rtimesP_b (o : Int) (lo : Option Addr) (n cap : Nat) (ps : List TP) (ls : List TL) (tp : TP) (t : TL) (w : World) (h : PolyAt w lo n cap ps ls) (ht : TermAt w tp t) :
    Calls Tryz.prog 21 #[.int .i64 o, .slice lo n cap, .agg #[.bool tp.neg, .slice tp.no tp.nn tp.nc, .slice tp.eo tp.en tp.ec, .int .i64 tp.a, .int .i64 tp.b, .int .i64 tp.c, .int .i64 tp.d]] w fun e w' =>
      ∃ lo' n' cap' qs ms k, e = .returned (.tuple #[.slice lo' n' cap', .int .i64 k]) ∧ PolyAt w' lo' n' cap' qs ms ∧ TimesIs o ls t ms k ∧ Below w.heap.size w w' := by
  obtain ⟨i0, hi0, hz0, hz1, hz2⟩ := info_parts info39
  obtain ⟨tg, tno, tnn, tnc, teo, ten, tec, ta, tb, tc, td⟩ := tp
  dsimp only
  have hN := h.most'
  have b1 := bel1 w (.cells #[.bool tg, .slice tno tnn tnc, .slice teo ten tec, .int .i64 ta, .int .i64 tb, .int .i64 tc, .int .i64 td] 39)
  have H : Hid (PolyAt (w.alloc (.cells #[.bool tg, .slice tno tnn tnc, .slice teo ten tec, .int .i64 ta, .int .i64 tb, .int .i64 tc, .int .i64 td] 39)) lo n cap ps ls ∧ TermAt (w.alloc (.cells #[.bool tg, .slice tno tnn tnc, .slice teo ten tec, .int .i64 ta, .int .i64 tb, .int .i64 tc, .int .i64 td] 39)) ⟨tg, tno, tnn, tnc, teo, ten, tec, ta, tb, tc, td⟩ t ∧ Below w.heap.size w (w.alloc (.cells #[.bool tg, .slice tno tnn tnc, .slice teo ten tec, .int .i64 ta, .int .i64 tb, .int .i64 tc, .int .i64 td] 39)) ∧ MBx (w.alloc (.cells #[.bool tg, .slice tno tnn tnc, .slice teo ten tec, .int .i64 ta, .int .i64 tb, .int .i64 tc, .int .i64 td] 39)) w.heap.size ⟨tg, tno, tnn, tnc, teo, ten, tec, ta, tb, tc, td⟩) := ⟨h.below b1, ht.below b1, b1, MBx.new w ⟨tg, tno, tnn, tnc, teo, ten, tec, ta, tb, tc, td⟩⟩
  clear h ht b1
  go_enter Tryz.func21, Tryz.ntmps21
  go_wp2_with fail
  by_cases hp : MayP o ls
  · refine (rmay_b o _ _ _ _ _ _ H.out.1 true (yes_iff hp)).mono ?_
    rintro e w1 ⟨rfl, q1⟩
    have H1 : Hid (MayP o ls ∧ PolyAt w1 lo n cap ps ls ∧ TermAt w1 ⟨tg, tno, tnn, tnc, teo, ten, tec, ta, tb, tc, td⟩ t ∧ Below w.heap.size w w1 ∧ MBx w1 w.heap.size ⟨tg, tno, tnn, tnc, teo, ten, tec, ta, tb, tc, td⟩) := ⟨hp, H.out.1.below q1, H.out.2.1.below q1, chain H.out.2.2.1 q1, H.out.2.2.2.below q1⟩
    have c0 : w1.cell? ⟨w.heap.size, 0, none⟩ = some (.bool tg) := H1.out.2.2.2.2.el.1
    have c1 : w1.cell? ⟨w.heap.size, 1, none⟩ = some (.slice tno tnn tnc) := H1.out.2.2.2.2.el.2.1
    have c2 : w1.cell? ⟨w.heap.size, 2, none⟩ = some (.slice teo ten tec) := H1.out.2.2.2.2.el.2.2.1
    clear q1 hp
    by_cases hr : MayR t.c
    · have HR : Hid (MayR t.c) := hr
      clear hr
      go_wp2_with fail
      refine (rrmay_r _ _ _ _ _ _ _ t.c _ H1.out.2.2.1.rat H1.out.2.2.1.neg true (yes_iff HR.out)).mono ?_
      rintro e w2 ⟨rfl, q2⟩
      have H2 : Hid (PolyAt w2 lo n cap ps ls ∧ TermAt w2 ⟨tg, tno, tnn, tnc, teo, ten, tec, ta, tb, tc, td⟩ t ∧ Below w.heap.size w w2 ∧ MBx w2 w.heap.size ⟨tg, tno, tnn, tnc, teo, ten, tec, ta, tb, tc, td⟩) := ⟨H1.out.2.1.below q2, H1.out.2.2.1.below q2, chain H1.out.2.2.2.1 q2, H1.out.2.2.2.2.below q2⟩
      have c3 : w2.cell? ⟨w.heap.size, 3, none⟩ = some (.int .i64 ta) := H2.out.2.2.2.el.2.2.2.1
      have c4 : w2.cell? ⟨w.heap.size, 4, none⟩ = some (.int .i64 tb) := H2.out.2.2.2.el.2.2.2.2.1
      have c5 : w2.cell? ⟨w.heap.size, 5, none⟩ = some (.int .i64 tc) := H2.out.2.2.2.el.2.2.2.2.2.1
      have c6 : w2.cell? ⟨w.heap.size, 6, none⟩ = some (.int .i64 td) := H2.out.2.2.2.el.2.2.2.2.2.2
      clear q2 c0 c1 c2
      by_cases hm : Mn.May4 ta tb tc td
      · have HM : Hid (Mn.May4 ta tb tc td) := hm
        clear hm
        have HT : Hid (MayT t) := ⟨HR.out, H1.out.2.2.1.may4.2 HM.out⟩
        go_wp2_with fail
        refine (Mn.rmay_yes _ _ _ _ _ HM.out).mono ?_
        rintro e w3 ⟨rfl, q3⟩
        have H3a : Hid (PolyAt w3 lo n cap ps ls ∧ TermAt w3 ⟨tg, tno, tnn, tnc, teo, ten, tec, ta, tb, tc, td⟩ t ∧ Below w.heap.size w w3 ∧ MBx w3 w.heap.size ⟨tg, tno, tnn, tnc, teo, ten, tec, ta, tb, tc, td⟩) := ⟨H2.out.1.below q3, H2.out.2.1.below q3, chain H2.out.2.2.1 q3, H2.out.2.2.2.below q3⟩
        clear q3 c3 c4 c5 c6
        have c3 := bel1 w3 (.cells #[] 39)
        have H3 : Hid (PolyAt (w3.alloc (.cells #[] 39)) lo n cap ps ls ∧ TermAt (w3.alloc (.cells #[] 39)) ⟨tg, tno, tnn, tnc, teo, ten, tec, ta, tb, tc, td⟩ t ∧ Below w.heap.size w (w3.alloc (.cells #[] 39)) ∧ MBx (w3.alloc (.cells #[] 39)) w.heap.size ⟨tg, tno, tnn, tnc, teo, ten, tec, ta, tb, tc, td⟩) := ⟨H3a.out.1.below c3, H3a.out.2.1.below c3, chain H3a.out.2.2.1 c3, H3a.out.2.2.2.below c3⟩
        clear c3
        have c0 : (w3.alloc (.cells #[] 39)).cell? ⟨w.heap.size, 0, none⟩ = some (.bool tg) := H3.out.2.2.2.el.1
        have c1 : (w3.alloc (.cells #[] 39)).cell? ⟨w.heap.size, 1, none⟩ = some (.slice tno tnn tnc) := H3.out.2.2.2.el.2.1
        have c2 : (w3.alloc (.cells #[] 39)).cell? ⟨w.heap.size, 2, none⟩ = some (.slice teo ten tec) := H3.out.2.2.2.el.2.2.1
        go_wp2_with fail
        by_cases hz : t.c.top = 0
        · refine (rzeroR_b _ _ _ _ _ _ _ t.c _ H3.out.2.1.rat HR.out true (yes_iff hz)).mono ?_
          rintro e w4 ⟨rfl, q4⟩
          have hk := PolyAt.below (PolyAt.made' w3) q4
          have H4 : Hid (Below w.heap.size w w4 ∧ t.c.top = 0 ∧ PolyAt w4 (some ⟨w3.heap.size, 0, none⟩) 0 0 [] []) := ⟨chain H3.out.2.2.1 q4, hz, hk⟩
          clear q4 hz hk c0 c1 c2
          go_wp2_with fail
          go_ret2
          exact ⟨_, 0, 0, [], [], 0, rfl, H4.out.2.2, ⟨fun e => absurd ⟨H1.out.1, HT.out⟩ e, fun _ => ⟨fun _ => ⟨rfl, rfl⟩, fun h => absurd H4.out.2.1 h⟩⟩, H4.out.1⟩
        · refine (rzeroR_b _ _ _ _ _ _ _ t.c _ H3.out.2.1.rat HR.out false (no_iff hz)).mono ?_
          rintro e w4 ⟨rfl, q4⟩
          have H4 : Hid (t.c.top ≠ 0 ∧ RTm w3 w4 (.slice (some ⟨w3.heap.size, 0, none⟩) 0 0) t ls 0 [] []) := ⟨hz, RTm.start.below q4⟩
          clear q4 hz c0 c1 c2
          go_wp2_with fail
          go_loopg [8, 9] n (fun m vv i wr => ∃ (j : Nat) (qs : List TP) (ms : List TL), j ≤ n ∧ n - j ≤ m ∧ i = .int .i64 j ∧ Hid (RTm w3 wr vv t ls j qs ms))
          case atStart => exact ⟨0, [], [], Nat.zero_le _, by omega, rfl, H4.out.2⟩
          case round =>
            obtain ⟨j, qs, ms, hj, hjr, rfl, hT⟩ := hrel
            by_cases h0 : j < n
            · obtain ⟨bk, off, p, x, rfl, hpj, hxj, hat, hel, hblt⟩ := (H3a.out.1.below hT.out.bel).elem h0
              obtain ⟨lov, capv, rfl, _⟩ := hT.out.own.poly
              have hjn : (j : Int) < (n : Int) := by omega
              have hj0 : (0 : Int) ≤ (j : Int) := by omega
              obtain ⟨neg, no, nn, nc, eo, en, ec, pa, pb, pc, pd⟩ := p
              rename World => wr
              have HE : Hid (ElemAt wr bk (off + j * 7) ⟨neg, no, nn, nc, eo, en, ec, pa, pb, pc, pd⟩ ∧ bk < wr.heap.size) := ⟨hel, hblt⟩
              have HJ : Hid (j < n ∧ n - j ≤ _ ∧ ls[j]? = some x ∧ TermAt wr ⟨neg, no, nn, nc, eo, en, ec, pa, pb, pc, pd⟩ x ∧ MBx wr w.heap.size ⟨tg, tno, tnn, tnc, teo, ten, tec, ta, tb, tc, td⟩ ∧ TermAt wr ⟨tg, tno, tnn, tnc, teo, ten, tec, ta, tb, tc, td⟩ t ∧ MayT x ∧ (n : Int) ≤ 60) :=
                ⟨h0, hjr, hxj, hat, H3a.out.2.2.2.below hT.out.bel, H3a.out.2.1.below hT.out.bel, H1.out.1.may x (List.mem_of_getElem? hxj), by have := H1.out.1.len; have := H1.out.2.1.len; omega⟩
              have hZ := bel1 wr (.cells #[.bool false, .slice none 0 0, .slice none 0 0] 35)
              have hEZ := HE.out.1.below HE.out.2 hZ
              have hBZ := HJ.out.2.2.2.2.1.below hZ
              have e0 : wr.cell? ⟨bk, off + j * 7, none⟩ = some (.bool neg) := HE.out.1.c0
              have e1 : wr.cell? ⟨bk, off + j * 7 + 1, none⟩ = some (.slice no nn nc) := HE.out.1.c1
              have e2 : wr.cell? ⟨bk, off + j * 7 + 2, none⟩ = some (.slice eo en ec) := HE.out.1.c2
              have k0 : (wr.alloc (.cells #[.bool false, .slice none 0 0, .slice none 0 0] 35)).cell? ⟨bk, off + j * 7, none⟩ = some (.bool neg) := hEZ.c0
              have k1 : (wr.alloc (.cells #[.bool false, .slice none 0 0, .slice none 0 0] 35)).cell? ⟨bk, off + j * 7 + 1, none⟩ = some (.slice no nn nc) := hEZ.c1
              have k2 : (wr.alloc (.cells #[.bool false, .slice none 0 0, .slice none 0 0] 35)).cell? ⟨bk, off + j * 7 + 2, none⟩ = some (.slice eo en ec) := hEZ.c2
              have c0 : wr.cell? ⟨w.heap.size, 0, none⟩ = some (.bool tg) := HJ.out.2.2.2.2.1.el.1
              have c1 : wr.cell? ⟨w.heap.size, 1, none⟩ = some (.slice tno tnn tnc) := HJ.out.2.2.2.2.1.el.2.1
              have c2 : wr.cell? ⟨w.heap.size, 2, none⟩ = some (.slice teo ten tec) := HJ.out.2.2.2.2.1.el.2.2.1
              have d0 : (wr.alloc (.cells #[.bool false, .slice none 0 0, .slice none 0 0] 35)).cell? ⟨w.heap.size, 0, none⟩ = some (.bool tg) := hBZ.el.1
              have d1 : (wr.alloc (.cells #[.bool false, .slice none 0 0, .slice none 0 0] 35)).cell? ⟨w.heap.size, 1, none⟩ = some (.slice tno tnn tnc) := hBZ.el.2.1
              have d2 : (wr.alloc (.cells #[.bool false, .slice none 0 0, .slice none 0 0] 35)).cell? ⟨w.heap.size, 2, none⟩ = some (.slice teo ten tec) := hBZ.el.2.2.1
              clear hpj hxj hat hel hblt hj hjr h0 hZ hEZ hBZ
              go_upto_region 9 with fail
              go_cut [10, 11] from 35 to 74 (fun s6 s7 wx => ∃ X xg xo xn xc xeo xen xec r k, s6 = .pointer (some ⟨X, 0, none⟩) ∧ s7 = .int .i64 k ∧ Hid (RBox wx X xg xo xn xc xeo xen xec ∧ RatAt wx xo xn xc xeo xen xec r ∧ r.neg = xg ∧ MulOut x.c t.c r k ∧ Below wr.heap.size wr wx))
              case first =>
                go_region_with (go_at_call 50; refine (rrmul_r neg no nn nc eo en ec tg tno tnn tnc teo ten tec x.c t.c _ (HJ.out.2.2.2.1.rat.below (by first | exact (Below.refl _ _).drew | exact ((Below.refl _ _).alloc (Nat.le_refl _) _).drew)) (HJ.out.2.2.2.2.2.1.rat.below (by first | exact (Below.refl _ _).drew | exact ((Below.refl _ _).alloc (Nat.le_refl _) _).drew)) HJ.out.2.2.2.1.neg HJ.out.2.2.2.2.2.1.neg).mono ?_; rintro e w5 ⟨xg, xo, xn, xc, xeo, xen, xec, r, k, rfl, q1, q2, q3, q4⟩; try (have bz := RBox.below (W := (wr.alloc (.cells #[.bool false, .slice none 0 0, .slice none 0 0] 35)).drew) (RBox.new wr false none 0 0 none 0 0) q4; have z0 := bz.c0; have z1 := bz.c1; have z2 := bz.c2; have g0 := bz.f 0; have g1 := bz.f 1; have g2 := bz.f 2))
                all_goals
                  go_wp2_with fail
                  go_meet
                  first
                    | exact ⟨_, xg, xo, xn, xc, xeo, xen, xec, r, k, rfl, rfl, RBox.new w5 _ _ _ _ _ _ _, q2.below ((Below.refl _ _).alloc (Nat.le_refl _) _), q1, q3, (chain (Below.refl wr.heap.size wr).drew q4).alloc (chain (Below.refl wr.heap.size wr).drew q4).size _⟩
                    | exact ⟨_, xg, xo, xn, xc, xeo, xen, xec, r, k, rfl, rfl, bz.set xg xo xn xc xeo xen xec, q2.setR bz _ _ _, q1, q3, below_set (chain ((Below.refl wr.heap.size wr).alloc (Nat.le_refl _) _).drew q4) (Nat.le_refl _) _ _ _⟩
              case rest =>
                rename World => wx
                obtain ⟨X, xg, xo, xn, xc, xeo, xen, xec, r, k, rfl, rfl, hX⟩ := hcut
                clear e0 e1 e2 k0 k1 k2 c0 c1 c2 d0 d1 d2
                by_cases hk : k = 0
                · subst hk
                  obtain ⟨⟨ma, mb, mc, md⟩, i, hmu⟩ := MulM.ex x.m t.m
                  have HMu : Hid (Mn.MulIs pa pb pc pd ta tb tc td ma mb mc md i ∧ MulM x.m t.m ⟨ma, mb, mc, md⟩ i) := by
                    refine ⟨?_, hmu⟩
                    have h := hmu
                    rw [HJ.out.2.2.2.1.mo, HJ.out.2.2.2.2.2.1.mo] at h
                    exact h
                  have hE2 := HE.out.1.below HE.out.2 hX.out.2.2.2.2
                  have hlt2 := Nat.lt_of_lt_of_le HE.out.2 hX.out.2.2.2.2.size
                  have hB2 := HJ.out.2.2.2.2.1.below hX.out.2.2.2.2
                  have hZ := bel1 wx (.cells #[.int .i64 0, .int .i64 0, .int .i64 0, .int .i64 0] 37)
                  have hE3 := hE2.below hlt2 hZ
                  have hB3 := hB2.below hZ
                  have e3 : wx.cell? ⟨bk, off + j * 7 + 3, none⟩ = some (.int .i64 pa) := hE2.c3
                  have e4 : wx.cell? ⟨bk, off + j * 7 + 3 + 1, none⟩ = some (.int .i64 pb) := hE2.c4
                  have e5 : wx.cell? ⟨bk, off + j * 7 + 3 + 2, none⟩ = some (.int .i64 pc) := hE2.c5
                  have e6 : wx.cell? ⟨bk, off + j * 7 + 3 + 3, none⟩ = some (.int .i64 pd) := hE2.c6
                  have k3 : (wx.alloc (.cells #[.int .i64 0, .int .i64 0, .int .i64 0, .int .i64 0] 37)).cell? ⟨bk, off + j * 7 + 3, none⟩ = some (.int .i64 pa) := hE3.c3
                  have k4 : (wx.alloc (.cells #[.int .i64 0, .int .i64 0, .int .i64 0, .int .i64 0] 37)).cell? ⟨bk, off + j * 7 + 3 + 1, none⟩ = some (.int .i64 pb) := hE3.c4
                  have k5 : (wx.alloc (.cells #[.int .i64 0, .int .i64 0, .int .i64 0, .int .i64 0] 37)).cell? ⟨bk, off + j * 7 + 3 + 2, none⟩ = some (.int .i64 pc) := hE3.c5
                  have k6 : (wx.alloc (.cells #[.int .i64 0, .int .i64 0, .int .i64 0, .int .i64 0] 37)).cell? ⟨bk, off + j * 7 + 3 + 3, none⟩ = some (.int .i64 pd) := hE3.c6
                  have c3 : wx.cell? ⟨w.heap.size, 3, none⟩ = some (.int .i64 ta) := hB2.el.2.2.2.1
                  have c4 : wx.cell? ⟨w.heap.size, 4, none⟩ = some (.int .i64 tb) := hB2.el.2.2.2.2.1
                  have c5 : wx.cell? ⟨w.heap.size, 5, none⟩ = some (.int .i64 tc) := hB2.el.2.2.2.2.2.1
                  have c6 : wx.cell? ⟨w.heap.size, 6, none⟩ = some (.int .i64 td) := hB2.el.2.2.2.2.2.2
                  have d3 : (wx.alloc (.cells #[.int .i64 0, .int .i64 0, .int .i64 0, .int .i64 0] 37)).cell? ⟨w.heap.size, 3, none⟩ = some (.int .i64 ta) := hB3.el.2.2.2.1
                  have d4 : (wx.alloc (.cells #[.int .i64 0, .int .i64 0, .int .i64 0, .int .i64 0] 37)).cell? ⟨w.heap.size, 4, none⟩ = some (.int .i64 tb) := hB3.el.2.2.2.2.1
                  have d5 : (wx.alloc (.cells #[.int .i64 0, .int .i64 0, .int .i64 0, .int .i64 0] 37)).cell? ⟨w.heap.size, 5, none⟩ = some (.int .i64 tc) := hB3.el.2.2.2.2.2.1
                  have d6 : (wx.alloc (.cells #[.int .i64 0, .int .i64 0, .int .i64 0, .int .i64 0] 37)).cell? ⟨w.heap.size, 6, none⟩ = some (.int .i64 td) := hB3.el.2.2.2.2.2.2
                  have HX : Hid (X < wx.heap.size) := hX.out.1.lt
                  clear hmu hE2 hlt2 hB2 hZ hE3 hB3
                  go_upto_region 12 with fail
                  go_cut [12, 13] from 35 to 74 (fun s6 s7 wy => ∃ Y, s6 = .pointer (some ⟨Y, 0, none⟩) ∧ s7 = .int .i64 i ∧ Hid (Mn.MBox wy Y ma mb mc md ∧ Below wx.heap.size wx wy))
                  case first =>
                    go_region_with (go_at_call 51; refine (Mn.rmul_is _ _ _ _ _ _ _ _ _ _ _ _ _ _ HMu.out.1).mono ?_; rintro e w5 ⟨rfl, q4⟩; try (have bz := Mn.MBox.below (W := (wx.alloc (.cells #[.int .i64 0, .int .i64 0, .int .i64 0, .int .i64 0] 37)).drew) (Mn.MBox.new wx 0 0 0 0) q4; have z0 := bz.c0; have z1 := bz.c1; have z2 := bz.c2; have z3 := bz.c3; have g0 := bz.f 0; have g1 := bz.f 1; have g2 := bz.f 2; have g3 := bz.f 3))
                    all_goals
                      go_wp2_with fail
                      go_meet
                      first
                        | exact ⟨_, rfl, rfl, bz.set ma mb mc md, ((((chain ((Below.refl wx.heap.size wx).alloc (Nat.le_refl _) _).drew q4).setCell (Nat.le_refl _) _).setCell (Nat.le_refl _) _).setCell (Nat.le_refl _) _).setCell (Nat.le_refl _) _⟩
                        | exact ⟨_, rfl, rfl, Mn.MBox.new w5 _ _ _ _, (chain (Below.refl wx.heap.size wx).drew q4).alloc (chain (Below.refl wx.heap.size wx).drew q4).size _⟩
                  case rest =>
                    rename World => wy
                    obtain ⟨Y, rfl, rfl, hY⟩ := hcut
                    clear e3 e4 e5 e6 k3 k4 k5 k6 c3 c4 c5 c6 d3 d4 d5 d6
                    have bY : Hid (Below wr.heap.size wr wy) := chain hX.out.2.2.2.2 hY.out.2
                    by_cases hi : i = 0
                    · subst hi
                      have rx := hX.out.1.below hY.out.2
                      have x0 := rx.c0
                      have x1 := rx.c1
                      have x2 := rx.c2
                      have y0 := hY.out.1.c0
                      have y1 := hY.out.1.c1
                      have y2 := hY.out.1.c2
                      have y3 := hY.out.1.c3
                      have bZ := bel1 wy (.cells #[.bool xg, .slice xo xn xc, .slice xeo xen xec, .int .i64 ma, .int .i64 mb, .int .i64 mc, .int .i64 md] 39)
                      have H6 : Hid (RTm w3 (wy.alloc (.cells #[.bool xg, .slice xo xn xc, .slice xeo xen xec, .int .i64 ma, .int .i64 mb, .int .i64 mc, .int .i64 md] 39)) (.slice lov qs.length capv) t ls j qs ms ∧ TermAt (wy.alloc (.cells #[.bool xg, .slice xo xn xc, .slice xeo xen xec, .int .i64 ma, .int .i64 mb, .int .i64 mc, .int .i64 md] 39)) ⟨xg, xo, xn, xc, xeo, xen, xec, ma, mb, mc, md⟩ ⟨r, ⟨ma, mb, mc, md⟩⟩) := ⟨hT.out.below (chain bY.out bZ), ⟨(hX.out.2.1.below hY.out.2).below bZ, hX.out.2.2.1, rfl⟩⟩
                      have HK : Hid (qs.length + 1 ≤ 1000000 ∧ w3.heap.size ≤ (wy.alloc (.cells #[.bool xg, .slice xo xn xc, .slice xeo xen xec, .int .i64 ma, .int .i64 mb, .int .i64 mc, .int .i64 md] 39)).heap.size) := ⟨by rw [hT.out.len]; have := HJ.out.1; have := HJ.out.2.2.2.2.2.2.2; omega, H6.out.1.bel.size⟩
                      clear rx bZ
                      go_wp2_with (at_builtin; refine wpList_append_put _ rfl _ _ _ rfl _ 39 i0 _ 7 88 Tryz.underlying23 hi0 hz0 hz1 hz2 rfl (by omega) zero39 _ qs.length (tcells qs) rfl H6.out.1.own.own ⟨wy.heap.size, 0, none⟩ 1 1 (TP.cs (⟨xg, xo, xn, xc, xeo, xen, xec, ma, mb, mc, md⟩ : TP)) rfl rfl (World.news_of_block (heap_alloc_new wy _)) (TP.cs_one (⟨xg, xo, xn, xc, xeo, xen, xec, ma, mb, mc, md⟩ : TP)) (TP.cs_clean (⟨xg, xo, xn, xc, xeo, xen, xec, ma, mb, mc, md⟩ : TP)) (by omega) (by have := HK.out.1; unfold maxLen; omega) (by have := HK.out.1; omega) HK.out.2 ?_)
                      intro g4 c4 w6 o4 k4
                      rw [hT.out.len] at o4
                      have H7 : Hid (RTm w3 w6 (.slice (some ⟨g4, 0, none⟩) (j + 1) c4) t ls (j + 1) (qs ++ [⟨xg, xo, xn, xc, xeo, xen, xec, ma, mb, mc, md⟩]) (ms ++ [⟨r, ⟨ma, mb, mc, md⟩⟩])) := H6.out.1.put HJ.out.2.2.1 hX.out.2.2.2.1 HMu.out.2 H6.out.2 o4 k4
                      rw [hT.out.len]
                      clear o4 k4 x0 x1 x2 y0 y1 y2 y3
                      go_wp2_with fail
                      go_roundg (n - (j + 1))
                      case measure => have := HJ.out.1; have := HJ.out.2.1; omega
                      case rel => exact ⟨j + 1, _, _, by have := HJ.out.1; omega, Nat.le_refl _, by go_num, H7.out⟩
                    · have HI : Hid (i ≠ 0) := hi
                      go_wp2_with fail
                      go_ret2
                      exact ⟨none, 0, 0, [], [], i, rfl, PolyAt.nil _, ⟨fun e => absurd ⟨H1.out.1, HT.out⟩ e, fun _ => ⟨fun e => absurd e H4.out.1, fun _ => hT.out.stop HJ.out.2.2.1 (TimesL.stopM hX.out.2.2.2.1 HMu.out.2 HI.out) HI.out⟩⟩, H3a.out.2.2.1.trans ((hT.out.bel.mono H3a.out.2.2.1.size).trans (bY.out.mono (Nat.le_trans H3a.out.2.2.1.size hT.out.bel.size)))⟩
                · have HK : Hid (k ≠ 0) := hk
                  go_wp2_with fail
                  go_ret2
                  exact ⟨none, 0, 0, [], [], k, rfl, PolyAt.nil _, ⟨fun e => absurd ⟨H1.out.1, HT.out⟩ e, fun _ => ⟨fun e => absurd e H4.out.1, fun _ => hT.out.stop HJ.out.2.2.1 (TimesL.stopR hX.out.2.2.2.1 HK.out) HK.out⟩⟩, H3a.out.2.2.1.trans ((hT.out.bel.mono H3a.out.2.2.1.size).trans (hX.out.2.2.2.2.mono (Nat.le_trans H3a.out.2.2.1.size hT.out.bel.size)))⟩
            · have hjn : j = n := by omega
              subst hjn
              clear hj hjr h0
              obtain ⟨lo2, cap2, rfl, hpa, _⟩ := hT.out.own.poly
              have hok := hT.out.ok [] 0 (by rw [List.drop_of_length_le (by rw [H1.out.2.1.len]; exact Nat.le_refl _)]; exact ⟨rfl, rfl⟩) (fun _ => rfl)
              rw [if_pos rfl, List.append_nil] at hok
              have HQ : Hid (PolyAt _ lo2 qs.length cap2 qs ms ∧ TimesL t ls ms 0 ∧ Below w.heap.size w _) := ⟨hpa, hok, H3a.out.2.2.1.trans (hT.out.bel.mono H3a.out.2.2.1.size)⟩
              clear hpa hok
              go_wp2_with fail
              go_ret2
              exact ⟨_, _, _, qs, ms, 0, rfl, HQ.out.1, ⟨fun e => absurd ⟨H1.out.1, HT.out⟩ e, fun _ => ⟨fun e => absurd e H4.out.1, fun _ => HQ.out.2.1⟩⟩, HQ.out.2.2⟩
      · have HM : Hid (¬ Mn.May4 ta tb tc td) := hm
        clear hm
        go_wp2_with fail
        refine (Mn.rmay_no _ _ _ _ _ HM.out).mono ?_
        rintro e w3 ⟨rfl, q3⟩
        have H3 : Hid (Below w.heap.size w w3) := chain H2.out.2.2.1 q3
        clear q3 c3 c4 c5 c6
        go_wp2_with fail
        go_ret2
        exact ⟨none, 0, 0, [], [], 1, rfl, PolyAt.nil _, ⟨fun _ => ⟨rfl, rfl⟩, fun e => absurd (H1.out.2.2.1.may4.1 e.2.m) HM.out⟩, H3.out⟩
    · have HR : Hid (¬ MayR t.c) := hr
      clear hr
      go_wp2_with fail
      refine (rrmay_r _ _ _ _ _ _ _ t.c _ H1.out.2.2.1.rat H1.out.2.2.1.neg false (no_iff HR.out)).mono ?_
      rintro e w2 ⟨rfl, q2⟩
      have H2 : Hid (Below w.heap.size w w2) := chain H1.out.2.2.2.1 q2
      clear q2 c0 c1 c2
      go_wp2_with fail
      go_ret2
      exact ⟨none, 0, 0, [], [], 1, rfl, PolyAt.nil _, ⟨fun _ => ⟨rfl, rfl⟩, fun e => absurd e.2.c HR.out⟩, H2.out⟩
  · refine (rmay_b o _ _ _ _ _ _ H.out.1 false (no_iff hp)).mono ?_
    rintro e w1 ⟨rfl, q1⟩
    have H1 : Hid (¬ MayP o ls ∧ Below w.heap.size w w1) := ⟨hp, chain H.out.2.2.1 q1⟩
    clear q1 hp
    go_wp2_with fail
    go_ret2
    exact ⟨none, 0, 0, [], [], 1, rfl, PolyAt.nil _, ⟨fun _ => ⟨rfl, rfl⟩, fun e => absurd e.1 H1.out.1⟩, H1.out.2⟩
end Go.Proofs.YtbdldijgcmgfaaaGreat

/-! Monic: the reference's. -/
namespace Go.Proofs.YtbdldijgcmgfaaaGreat
open Go.RowKit

set_option maxRecDepth 100000 in
set_option maxHeartbeats 4000000 in
theorem rmonic_b (o : Int) (lo : Option Addr) (n cap : Nat) (ps : List TP) (ls : List TL) (w : World) (h : PolyAt w lo n cap ps ls) :
    Calls Tryz.prog 25 #[.int .i64 o, .slice lo n cap] w fun e w' => ∃ lo' n' cap' qs ms k, e = .returned (.tuple #[.slice lo' n' cap', .int .i64 k]) ∧ PolyAt w' lo' n' cap' qs ms ∧ MonicIs o ls ms k ∧ Below w.heap.size w w' := by
  have hN := h.most'
  have H : Hid (PolyAt w lo n cap ps ls) := h
  clear h
  go_enter Tryz.func25, Tryz.ntmps25
  go_wp2_with fail
  by_cases hp : MayP o ls
  · refine (rmay_b o _ _ _ _ _ _ H.out true (yes_iff hp)).mono ?_
    rintro e w1 ⟨rfl, q1⟩
    have H1 : Hid (MayP o ls ∧ PolyAt w1 lo n cap ps ls ∧ Below w.heap.size w w1) := ⟨hp, H.out.below q1, q1⟩
    clear q1 hp
    by_cases h0 : n = 0
    · subst h0
      have hl : ls = [] := List.length_eq_zero_iff.1 H1.out.2.1.len
      have HL : Hid (ls = []) := hl
      clear hl
      go_wp2_with fail
      go_ret2
      exact ⟨lo, 0, cap, ps, ls, 0, rfl, H1.out.2.1, ⟨fun e => absurd H1.out.1 e, fun _ _ => ⟨HL.out, rfl⟩, fun _ t l e => by rw [HL.out] at e; cases e⟩, H1.out.2.2⟩
    · have hn0 : ¬ (n : Int) = 0 := by omega
      have hnp : (0 : Int) < (n : Int) := by omega
      have hnn : 0 < n := by omega
      obtain ⟨bk, off, p, x, rfl, hpj, hxj, hat, hel, hblt⟩ := H1.out.2.1.elem hnn
      obtain ⟨neg, no, nn, nc, eo, en, ec, pa, pb, pc, pd⟩ := p
      obtain ⟨e0, e1, e2, _, _, _, _⟩ := hel
      dsimp only at e0 e1 e2
      rw [Nat.zero_mul, Nat.add_zero] at e0 e1 e2
      have hx : MayR x.c ∧ x.c.top ≠ 0 := ⟨(H1.out.1.may x (List.mem_of_getElem? hxj)).c, H1.out.1.nz x (List.mem_of_getElem? hxj)⟩
      have HX : Hid (TermAt w1 ⟨neg, no, nn, nc, eo, en, ec, pa, pb, pc, pd⟩ x ∧ MayR x.c ∧ x.c.top ≠ 0 ∧ ls[0]? = some x ∧ MayT ⟨x.c.inv, mo0⟩) := ⟨hat, hx.1, hx.2, hxj, ((Is.self hx.1 hat.rat.lim).inv hx.2).may, Mn.may_zero⟩
      clear hpj hxj hat hblt hx
      go_wp2_with fail
      refine (rinv_r _ _ _ _ _ _ _ x.c _ HX.out.1.rat HX.out.1.neg HX.out.2.1 HX.out.2.2.1).mono ?_
      rintro e w2 ⟨yg, yo, yn, yc, yeo, yen, yec, rfl, q1, q2, q3⟩
      have q4 := chain q3 (bel1 w2 (.cells #[.bool yg, .slice yo yn yc, .slice yeo yen yec] 35))
      have H2 : Hid (PolyAt (w2.alloc (.cells #[.bool yg, .slice yo yn yc, .slice yeo yen yec] 35)) (some ⟨bk, off, none⟩) n cap ps ls ∧ TermAt (w2.alloc (.cells #[.bool yg, .slice yo yn yc, .slice yeo yen yec] 35)) ⟨yg, yo, yn, yc, yeo, yen, yec, 0, 0, 0, 0⟩ ⟨x.c.inv, mo0⟩ ∧ Below w.heap.size w (w2.alloc (.cells #[.bool yg, .slice yo yn yc, .slice yeo yen yec] 35))) := ⟨H1.out.2.1.below q4, ⟨q2.below (bel1 _ _), q1, rfl⟩, chain H1.out.2.2 q4⟩
      clear q1 q2 q3 q4 e0 e1 e2
      go_wp2_with fail
      refine (rtimesP_b o _ _ _ _ _ ⟨yg, yo, yn, yc, yeo, yen, yec, 0, 0, 0, 0⟩ ⟨x.c.inv, mo0⟩ _ H2.out.1 H2.out.2.1).mono ?_
      rintro e w3 ⟨lo3, n3, cap3, qs, ms, k, rfl, q1, q2, q3⟩
      have H3 : Hid (PolyAt w3 lo3 n3 cap3 qs ms ∧ TimT ls ⟨x.c.inv, mo0⟩ ms k ∧ Below w.heap.size w w3) := ⟨q1, q2.ok ⟨H1.out.1, HX.out.2.2.2.2⟩, chain H2.out.2.2 q3⟩
      clear q1 q2 q3
      go_wp2_with fail
      go_ret2
      have hmo : MonicIs o ls ms k := by
        refine ⟨fun e => absurd H1.out.1 e, fun _ e => ?_, fun _ t l e => ?_⟩
        · have h := HX.out.2.2.2.1
          rw [e] at h
          cases h
        · have h := HX.out.2.2.2.1
          rw [e] at h
          have h2 : t = x := by injection h
          rw [h2]
          exact H3.out.2.1
      exact ⟨lo3, n3, cap3, qs, ms, k, rfl, H3.out.1, hmo, H3.out.2.2⟩
  · refine (rmay_b o _ _ _ _ _ _ H.out false (no_iff hp)).mono ?_
    rintro e w1 ⟨rfl, q1⟩
    have H1 : Hid (¬ MayP o ls ∧ Below w.heap.size w w1) := ⟨hp, q1⟩
    clear q1 hp
    go_wp2_with fail
    go_ret2
    exact ⟨none, 0, 0, [], [], 1, rfl, PolyAt.nil _, ⟨fun _ => ⟨rfl, rfl⟩, fun e => absurd e H1.out.1, fun e => absurd e H1.out.1⟩, H1.out.2⟩
end Go.Proofs.YtbdldijgcmgfaaaGreat
