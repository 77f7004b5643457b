/-
  The walk of the law of the leading term.
-/
import Derived.Test.YtbdldijgcmgfaaaGreatLeadW
import Derived.RegionTactic
import Derived.BigQuiet
namespace Go.Proofs.YtbdldijgcmgfaaaGreat
open Go.RowKit

/-- A box of four slices. -/
def SBx2 (W : World) (B : Nat) (a0 : Option Addr) (a1 a2 : Nat) (b0 : Option Addr) (b1 b2 : Nat) (c0 : Option Addr) (c1 c2 : Nat) (d0 : Option Addr) (d1 d2 : Nat) : Prop := W.heap[B]? = some (.cells #[.slice a0 a1 a2, .slice b0 b1 b2, .slice c0 c1 c2, .slice d0 d1 d2] 62 (0, 0))
theorem SBx2.cs {W : World} {B : Nat} {a0 : Option Addr} {a1 a2 : Nat} {b0 : Option Addr} {b1 b2 : Nat} {c0 : Option Addr} {c1 c2 : Nat} {d0 : Option Addr} {d1 d2 : Nat} (h : SBx2 W B a0 a1 a2 b0 b1 b2 c0 c1 c2 d0 d1 d2) : W.cell? ⟨B, 0, none⟩ = some (.slice a0 a1 a2) ∧ W.cell? ⟨B, 1, none⟩ = some (.slice b0 b1 b2) ∧ W.cell? ⟨B, 2, none⟩ = some (.slice c0 c1 c2) ∧ W.cell? ⟨B, 3, none⟩ = some (.slice d0 d1 d2) := by
  refine ⟨?_, ?_, ?_, ?_⟩ <;> simp [World.cell?, show W.heap[B]? = _ from h]
theorem SBx2.below {W W' : World} {B : Nat} {a0 : Option Addr} {a1 a2 : Nat} {b0 : Option Addr} {b1 b2 : Nat} {c0 : Option Addr} {c1 c2 : Nat} {d0 : Option Addr} {d1 d2 : Nat} (h : SBx2 W B a0 a1 a2 b0 b1 b2 c0 c1 c2 d0 d1 d2) (hb : Below W.heap.size W W') : SBx2 W' B a0 a1 a2 b0 b1 b2 c0 c1 c2 d0 d1 d2 := (hb.block B (Array.getElem?_eq_some_iff.1 h).1).trans h

/-- The monomial of a row's first term. -/
structure Hd (W : World) (b o : Nat) (m : Mo) : Prop where
  lt : b < W.heap.size
  c0 : W.cell? ⟨b, o + 3, none⟩ = some (.int .i64 m.a)
  c1 : W.cell? ⟨b, o + 3 + 1, none⟩ = some (.int .i64 m.b)
  c2 : W.cell? ⟨b, o + 3 + 2, none⟩ = some (.int .i64 m.c)
  c3 : W.cell? ⟨b, o + 3 + 3, none⟩ = some (.int .i64 m.d)
theorem Hd.below {W W' : World} {b o : Nat} {m : Mo} (h : Hd W b o m) (hb : Below W.heap.size W W') : Hd W' b o m :=
  ⟨Nat.lt_of_lt_of_le h.lt hb.size, (hb.cell (p := ⟨b, o + 3, none⟩) h.lt).trans h.c0, (hb.cell (p := ⟨b, o + 3 + 1, none⟩) h.lt).trans h.c1, (hb.cell (p := ⟨b, o + 3 + 2, none⟩) h.lt).trans h.c2, (hb.cell (p := ⟨b, o + 3 + 3, none⟩) h.lt).trans h.c3⟩
theorem PolyAt.hd {W : World} {lo : Option Addr} {n cap : Nat} {ps : List TP} {t : TL} {l : List TL} (h : PolyAt W lo n cap ps (t :: l)) : ∃ b o, lo = some ⟨b, o, none⟩ ∧ 0 < n ∧ Hd W b o t.m := by
  have hn : 0 < n := by rw [← h.len]; exact Nat.zero_lt_succ _
  obtain ⟨bk, off, p, x, e, hpj, hxj, hat, hel, hblt⟩ := h.elem hn
  have hx : t = x := by simpa using hxj
  subst hx
  have hz : off + 0 * 7 = off := by omega
  rw [hz] at hel
  refine ⟨bk, off, e, hn, hblt, ?_, ?_, ?_, ?_⟩
  · rw [hat.mo]; exact hel.c3
  · rw [hat.mo]; exact hel.c4
  · rw [hat.mo]; exact hel.c5
  · rw [hat.mo]; exact hel.c6
/-- The monomials that the law's loop reads, and the one that it writes. -/
structure Ld (w w2 W : World) (pb po qb qo xb xo B : Nat) (s t y : Mo) (a b c d : Int) : Prop where
  p : Hd W pb po s
  q : Hd W qb qo t
  x : Hd W xb xo y
  o : Mn.MBox W B a b c d
  bel : Below w.heap.size w W
  bel2 : Below w2.heap.size w2 W
  old : pb < w2.heap.size ∧ qb < w2.heap.size ∧ xb < w2.heap.size ∧ B = w2.heap.size ∧ w.heap.size ≤ w2.heap.size
theorem Ld.set {w w2 W : World} {pb po qb qo xb xo B : Nat} {s t y : Mo} {a b c d a' b' c' d' : Int} (h : Ld w w2 W pb po qb qo xb xo B s t y a b c d) (k : Nat) (v : Int) (hs : Mn.MBox (W.setCell ⟨B, k, none⟩ (.int .i64 v)) B a' b' c' d') : Ld w w2 (W.setCell ⟨B, k, none⟩ (.int .i64 v)).drew pb po qb qo xb xo B s t y a' b' c' d' := by
  obtain ⟨h1, h2, h3, h4, h5⟩ := h.old
  have hd : ∀ {b o : Nat} {m : Mo}, Hd W b o m → b ≠ B → Hd (W.setCell ⟨B, k, none⟩ (.int .i64 v)) b o m := fun hh hne => by
    have hc : ∀ j, (W.setCell ⟨B, k, none⟩ (.int .i64 v)).cell? ⟨_, j, none⟩ = W.cell? ⟨_, j, none⟩ := fun j => World.cell?_of_block (a := ⟨_, j, none⟩) (Below.heap_setCell W ⟨B, k, none⟩ _ _ hne)
    exact ⟨by simpa [World.setCell] using hh.lt, (hc _).trans hh.c0, (hc _).trans hh.c1, (hc _).trans hh.c2, (hc _).trans hh.c3⟩
  have bz : Below (W.setCell ⟨B, k, none⟩ (.int .i64 v)).heap.size (W.setCell ⟨B, k, none⟩ (.int .i64 v)) (W.setCell ⟨B, k, none⟩ (.int .i64 v)).drew := (Below.refl _ _).drew
  exact ⟨(hd h.p (by omega)).below bz, (hd h.q (by omega)).below bz, (hd h.x (by omega)).below bz, hs.below bz, chain (h.bel.setCell (by show w.heap.size ≤ B; omega) _) bz, chain (h.bel2.setCell (by show w2.heap.size ≤ B; omega) _) bz, h.old⟩

set_option maxRecDepth 100000 in
set_option maxHeartbeats 16000000 in
theorem lead_walk (d : Int) (no : Option Addr) (nn nc : Nat) (mo : Option Addr) (mn mc : Nat) (no' : Option Addr) (nn' nc' : Nat) (mo' : Option Addr) (mn' mc' : Nat) (w : World) (h0 : 0 ≤ d) (h1 : d ≤ 255) (h : SmallAt w no nn mo mn) (h' : SmallAt w no' nn' mo' mn') :
    Calls Tryz.prog 8 #[.int .u8 d, .agg #[.slice no nn nc, .slice mo mn mc, .slice no' nn' nc', .slice mo' mn' mc']] w fun e w' => e = .returned (.bool true) ∧ Below w.heap.size w w' := by
  obtain ⟨o, hmod, ho⟩ := rem3_ex d h0 h1
  have b1 := bel1 w (.cells #[.slice no nn nc, .slice mo mn mc, .slice no' nn' nc', .slice mo' mn' mc'] 62)
  have H : Hid (SmallAt (w.alloc (.cells #[.slice no nn nc, .slice mo mn mc, .slice no' nn' nc', .slice mo' mn' mc'] 62)) no nn mo mn ∧ SmallAt (w.alloc (.cells #[.slice no nn nc, .slice mo mn mc, .slice no' nn' nc', .slice mo' mn' mc'] 62)) no' nn' mo' mn' ∧ SBx2 (w.alloc (.cells #[.slice no nn nc, .slice mo mn mc, .slice no' nn' nc', .slice mo' mn' mc'] 62)) w.heap.size no nn nc mo mn mc no' nn' nc' mo' mn' mc' ∧ Below w.heap.size w (w.alloc (.cells #[.slice no nn nc, .slice mo mn mc, .slice no' nn' nc', .slice mo' mn' mc'] 62)) ∧ Ord o) := ⟨h.below b1, h'.below b1, heap_alloc_new w _, b1, ho⟩
  obtain ⟨x0, x1, x2, x3⟩ := H.out.2.2.1.cs
  clear h h' b1 ho h0 h1
  go_enter Tryz.func8, Tryz.ntmps8
  go_wp2_with fail
  refine (made_b o _ _ _ _ _ _ _ H.out.2.2.2.2 H.out.1).mono ?_
  rintro e w1 ⟨po, pn, pc, ps, p, rfl, a1, a2, q0⟩
  have H1 : Hid (PolyAt w1 po pn pc ps p ∧ Made o p ∧ Below w.heap.size w w1 ∧ SmallAt w1 no' nn' mo' mn' ∧ SBx2 w1 w.heap.size no nn nc mo mn mc no' nn' nc' mo' mn' mc') := ⟨a1, a2, chain H.out.2.2.2.1 q0, H.out.2.1.below q0, H.out.2.2.1.below q0⟩
  clear a1 a2 q0 x0 x1 x2 x3
  obtain ⟨x0, x1, x2, x3⟩ := H1.out.2.2.2.2.cs
  go_wp2_with fail
  refine (made_b o _ _ _ _ _ _ _ H.out.2.2.2.2 H1.out.2.2.2.1).mono ?_
  rintro e w2 ⟨qo, qn, qc, qs, q, rfl, a1, a2, q0⟩
  have H2 : Hid (PolyAt w2 po pn pc ps p ∧ PolyAt w2 qo qn qc qs q ∧ Made o q ∧ Below w.heap.size w w2) := ⟨H1.out.1.below q0, a1, a2, chain H1.out.2.2.1 q0⟩
  clear a1 a2 q0 x0 x1 x2 x3 hmod
  go_wp2_with fail
  refine (mulP_b o _ _ _ _ _ _ _ _ _ _ _ H2.out.1 H2.out.2.1).mono ?_
  rintro e w3 ⟨xo, xn, xc, xs, x, k, rfl, a1, a2, q0⟩
  have H3 : Hid (PolyAt w3 po pn pc ps p ∧ PolyAt w3 qo qn qc qs q ∧ PolyAt w3 xo xn xc xs x ∧ Below w.heap.size w w3) := ⟨H2.out.1.below q0, H2.out.2.1.below q0, a1, chain H2.out.2.2.2 q0⟩
  rcases lead_made H.out.2.2.2.2 H1.out.2.1 H2.out.2.2.1 a2 with ⟨rfl, _⟩ | ⟨rfl, hnil, hlead⟩
  · clear a1 a2 q0
    go_wp2_with fail
    refine (shown_b _).mono ?_
    rintro e w4 ⟨rfl, q0⟩
    have H4 : Hid (Below w.heap.size w w4) := chain H3.out.2.2.2 q0
    clear q0
    go_wp2_with fail
    refine (shown_b _).mono ?_
    rintro e w5 ⟨rfl, q0⟩
    have H5 : Hid (Below w.heap.size w w5) := chain H4.out q0
    clear q0
    go_wp2_with fail
    go_ret
    exact ⟨rfl, H5.out⟩
  · have HN : Hid ((p = [] ∨ q = [] → x = []) ∧ ∀ s p' t q', p = s :: p' → q = t :: q' → ∃ y r', x = y :: r' ∧ y.m = addM s.m t.m) := ⟨hnil, hlead⟩
    have hpm := H3.out.1.most'
    have hqm := H3.out.2.1.most'
    have hxm := H3.out.2.2.1.most'
    clear a1 a2 q0 hnil hlead
    go_wp2_with fail
    refine (shown_b _).mono ?_
    rintro e w4 ⟨rfl, q0⟩
    have H4 : Hid (PolyAt w4 po pn pc ps p ∧ PolyAt w4 qo qn qc qs q ∧ PolyAt w4 xo xn xc xs x ∧ Below w.heap.size w w4) := ⟨H3.out.1.below q0, H3.out.2.1.below q0, H3.out.2.2.1.below q0, chain H3.out.2.2.2 q0⟩
    clear q0
    cases p with
    | nil =>
      have hp0 : pn = 0 := H4.out.1.len.symm
      have hx0 : x = [] := HN.out.1 (.inl rfl)
      subst hx0
      have hxn : xn = 0 := H4.out.2.2.1.len.symm
      subst hp0 hxn
      go_wp2_with fail
      go_ret
      exact ⟨rfl, H4.out.2.2.2⟩
    | cons s p' =>
      obtain ⟨pb, pf, rfl, hp0, hph⟩ := H4.out.1.hd
      cases q with
      | nil =>
        have hq0 : qn = 0 := H4.out.2.1.len.symm
        have hx0 : x = [] := HN.out.1 (.inr rfl)
        subst hx0
        have hxn : xn = 0 := H4.out.2.2.1.len.symm
        subst hq0 hxn
        have hpz : ¬ (pn : Int) = 0 := by omega
        clear hp0 hph
        go_wp2_with fail
        go_ret
        exact ⟨rfl, H4.out.2.2.2⟩
      | cons t q' =>
        obtain ⟨qb, qf, rfl, hq0, hqh⟩ := H4.out.2.1.hd
        obtain ⟨y, r', rfl, hy⟩ := HN.out.2 s p' t q' rfl rfl
        obtain ⟨xb, xf, rfl, hx0, hxh⟩ := H4.out.2.2.1.hd
        have hpz : ¬ (pn : Int) = 0 := by omega
        have hqz : ¬ (qn : Int) = 0 := by omega
        have hpz2 : (0 : Int) < (pn : Int) := by omega
        have hqz2 : (0 : Int) < (qn : Int) := by omega
        have hxz2 : (0 : Int) < (xn : Int) := by omega
        have hs := H1.out.2.1.low s (.head _)
        have ht := H2.out.2.2.1.low t (.head _)
        obtain ⟨⟨sa, sb, sc, sd⟩, hse⟩ : ∃ m, m = s.m := ⟨_, rfl⟩
        obtain ⟨⟨ta, tb, tc, td⟩, hte⟩ : ∃ m, m = t.m := ⟨_, rfl⟩
        rw [← hse] at hph hs hy
        rw [← hte] at hqh ht hy
        rw [hy] at hxh
        obtain ⟨s0, s1, s2, s3, s4, s5, s6⟩ := hs
        obtain ⟨t0, t1, t2, t3, t4, t5, t6⟩ := ht
        dsimp only at s0 s1 s2 s3 s4 s5 s6 t0 t1 t2 t3 t4 t5 t6
        have F : Hid (Ld w w4 (w4.alloc (.cells #[.int .i64 0, .int .i64 0, .int .i64 0, .int .i64 0] 37)) pb pf qb qf xb xf w4.heap.size ⟨sa, sb, sc, sd⟩ ⟨ta, tb, tc, td⟩ (addM ⟨sa, sb, sc, sd⟩ ⟨ta, tb, tc, td⟩) 0 0 0 0) :=
          ⟨hph.below (bel1 _ _), hqh.below (bel1 _ _), hxh.below (bel1 _ _), Mn.MBox.new _ _ _ _ _, chain H4.out.2.2.2 (bel1 _ _), bel1 _ _, hph.lt, hqh.lt, hxh.lt, rfl, H4.out.2.2.2.size⟩
        have ea : wrap64 (sa + ta) = sa + ta := by unfold wrap64; omega
        have eb : wrap64 (sb + tb) = sb + tb := by unfold wrap64; omega
        have ec : wrap64 (sc + tc) = sc + tc := by unfold wrap64; omega
        have ed : wrap64 (sd + td) = sd + td := by unfold wrap64; omega
        have fa : IntKind.i64.wrap (sa + ta) = sa + ta := by rw [IntKind.wrap_i64]; omega
        have fb : IntKind.i64.wrap (sb + tb) = sb + tb := by rw [IntKind.wrap_i64]; omega
        have fc : IntKind.i64.wrap (sc + tc) = sc + tc := by rw [IntKind.wrap_i64]; omega
        have fd : IntKind.i64.wrap (sd + td) = sd + td := by rw [IntKind.wrap_i64]; omega
        clear hph hqh hxh hy hse hte s0 s1 s2 s3 s4 s5 s6 t0 t1 t2 t3 t4 t5 t6
        have hpb : ((pn : Int) == 0) = false := by rw [beq_eq_false_iff_ne]; omega
        have hqb : ((qn : Int) == 0) = false := by rw [beq_eq_false_iff_ne]; omega
        go_upto_region 11 with fail
        clear hpb hqb
        obtain ⟨B, hB⟩ : ∃ B, B = w4.heap.size := ⟨_, rfl⟩
        obtain ⟨wv0, hv0⟩ : ∃ wv, wv = w4.alloc (.cells #[.int .i64 0, .int .i64 0, .int .i64 0, .int .i64 0] 37) := ⟨_, rfl⟩
        rw [← hv0, ← hB] at F
        rw [← hv0, ← hB]
        clear hv0 hB
        refine wp_loop_rounds 5 ?_
        have p0 := F.out.p.c0
        have q0 := F.out.q.c0
        have oc := F.out.o.c0
        have of := F.out.o.f 0
        dsimp only at p0 q0
        rw [rounds_succ]
        go_wp2
        go_region
        go_wp2
        have F1 : Hid (Ld w w4 (wv0.setCell ⟨B, 0, none⟩ (.int .i64 (sa + ta))).drew pb pf qb qf xb xf B ⟨sa, sb, sc, sd⟩ ⟨ta, tb, tc, td⟩ (addM ⟨sa, sb, sc, sd⟩ ⟨ta, tb, tc, td⟩) (sa + ta) 0 0 0) := F.out.set 0 (sa + ta) (F.out.o.s0 _)
        clear p0 q0 oc of F
        obtain ⟨wv1, hv⟩ : ∃ wv, wv = (wv0.setCell ⟨B, 0, none⟩ (.int .i64 (sa + ta))).drew := ⟨_, rfl⟩
        rw [← hv] at F1
        rw [← hv]
        clear hv
        have p0 := F1.out.p.c1
        have q0 := F1.out.q.c1
        have oc := F1.out.o.c1
        have of := F1.out.o.f 1
        dsimp only at p0 q0
        rw [rounds_succ]
        go_wp2
        go_region
        go_wp2
        have F2 : Hid (Ld w w4 (wv1.setCell ⟨B, 1, none⟩ (.int .i64 (sb + tb))).drew pb pf qb qf xb xf B ⟨sa, sb, sc, sd⟩ ⟨ta, tb, tc, td⟩ (addM ⟨sa, sb, sc, sd⟩ ⟨ta, tb, tc, td⟩) (sa + ta) (sb + tb) 0 0) := F1.out.set 1 (sb + tb) (F1.out.o.s1 _)
        clear p0 q0 oc of F1
        obtain ⟨wv2, hv⟩ : ∃ wv, wv = (wv1.setCell ⟨B, 1, none⟩ (.int .i64 (sb + tb))).drew := ⟨_, rfl⟩
        rw [← hv] at F2
        rw [← hv]
        clear hv
        have p0 := F2.out.p.c2
        have q0 := F2.out.q.c2
        have oc := F2.out.o.c2
        have of := F2.out.o.f 2
        dsimp only at p0 q0
        rw [rounds_succ]
        go_wp2
        go_region
        go_wp2
        have F3 : Hid (Ld w w4 (wv2.setCell ⟨B, 2, none⟩ (.int .i64 (sc + tc))).drew pb pf qb qf xb xf B ⟨sa, sb, sc, sd⟩ ⟨ta, tb, tc, td⟩ (addM ⟨sa, sb, sc, sd⟩ ⟨ta, tb, tc, td⟩) (sa + ta) (sb + tb) (sc + tc) 0) := F2.out.set 2 (sc + tc) (F2.out.o.s2 _)
        clear p0 q0 oc of F2
        obtain ⟨wv3, hv⟩ : ∃ wv, wv = (wv2.setCell ⟨B, 2, none⟩ (.int .i64 (sc + tc))).drew := ⟨_, rfl⟩
        rw [← hv] at F3
        rw [← hv]
        clear hv
        have p0 := F3.out.p.c3
        have q0 := F3.out.q.c3
        have oc := F3.out.o.c3
        have of := F3.out.o.f 3
        dsimp only at p0 q0
        rw [rounds_succ]
        go_wp2
        go_region
        go_wp2
        have F4 : Hid (Ld w w4 (wv3.setCell ⟨B, 3, none⟩ (.int .i64 (sd + td))).drew pb pf qb qf xb xf B ⟨sa, sb, sc, sd⟩ ⟨ta, tb, tc, td⟩ (addM ⟨sa, sb, sc, sd⟩ ⟨ta, tb, tc, td⟩) (sa + ta) (sb + tb) (sc + tc) (sd + td)) := F3.out.set 3 (sd + td) (F3.out.o.s3 _)
        clear p0 q0 oc of F3
        obtain ⟨wv4, hv⟩ : ∃ wv, wv = (wv3.setCell ⟨B, 3, none⟩ (.int .i64 (sd + td))).drew := ⟨_, rfl⟩
        rw [← hv] at F4
        rw [← hv]
        clear hv
        rw [rounds_succ]
        have o0 := F4.out.o.c0
        have o1 := F4.out.o.c1
        have o2 := F4.out.o.c2
        have o3 := F4.out.o.c3
        have y0 := F4.out.x.c0
        have y1 := F4.out.x.c1
        have y2 := F4.out.x.c2
        have y3 := F4.out.x.c3
        dsimp only [addM] at y0 y1 y2 y3
        have hev : ∀ W, (Op.equalIn 10000 37 (.agg #[.int .i64 (sa + ta), .int .i64 (sb + tb), .int .i64 (sc + tc), .int .i64 (sd + td)]) (.agg #[.int .i64 (sa + ta), .int .i64 (sb + tb), .int .i64 (sc + tc), .int .i64 (sd + td)])).run Tryz.prog W = .ok true W := fun W => Mn.eq_val _ _ _ _ _ _ _ _ true (Mn.eqB_self _ _ _ _) W
        have hxd : decide (0 < xn) = true := decide_eq_true hx0
        clear ea eb ec ed fa fb fc fd
        go_wp2_with fail
        go_quiet (fail)
        go_wp2_with fail
        go_ret
        exact ⟨rfl, below_drewN F4.out.bel _⟩
end Go.Proofs.YtbdldijgcmgfaaaGreat
