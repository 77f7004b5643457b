/-
  The walk of the law of the ring.
-/
import Derived.Test.YtbdldijgcmgfaaaGreatRingM
import Derived.Test.YtbdldijgcmgfaaaGreatMinusW
import Derived.Test.YtbdldijgcmgfaaaGreatPolyCameT
import Derived.Test.YtbdldijgcmgfaaaGreatJX1
import Derived.Deep.RegionHeld3
namespace Go.Proofs.YtbdldijgcmgfaaaGreat
open Go.RowKit

set_option maxRecDepth 100000 in
set_option maxHeartbeats 2000000 in
theorem addc_b (o : Int) (B : Nat) (lo : Option Addr) (m cap : Nat) (lss : List (List TL)) (w : World) (h : ListAt w lo m lss) (hs : lss.flatten.length ≤ 1000000) (hc : w.cell? ⟨B, 0, none⟩ = some (.int .i64 o)) :
    Calls Tryz.prog 27 #[.slice lo m cap, .pointer (some ⟨B, 0, none⟩)] w fun e w' => ∃ lo' n' cap' qs ms k, e = .returned (.slice lo' n' cap') ∧ PolyAt w' lo' n' cap' qs ms ∧ AddP o lss ms k ∧ Below w.heap.size w w' := by
  have H : Hid (ListAt w lo m lss ∧ lss.flatten.length ≤ 1000000) := ⟨h, hs⟩
  clear h hs
  go_enter Tryz.func27, Tryz.ntmps27
  go_wp2_with fail
  refine (add_b o _ _ _ _ _ H.out.1 H.out.2).mono ?_
  rintro e w1 ⟨lo', n', cap', qs, ms, k, rfl, q1, q2, q3⟩
  have Q : Hid (PolyAt w1 lo' n' cap' qs ms ∧ AddP o lss ms k ∧ Below w.heap.size w w1) := ⟨q1, q2, q3⟩
  clear q1 q2 q3
  go_wp2_with fail
  go_ret
  exact ⟨lo', n', cap', qs, ms, k, rfl, Q.out⟩

/-- What the law reads. -/
structure RgSt (o : Int) (w W : World) (B : Nat) (po : Option Addr) (pn pc : Nat) (ps : List TP) (p : List TL) (qo : Option Addr) (qn qc : Nat) (qs : List TP) (q : List TL) (ro : Option Addr) (rn rc : Nat) (rs : List TP) (r : List TL) : Prop where
  p : PolyAt W po pn pc ps p
  q : PolyAt W qo qn qc qs q
  r : PolyAt W ro rn rc rs r
  oc : W.cell? ⟨B, 0, none⟩ = some (.int .i64 o)
  lt : B < W.heap.size
  bel : Below w.heap.size w W
theorem RgSt.below {o : Int} {w W W' : World} {B : Nat} {po : Option Addr} {pn pc : Nat} {ps : List TP} {p : List TL} {qo : Option Addr} {qn qc : Nat} {qs : List TP} {q : List TL} {ro : Option Addr} {rn rc : Nat} {rs : List TP} {r : List TL} (h : RgSt o w W B po pn pc ps p qo qn qc qs q ro rn rc rs r) (hb : Below W.heap.size W W') : RgSt o w W' B po pn pc ps p qo qn qc qs q ro rn rc rs r :=
  ⟨h.p.below hb, h.q.below hb, h.r.below hb, (hb.cell (p := ⟨B, 0, none⟩) h.lt).trans h.oc, Nat.lt_of_lt_of_le h.lt hb.size, chain h.bel hb⟩

/-- A box of six slices. -/
def SBx3 (W : World) (B : Nat) (a0 : Option Addr) (a1 a2 : Nat) (b0 : Option Addr) (b1 b2 : Nat) (c0 : Option Addr) (c1 c2 : Nat) (d0 : Option Addr) (d1 d2 : Nat) (e0 : Option Addr) (e1 e2 : Nat) (f0 : Option Addr) (f1 f2 : Nat) : Prop := W.heap[B]? = some (.cells #[.slice a0 a1 a2, .slice b0 b1 b2, .slice c0 c1 c2, .slice d0 d1 d2, .slice e0 e1 e2, .slice f0 f1 f2] 51 (0, 0))
theorem SBx3.cs {W : World} {B : Nat} {a0 : Option Addr} {a1 a2 : Nat} {b0 : Option Addr} {b1 b2 : Nat} {c0 : Option Addr} {c1 c2 : Nat} {d0 : Option Addr} {d1 d2 : Nat} {e0 : Option Addr} {e1 e2 : Nat} {f0 : Option Addr} {f1 f2 : Nat} (h : SBx3 W B a0 a1 a2 b0 b1 b2 c0 c1 c2 d0 d1 d2 e0 e1 e2 f0 f1 f2) : W.cell? ⟨B, 0, none⟩ = some (.slice a0 a1 a2) ∧ W.cell? ⟨B, 1, none⟩ = some (.slice b0 b1 b2) ∧ W.cell? ⟨B, 2, none⟩ = some (.slice c0 c1 c2) ∧ W.cell? ⟨B, 3, none⟩ = some (.slice d0 d1 d2) ∧ W.cell? ⟨B, 4, none⟩ = some (.slice e0 e1 e2) ∧ W.cell? ⟨B, 5, none⟩ = some (.slice f0 f1 f2) := by
  refine ⟨?_, ?_, ?_, ?_, ?_, ?_⟩ <;> simp [World.cell?, show W.heap[B]? = _ from h]
theorem SBx3.below {W W' : World} {B : Nat} {a0 : Option Addr} {a1 a2 : Nat} {b0 : Option Addr} {b1 b2 : Nat} {c0 : Option Addr} {c1 c2 : Nat} {d0 : Option Addr} {d1 d2 : Nat} {e0 : Option Addr} {e1 e2 : Nat} {f0 : Option Addr} {f1 f2 : Nat} (h : SBx3 W B a0 a1 a2 b0 b1 b2 c0 c1 c2 d0 d1 d2 e0 e1 e2 f0 f1 f2) (hb : Below W.heap.size W W') : SBx3 W' B a0 a1 a2 b0 b1 b2 c0 c1 c2 d0 d1 d2 e0 e1 e2 f0 f1 f2 := (hb.block B (Array.getElem?_eq_some_iff.1 h).1).trans h

set_option maxRecDepth 100000 in
set_option maxHeartbeats 16000000 in
theorem ring_walk (d : Int) (no : Option Addr) (nn nc : Nat) (mo : Option Addr) (mn mc : Nat) (no' : Option Addr) (nn' nc' : Nat) (mo' : Option Addr) (mn' mc' : Nat) (no'' : Option Addr) (nn'' nc'' : Nat) (mo'' : Option Addr) (mn'' mc'' : Nat) (w : World) (h0 : 0 ≤ d) (h1 : d ≤ 255) (h : SmallAt w no nn mo mn) (h' : SmallAt w no' nn' mo' mn') (h'' : SmallAt w no'' nn'' mo'' mn'') :
    Calls Tryz.prog 5 #[.int .u8 d, .agg #[.slice no nn nc, .slice mo mn mc, .slice no' nn' nc', .slice mo' mn' mc', .slice no'' nn'' nc'', .slice mo'' mn'' mc'']] w fun e w' => e = .returned (.bool true) ∧ Below w.heap.size w w' := by
  obtain ⟨o, hmod, ho⟩ := rem3_ex d h0 h1
  have b2 := below2' w (.cells #[.slice no nn nc, .slice mo mn mc, .slice no' nn' nc', .slice mo' mn' mc', .slice no'' nn'' nc'', .slice mo'' mn'' mc''] 51) (.cells #[.int .i64 o] 3)
  have H : Hid (SmallAt ((w.alloc (.cells #[.slice no nn nc, .slice mo mn mc, .slice no' nn' nc', .slice mo' mn' mc', .slice no'' nn'' nc'', .slice mo'' mn'' mc''] 51)).alloc (.cells #[.int .i64 o] 3)) no nn mo mn ∧ SmallAt ((w.alloc (.cells #[.slice no nn nc, .slice mo mn mc, .slice no' nn' nc', .slice mo' mn' mc', .slice no'' nn'' nc'', .slice mo'' mn'' mc''] 51)).alloc (.cells #[.int .i64 o] 3)) no' nn' mo' mn' ∧ SmallAt ((w.alloc (.cells #[.slice no nn nc, .slice mo mn mc, .slice no' nn' nc', .slice mo' mn' mc', .slice no'' nn'' nc'', .slice mo'' mn'' mc''] 51)).alloc (.cells #[.int .i64 o] 3)) no'' nn'' mo'' mn'' ∧ SBx3 ((w.alloc (.cells #[.slice no nn nc, .slice mo mn mc, .slice no' nn' nc', .slice mo' mn' mc', .slice no'' nn'' nc'', .slice mo'' mn'' mc''] 51)).alloc (.cells #[.int .i64 o] 3)) w.heap.size no nn nc mo mn mc no' nn' nc' mo' mn' mc' no'' nn'' nc'' mo'' mn'' mc'' ∧ Below w.heap.size w ((w.alloc (.cells #[.slice no nn nc, .slice mo mn mc, .slice no' nn' nc', .slice mo' mn' mc', .slice no'' nn'' nc'', .slice mo'' mn'' mc''] 51)).alloc (.cells #[.int .i64 o] 3)) ∧ ((w.alloc (.cells #[.slice no nn nc, .slice mo mn mc, .slice no' nn' nc', .slice mo' mn' mc', .slice no'' nn'' nc'', .slice mo'' mn'' mc''] 51)).alloc (.cells #[.int .i64 o] 3)).cell? ⟨w.heap.size + 1, 0, none⟩ = some (.int .i64 o) ∧ w.heap.size + 1 < ((w.alloc (.cells #[.slice no nn nc, .slice mo mn mc, .slice no' nn' nc', .slice mo' mn' mc', .slice no'' nn'' nc'', .slice mo'' mn'' mc''] 51)).alloc (.cells #[.int .i64 o] 3)).heap.size ∧ Ord o) := by
    refine ⟨h.below b2, h'.below b2, h''.below b2, ?_, b2, ?_, ?_, ho⟩
    · exact SBx3.below (heap_alloc_new w (.cells #[.slice no nn nc, .slice mo mn mc, .slice no' nn' nc', .slice mo' mn' mc', .slice no'' nn'' nc'', .slice mo'' mn'' mc''] 51)) (bel1 _ _)
    · have hh := heap_alloc_new (w.alloc (.cells #[.slice no nn nc, .slice mo mn mc, .slice no' nn' nc', .slice mo' mn' mc', .slice no'' nn'' nc'', .slice mo'' mn'' mc''] 51)) (.cells #[.int .i64 o] 3)
      rw [World.size_alloc] at hh
      unfold World.cell?
      rw [hh]
      rfl
    · rw [World.size_alloc, World.size_alloc]
      omega
  clear h h' h'' b2 ho h0 h1
  go_enter Tryz.func5, Tryz.ntmps5
  go_upto_region 2 with fail
  generalize ((w.alloc (.cells #[.slice no nn nc, .slice mo mn mc, .slice no' nn' nc', .slice mo' mn' mc', .slice no'' nn'' nc'', .slice mo'' mn'' mc''] 51)).alloc (.cells #[.int .i64 o] 3)) = w0 at H ⊢
  obtain ⟨x0, x1, x2, x3, x4, x5⟩ := H.out.2.2.2.1.cs
  have oc := H.out.2.2.2.2.2.1
  clear hmod
  go_wp2_with fail
  refine (made_b o _ _ _ _ _ _ _ H.out.2.2.2.2.2.2.2 H.out.1).mono ?_
  rintro e w1 ⟨po, pn, pc, ps, p, rfl, a1, a2, q0⟩
  have H1 : Hid (PolyAt w1 po pn pc ps p ∧ Made o p ∧ Below w0.heap.size w0 w1) := ⟨a1, a2, q0⟩
  clear a1 a2 q0 x0 x1 x2 x3 x4 x5 oc
  obtain ⟨x0, x1, x2, x3, x4, x5⟩ := (H.out.2.2.2.1.below H1.out.2.2).cs
  have oc := (H1.out.2.2.cell (p := ⟨w.heap.size + 1, 0, none⟩) H.out.2.2.2.2.2.2.1).trans H.out.2.2.2.2.2.1
  go_wp2_with fail
  refine (made_b o _ _ _ _ _ _ _ H.out.2.2.2.2.2.2.2 (H.out.2.1.below H1.out.2.2)).mono ?_
  rintro e w2 ⟨qo, qn, qc, qs, q, rfl, a1, a2, q0⟩
  have H2 : Hid (PolyAt w2 po pn pc ps p ∧ PolyAt w2 qo qn qc qs q ∧ Made o q ∧ Below w0.heap.size w0 w2) := ⟨H1.out.1.below q0, a1, a2, chain H1.out.2.2 q0⟩
  clear a1 a2 q0 x0 x1 x2 x3 x4 x5 oc
  obtain ⟨x0, x1, x2, x3, x4, x5⟩ := (H.out.2.2.2.1.below H2.out.2.2.2).cs
  have oc := (H2.out.2.2.2.cell (p := ⟨w.heap.size + 1, 0, none⟩) H.out.2.2.2.2.2.2.1).trans H.out.2.2.2.2.2.1
  go_wp2_with fail
  refine (made_b o _ _ _ _ _ _ _ H.out.2.2.2.2.2.2.2 (H.out.2.2.1.below H2.out.2.2.2)).mono ?_
  rintro e w3 ⟨ro, rn, rc, rs, r, rfl, a1, a2, q0⟩
  have b3 := chain H2.out.2.2.2 q0
  have S3 : Hid (RgSt o w w3 (w.heap.size + 1) po pn pc ps p qo qn qc qs q ro rn rc rs r) := ⟨H2.out.1.below q0, H2.out.2.1.below q0, a1, (b3.cell (p := ⟨w.heap.size + 1, 0, none⟩) H.out.2.2.2.2.2.2.1).trans H.out.2.2.2.2.2.1, Nat.lt_of_lt_of_le H.out.2.2.2.2.2.2.1 b3.size, chain H.out.2.2.2.2.1 b3⟩
  have HO : Hid (Ord o ∧ Made o p ∧ Made o q ∧ Made o r) := ⟨H.out.2.2.2.2.2.2.2, H1.out.2.1, H2.out.2.2.1, a2⟩
  clear a1 a2 q0 b3 x0 x1 x2 x3 x4 x5 oc H H1 H2
  have hpm := S3.out.p.most'
  have hqm := S3.out.q.most'
  have hrm := S3.out.r.most'
  go_wp2_with fail
  refine (shown_b _).mono ?_
  rintro e w4 ⟨rfl, q0⟩
  have S4 : Hid (RgSt o w w4 (w.heap.size + 1) po pn pc ps p qo qn qc qs q ro rn rc rs r) := S3.out.below q0
  clear q0
  have oc := S4.out.oc
  go_wp2_with fail
  refine (mulP_b o _ _ _ _ _ _ _ _ _ _ _ S4.out.p S4.out.q).mono ?_
  rintro e w5 ⟨ao, an, ac, ap, la, ka, rfl, g1, g2, q0⟩
  have Ra : Hid (PrIs o 16384000 p q la ka) := pr_made (L := 1280) HO.out.1 HO.out.2.1 HO.out.2.2.1.int (by have := HO.out.2.2.1.len; omega) (by omega) (by omega) HO.out.2.2.1.low g2
  have S5 : Hid (RgSt o w w5 (w.heap.size + 1) po pn pc ps p qo qn qc qs q ro rn rc rs r ∧ PolyAt w5 ao an ac ap la) := ⟨S4.out.below q0, g1⟩
  clear oc g1 g2 q0
  have oc := S5.out.1.oc
  go_wp2_with fail
  refine (mulP_b o _ _ _ _ _ _ _ _ _ _ _ S5.out.1.q S5.out.1.p).mono ?_
  rintro e w6 ⟨bo, bn, bc, bp, lb, kb, rfl, g1, g2, q0⟩
  have Rb : Hid (PrIs o 16384000 q p lb kb) := pr_made (L := 1280) HO.out.1 HO.out.2.2.1 HO.out.2.1.int (by have := HO.out.2.1.len; omega) (by omega) (by omega) HO.out.2.1.low g2
  have S6 : Hid (RgSt o w w6 (w.heap.size + 1) po pn pc ps p qo qn qc qs q ro rn rc rs r ∧ PolyAt w6 ao an ac ap la ∧ PolyAt w6 bo bn bc bp lb) := ⟨S5.out.1.below q0, S5.out.2.below q0, g1⟩
  clear oc g1 g2 q0
  have oc := S6.out.1.oc
  obtain ⟨rfl, rfl⟩ := Ra.out.comm HO.out.1 Rb.out
  clear Rb
  go_wp2_with fail
  refine (rsame_b _ _ _ _ _ _ _ _ _ _ _ S6.out.2.1 S6.out.2.2 true (yes_iff rfl)).mono ?_
  rintro e w7 ⟨rfl, q0⟩
  have S7 : Hid (RgSt o w w7 (w.heap.size + 1) po pn pc ps p qo qn qc qs q ro rn rc rs r ∧ PolyAt w7 ao an ac ap la ∧ PolyAt w7 bo bn bc bp la) := ⟨S6.out.1.below q0, S6.out.2.1.below q0, S6.out.2.2.below q0⟩
  clear oc q0
  have oc := S7.out.1.oc
  have U : Hid (RgSt o w w7 (w.heap.size + 1) po pn pc ps p qo qn qc qs q ro rn rc rs r ∧ PolyAt w7 ao an ac ap la) := ⟨S7.out.1, S7.out.2.1⟩
  clear S7
  have S7 := U
  clear U
  -- p + q, q + p
  have T7 : Hid (RgSt o w (w7.alloc (.cells #[.slice po pn pc, .slice qo qn qc] 23)) (w.heap.size + 1) po pn pc ps p qo qn qc qs q ro rn rc rs r ∧ PolyAt (w7.alloc (.cells #[.slice po pn pc, .slice qo qn qc] 23)) ao an ac ap la) := ⟨S7.out.1.below (bel1 _ _), S7.out.2.below (bel1 _ _)⟩
  have hlist : Hid (ListAt (w7.alloc (.cells #[.slice po pn pc, .slice qo qn qc] 23)) (some ⟨w7.heap.size, 0, none⟩) 2 [p, q] ∧ ([p, q] : List (List TL)).flatten.length ≤ 1000000) := ⟨list2 (heap_alloc_new _ _) T7.out.1.p T7.out.1.q, by simp only [List.flatten_cons, List.flatten_nil, List.length_append, List.append_nil]; (have := HO.out.2.1.len; have := HO.out.2.2.1.len; have := HO.out.2.2.2.len); skip; omega⟩
  have oc2 := T7.out.1.oc
  clear oc
  go_wp2_with fail
  refine (addc_b o (w.heap.size + 1) _ _ _ [p, q] _ hlist.out.1 hlist.out.2 T7.out.1.oc).mono ?_
  rintro e w8 ⟨fo, fn, fc, fp, lf, kf, rfl, g1, g2, q0⟩
  have Rf : Hid (SmIs o (fun m => coef p m + coef q m) 2560 20 lf) := (sm_two HO.out.1 HO.out.2.1.sm HO.out.2.2.1.sm (by omega) (by omega) (by omega) g2).1
  have S8 : Hid (RgSt o w w8 (w.heap.size + 1) po pn pc ps p qo qn qc qs q ro rn rc rs r ∧ PolyAt w8 ao an ac ap la ∧ PolyAt w8 fo fn fc fp lf) := ⟨T7.out.1.below q0, T7.out.2.below q0, g1⟩
  clear oc2 g1 g2 q0 hlist T7
  have oc := S8.out.1.oc
  have T8 : Hid (RgSt o w (w8.alloc (.cells #[.slice qo qn qc, .slice po pn pc] 23)) (w.heap.size + 1) po pn pc ps p qo qn qc qs q ro rn rc rs r ∧ PolyAt (w8.alloc (.cells #[.slice qo qn qc, .slice po pn pc] 23)) ao an ac ap la ∧ PolyAt (w8.alloc (.cells #[.slice qo qn qc, .slice po pn pc] 23)) fo fn fc fp lf) := ⟨S8.out.1.below (bel1 _ _), S8.out.2.1.below (bel1 _ _), S8.out.2.2.below (bel1 _ _)⟩
  have hlist : Hid (ListAt (w8.alloc (.cells #[.slice qo qn qc, .slice po pn pc] 23)) (some ⟨w8.heap.size, 0, none⟩) 2 [q, p] ∧ ([q, p] : List (List TL)).flatten.length ≤ 1000000) := ⟨list2 (heap_alloc_new _ _) T8.out.1.q T8.out.1.p, by simp only [List.flatten_cons, List.flatten_nil, List.length_append, List.append_nil]; (have := HO.out.2.1.len; have := HO.out.2.2.1.len; have := HO.out.2.2.2.len); skip; omega⟩
  have oc2 := T8.out.1.oc
  clear oc
  go_wp2_with fail
  refine (addc_b o (w.heap.size + 1) _ _ _ [q, p] _ hlist.out.1 hlist.out.2 T8.out.1.oc).mono ?_
  rintro e w9 ⟨go, gn, gc, gp, lg, kg, rfl, g1, g2, q0⟩
  have Rg : Hid (SmIs o (fun m => coef q m + coef p m) 2560 20 lg) := (sm_two HO.out.1 HO.out.2.2.1.sm HO.out.2.1.sm (by omega) (by omega) (by omega) g2).1
  have S9 : Hid (RgSt o w w9 (w.heap.size + 1) po pn pc ps p qo qn qc qs q ro rn rc rs r ∧ PolyAt w9 ao an ac ap la ∧ PolyAt w9 fo fn fc fp lf ∧ PolyAt w9 go gn gc gp lg) := ⟨T8.out.1.below q0, T8.out.2.1.below q0, T8.out.2.2.below q0, g1⟩
  clear oc2 g1 g2 q0 hlist T8
  have oc := S9.out.1.oc
  obtain rfl := Rf.out.one HO.out.1 Rg.out (fun m => Int.add_comm _ _)
  clear Rg
  go_wp2_with fail
  refine (rsame_b _ _ _ _ _ _ _ _ _ _ _ S9.out.2.2.1 S9.out.2.2.2 true (yes_iff rfl)).mono ?_
  rintro e w10 ⟨rfl, q0⟩
  have S10 : Hid (RgSt o w w10 (w.heap.size + 1) po pn pc ps p qo qn qc qs q ro rn rc rs r ∧ PolyAt w10 ao an ac ap la ∧ PolyAt w10 fo fn fc fp lf ∧ PolyAt w10 go gn gc gp lf) := ⟨S9.out.1.below q0, S9.out.2.1.below q0, S9.out.2.2.1.below q0, S9.out.2.2.2.below q0⟩
  clear oc q0
  have oc := S10.out.1.oc
  have U : Hid (RgSt o w w10 (w.heap.size + 1) po pn pc ps p qo qn qc qs q ro rn rc rs r ∧ PolyAt w10 ao an ac ap la) := ⟨S10.out.1, S10.out.2.1⟩
  clear S10
  have S10 := U
  clear U
  clear Rf
  have T10 : Hid (RgSt o w (w10.alloc (.cells #[.slice po pn pc, .slice qo qn qc] 23)) (w.heap.size + 1) po pn pc ps p qo qn qc qs q ro rn rc rs r ∧ PolyAt (w10.alloc (.cells #[.slice po pn pc, .slice qo qn qc] 23)) ao an ac ap la) := ⟨S10.out.1.below (bel1 _ _), S10.out.2.below (bel1 _ _)⟩
  have hlist : Hid (ListAt (w10.alloc (.cells #[.slice po pn pc, .slice qo qn qc] 23)) (some ⟨w10.heap.size, 0, none⟩) 2 [p, q] ∧ ([p, q] : List (List TL)).flatten.length ≤ 1000000) := ⟨list2 (heap_alloc_new _ _) T10.out.1.p T10.out.1.q, by simp only [List.flatten_cons, List.flatten_nil, List.length_append, List.append_nil]; (have := HO.out.2.1.len; have := HO.out.2.2.1.len; have := HO.out.2.2.2.len); skip; omega⟩
  have oc2 := T10.out.1.oc
  clear oc
  go_wp2_with fail
  refine (addc_b o (w.heap.size + 1) _ _ _ [p, q] _ hlist.out.1 hlist.out.2 T10.out.1.oc).mono ?_
  rintro e w11 ⟨f2o, f2n, f2c, f2p, lf2, kf2, rfl, g1, g2, q0⟩
  have Rf2 : Hid (SmIs o (fun m => coef p m + coef q m) 2560 20 lf2) := (sm_two HO.out.1 HO.out.2.1.sm HO.out.2.2.1.sm (by omega) (by omega) (by omega) g2).1
  have S11 : Hid (RgSt o w w11 (w.heap.size + 1) po pn pc ps p qo qn qc qs q ro rn rc rs r ∧ PolyAt w11 ao an ac ap la ∧ PolyAt w11 f2o f2n f2c f2p lf2) := ⟨T10.out.1.below q0, T10.out.2.below q0, g1⟩
  clear oc2 g1 g2 q0 hlist T10
  have oc := S11.out.1.oc
  have T11 : Hid (RgSt o w (w11.alloc (.cells #[.slice f2o f2n f2c, .slice ro rn rc] 23)) (w.heap.size + 1) po pn pc ps p qo qn qc qs q ro rn rc rs r ∧ PolyAt (w11.alloc (.cells #[.slice f2o f2n f2c, .slice ro rn rc] 23)) ao an ac ap la ∧ PolyAt (w11.alloc (.cells #[.slice f2o f2n f2c, .slice ro rn rc] 23)) f2o f2n f2c f2p lf2) := ⟨S11.out.1.below (bel1 _ _), S11.out.2.1.below (bel1 _ _), S11.out.2.2.below (bel1 _ _)⟩
  have hlist : Hid (ListAt (w11.alloc (.cells #[.slice f2o f2n f2c, .slice ro rn rc] 23)) (some ⟨w11.heap.size, 0, none⟩) 2 [lf2, r] ∧ ([lf2, r] : List (List TL)).flatten.length ≤ 1000000) := ⟨list2 (heap_alloc_new _ _) T11.out.2.2 T11.out.1.r, by simp only [List.flatten_cons, List.flatten_nil, List.length_append, List.append_nil]; (have := HO.out.2.1.len; have := HO.out.2.2.1.len; have := HO.out.2.2.2.len); have := Rf2.out.len; omega⟩
  have oc2 := T11.out.1.oc
  clear oc
  go_wp2_with fail
  refine (addc_b o (w.heap.size + 1) _ _ _ [lf2, r] _ hlist.out.1 hlist.out.2 T11.out.1.oc).mono ?_
  rintro e w12 ⟨ho, hn, hc, hp, lh, kh, rfl, g1, g2, q0⟩
  have Rh : Hid (SmIs o (fun m => coef p m + coef q m + coef r m) 3840 30 lh) := (sm_two HO.out.1 Rf2.out HO.out.2.2.2.sm (by omega) (by omega) (by omega) g2).1
  have S12 : Hid (RgSt o w w12 (w.heap.size + 1) po pn pc ps p qo qn qc qs q ro rn rc rs r ∧ PolyAt w12 ao an ac ap la ∧ PolyAt w12 f2o f2n f2c f2p lf2 ∧ PolyAt w12 ho hn hc hp lh) := ⟨T11.out.1.below q0, T11.out.2.1.below q0, T11.out.2.2.below q0, g1⟩
  clear oc2 g1 g2 q0 hlist T11
  have oc := S12.out.1.oc
  have U : Hid (RgSt o w w12 (w.heap.size + 1) po pn pc ps p qo qn qc qs q ro rn rc rs r ∧ PolyAt w12 ao an ac ap la ∧ PolyAt w12 ho hn hc hp lh) := ⟨S12.out.1, S12.out.2.1, S12.out.2.2.2⟩
  clear S12
  have S12 := U
  clear U
  have T12 : Hid (RgSt o w (w12.alloc (.cells #[.slice po pn pc, .slice qo qn qc, .slice ro rn rc] 23)) (w.heap.size + 1) po pn pc ps p qo qn qc qs q ro rn rc rs r ∧ PolyAt (w12.alloc (.cells #[.slice po pn pc, .slice qo qn qc, .slice ro rn rc] 23)) ao an ac ap la ∧ PolyAt (w12.alloc (.cells #[.slice po pn pc, .slice qo qn qc, .slice ro rn rc] 23)) ho hn hc hp lh) := ⟨S12.out.1.below (bel1 _ _), S12.out.2.1.below (bel1 _ _), S12.out.2.2.below (bel1 _ _)⟩
  have hlist : Hid (ListAt (w12.alloc (.cells #[.slice po pn pc, .slice qo qn qc, .slice ro rn rc] 23)) (some ⟨w12.heap.size, 0, none⟩) 3 [p, q, r] ∧ ([p, q, r] : List (List TL)).flatten.length ≤ 1000000) := ⟨list3 (heap_alloc_new _ _) T12.out.1.p T12.out.1.q T12.out.1.r, by simp only [List.flatten_cons, List.flatten_nil, List.length_append, List.append_nil]; (have := HO.out.2.1.len; have := HO.out.2.2.1.len; have := HO.out.2.2.2.len); skip; omega⟩
  have oc2 := T12.out.1.oc
  clear oc
  go_wp2_with fail
  refine (addc_b o (w.heap.size + 1) _ _ _ [p, q, r] _ hlist.out.1 hlist.out.2 T12.out.1.oc).mono ?_
  rintro e w13 ⟨jo, jn, jc, jp, lj, kj, rfl, g1, g2, q0⟩
  have Rj : Hid (SmIs o (fun m => coef p m + coef q m + coef r m) 3840 30 lj) := (sm_three HO.out.1 HO.out.2.1.sm HO.out.2.2.1.sm HO.out.2.2.2.sm g2).1
  have S13 : Hid (RgSt o w w13 (w.heap.size + 1) po pn pc ps p qo qn qc qs q ro rn rc rs r ∧ PolyAt w13 ao an ac ap la ∧ PolyAt w13 ho hn hc hp lh ∧ PolyAt w13 jo jn jc jp lj) := ⟨T12.out.1.below q0, T12.out.2.1.below q0, T12.out.2.2.below q0, g1⟩
  clear oc2 g1 g2 q0 hlist T12
  have oc := S13.out.1.oc
  obtain rfl := Rh.out.one HO.out.1 Rj.out (fun m => rfl)
  go_wp2_with fail
  refine (rsame_b _ _ _ _ _ _ _ _ _ _ _ S13.out.2.2.1 S13.out.2.2.2 true (yes_iff rfl)).mono ?_
  rintro e w14 ⟨rfl, q0⟩
  have S14 : Hid (RgSt o w w14 (w.heap.size + 1) po pn pc ps p qo qn qc qs q ro rn rc rs r ∧ PolyAt w14 ao an ac ap la ∧ PolyAt w14 ho hn hc hp lh ∧ PolyAt w14 jo jn jc jp lh) := ⟨S13.out.1.below q0, S13.out.2.1.below q0, S13.out.2.2.1.below q0, S13.out.2.2.2.below q0⟩
  clear oc q0
  have oc := S14.out.1.oc
  have U : Hid (RgSt o w w14 (w.heap.size + 1) po pn pc ps p qo qn qc qs q ro rn rc rs r ∧ PolyAt w14 ao an ac ap la) := ⟨S14.out.1, S14.out.2.1⟩
  clear S14
  have S14 := U
  clear U
  clear Rj Rh Rf2
  -- p, less p
  go_wp2_with fail
  refine (minus_b o _ _ _ _ _ _ S14.out.1.p (HO.out.2.1.may HO.out.1)).mono ?_
  rintro e w15 ⟨mio, min, mic, mip, rfl, g1, q0⟩
  have S15 : Hid (RgSt o w w15 (w.heap.size + 1) po pn pc ps p qo qn qc qs q ro rn rc rs r ∧ PolyAt w15 ao an ac ap la ∧ PolyAt w15 mio min mic mip (p.map negT)) := ⟨S14.out.1.below q0, S14.out.2.below q0, g1⟩
  clear oc g1 q0
  have oc := S15.out.1.oc
  have T15 : Hid (RgSt o w (w15.alloc (.cells #[.slice po pn pc, .slice mio min mic] 23)) (w.heap.size + 1) po pn pc ps p qo qn qc qs q ro rn rc rs r ∧ PolyAt (w15.alloc (.cells #[.slice po pn pc, .slice mio min mic] 23)) ao an ac ap la ∧ PolyAt (w15.alloc (.cells #[.slice po pn pc, .slice mio min mic] 23)) mio min mic mip (p.map negT)) := ⟨S15.out.1.below (bel1 _ _), S15.out.2.1.below (bel1 _ _), S15.out.2.2.below (bel1 _ _)⟩
  have hlist : Hid (ListAt (w15.alloc (.cells #[.slice po pn pc, .slice mio min mic] 23)) (some ⟨w15.heap.size, 0, none⟩) 2 [p, p.map negT] ∧ ([p, p.map negT] : List (List TL)).flatten.length ≤ 1000000) := ⟨list2 (heap_alloc_new _ _) T15.out.1.p T15.out.2.2, by simp only [List.flatten_cons, List.flatten_nil, List.length_append, List.append_nil]; (have := HO.out.2.1.len; have := HO.out.2.2.1.len; have := HO.out.2.2.2.len); have h9 : (p.map negT).length = p.length := List.length_map _; omega⟩
  have oc2 := T15.out.1.oc
  clear oc
  go_wp2_with fail
  refine (addc_b o (w.heap.size + 1) _ _ _ [p, p.map negT] _ hlist.out.1 hlist.out.2 T15.out.1.oc).mono ?_
  rintro e w16 ⟨zo, zn, zc, zp, lz, kz, rfl, g1, g2, q0⟩
  have Rz : Hid (lz = []) := less_self HO.out.1 HO.out.2.1 g2
  have S16 : Hid (RgSt o w w16 (w.heap.size + 1) po pn pc ps p qo qn qc qs q ro rn rc rs r ∧ PolyAt w16 ao an ac ap la ∧ PolyAt w16 mio min mic mip (p.map negT) ∧ PolyAt w16 zo zn zc zp lz) := ⟨T15.out.1.below q0, T15.out.2.1.below q0, T15.out.2.2.below q0, g1⟩
  clear oc2 g1 g2 q0 hlist T15
  have oc := S16.out.1.oc
  have hz0 : zn = 0 := by rw [← S16.out.2.2.2.len, Rz.out]; rfl
  subst hz0
  have U : Hid (RgSt o w w16 (w.heap.size + 1) po pn pc ps p qo qn qc qs q ro rn rc rs r ∧ PolyAt w16 ao an ac ap la) := ⟨S16.out.1, S16.out.2.1⟩
  clear S16
  have S16 := U
  clear U
  clear Rz
  go_wp2_with fail
  refine (mulP_b o _ _ _ _ _ _ _ _ _ _ _ S16.out.1.p S16.out.1.r).mono ?_
  rintro e w17 ⟨co, cn, cc, cp, lc, kc, rfl, g1, g2, q0⟩
  have Rc : Hid (PrIs o 16384000 p r lc kc) := pr_made (L := 1280) HO.out.1 HO.out.2.1 HO.out.2.2.2.int (by have := HO.out.2.2.2.len; omega) (by omega) (by omega) HO.out.2.2.2.low g2
  have S17 : Hid (RgSt o w w17 (w.heap.size + 1) po pn pc ps p qo qn qc qs q ro rn rc rs r ∧ PolyAt w17 ao an ac ap la ∧ PolyAt w17 co cn cc cp lc) := ⟨S16.out.1.below q0, S16.out.2.below q0, g1⟩
  clear oc g1 g2 q0
  have oc := S17.out.1.oc
  clear oc
  have oc := S17.out.1.oc
  have bz : Below w17.heap.size w17 w17.drew := (Below.refl _ _).drew
  have HS : Hid (∀ W, Below w17.heap.size w17 W → W.cell? ⟨w.heap.size + 1, 0, none⟩ = some (.int .i64 o)) := fun W hW => (S17.out.1.below hW).oc
  go_upto_region 14 with fail
  go_cut [17, 18] from 21 to 173 (fun s17 s18 wx => ∃ Do Dn Dc Dp Dl Dk v, s17 = .slice Do Dn Dc ∧ s18 = .int .i64 Dk ∧ Hid (PolyAt wx Do Dn Dc Dp Dl ∧ PrIs o 32768000 p v Dl Dk ∧ (∀ m, coef v m = coef q m + coef r m) ∧ Below w17.heap.size w17 wx))
  case first =>
    go_region_held3 (fun W => W.cell? ⟨w.heap.size + 1, 0, none⟩ = some (.int .i64 o))
      (first | exact HS.out _ bz | exact HS.out _ (chain bz (bel1 _ _)))
      (first
        | (go_at_call 27; refine (addc_b o (w.heap.size + 1) _ _ _ [q, r] _ (list2 (heap_alloc_new _ _) ((S17.out.1.q.below bz).below (bel1 _ _)) ((S17.out.1.r.below bz).below (bel1 _ _))) (by simp only [List.flatten_cons, List.flatten_nil, List.length_append, List.append_nil]; (have := HO.out.2.1.len; have := HO.out.2.2.1.len; have := HO.out.2.2.2.len); skip; omega) (HS.out _ (chain bz (bel1 _ _)))).mono ?_; rintro e wv ⟨vo, vn, vc, vp, vl, kv, rfl, g1, g2, q0⟩; have bz := chain (chain bz (bel1 _ _)) q0; have RV : Hid (PolyAt wv vo vn vc vp vl ∧ SmIs o (fun m => coef q m + coef r m) 2560 20 vl) := ⟨g1, (sm_two HO.out.1 HO.out.2.2.1.sm HO.out.2.2.2.sm (by omega) (by omega) (by omega) g2).1⟩; clear g1 g2 q0)
        | (go_at_call 22; refine (mulP_b o _ _ _ _ _ _ _ _ _ _ _ (S17.out.1.p.below bz) RV.out.1).mono ?_; rintro e wd ⟨Do, Dn, Dc, Dp, Dl, Dk, rfl, g1, g2, q0⟩; have bz := chain bz q0; have RD : Hid (PolyAt wd Do Dn Dc Dp Dl ∧ PrIs o 32768000 p vl Dl Dk) := ⟨g1, pr_made (L := 2560) HO.out.1 HO.out.2.1 RV.out.2.int (by have := RV.out.2.len; omega) (by omega) (by omega) RV.out.2.low g2⟩; clear g1 g2 q0))
    all_goals
      go_wp2_with fail
      go_meet
      exact ⟨Do, Dn, Dc, Dp, Dl, Dk, vl, rfl, rfl, RD.out.1, RD.out.2, RV.out.2.coef, bz⟩
  case rest =>
    rename World => wx
    obtain ⟨Do, Dn, Dc, Dp, Dl, Dk, v, rfl, rfl, hX⟩ := hcut
    have S90 : Hid (RgSt o w wx (w.heap.size + 1) po pn pc ps p qo qn qc qs q ro rn rc rs r ∧ PolyAt wx ao an ac ap la ∧ PolyAt wx co cn cc cp lc) := ⟨S17.out.1.below hX.out.2.2.2, S17.out.2.1.below hX.out.2.2.2, S17.out.2.2.below hX.out.2.2.2⟩
    clear oc bz HS
    have oc := S90.out.1.oc
    rcases Ra.out.err with hk | hk
    case inr =>
      subst hk
      rcases Rc.out.err with h2 | h2
      · subst h2
        rcases hX.out.2.1.err with h2 | h2
        · subst h2
          go_wp2_with fail
          go_ret
          exact ⟨rfl, S90.out.1.bel⟩
        · subst h2
          go_wp2_with fail
          go_ret
          exact ⟨rfl, S90.out.1.bel⟩
      · subst h2
        rcases hX.out.2.1.err with h2 | h2
        · subst h2
          go_wp2_with fail
          go_ret
          exact ⟨rfl, S90.out.1.bel⟩
        · subst h2
          go_wp2_with fail
          go_ret
          exact ⟨rfl, S90.out.1.bel⟩
    subst hk
    rcases Rc.out.err with hk | hk
    case inr =>
      subst hk
      rcases hX.out.2.1.err with h2 | h2
      · subst h2
        go_wp2_with fail
        go_ret
        exact ⟨rfl, S90.out.1.bel⟩
      · subst h2
        go_wp2_with fail
        go_ret
        exact ⟨rfl, S90.out.1.bel⟩
    subst hk
    rcases hX.out.2.1.err with hk | hk
    case inr =>
      subst hk
      go_wp2_with fail
      go_ret
      exact ⟨rfl, S90.out.1.bel⟩
    subst hk
    have HL : Hid (ListAt (wx.alloc (.cells #[.slice ao an ac, .slice co cn cc] 23)) (some ⟨wx.heap.size, 0, none⟩) 2 [la, lc] ∧ ([la, lc] : List (List TL)).flatten.length ≤ 1000000 ∧ PolyAt (wx.alloc (.cells #[.slice ao an ac, .slice co cn cc] 23)) Do Dn Dc Dp Dl ∧ Below w.heap.size w (wx.alloc (.cells #[.slice ao an ac, .slice co cn cc] 23)) ∧ (wx.alloc (.cells #[.slice ao an ac, .slice co cn cc] 23)).cell? ⟨w.heap.size + 1, 0, none⟩ = some (.int .i64 o)) := ⟨list2 (heap_alloc_new _ _) (S90.out.2.1.below (bel1 _ _)) (S90.out.2.2.below (bel1 _ _)), by (simp only [List.flatten_cons, List.flatten_nil, List.length_append, List.append_nil]; have := Ra.out.fine.2.1; have := Rc.out.fine.2.1; omega), hX.out.1.below (bel1 _ _), chain S90.out.1.bel (bel1 _ _), (S90.out.1.below (bel1 _ _)).oc⟩
    go_wp2_with fail
    refine (add_b o _ _ _ [la, lc] _ HL.out.1 HL.out.2.1).mono ?_
    rintro e w91 ⟨xo, xn, xc, xp, lx, kx, rfl, g1, g2, q0⟩
    obtain ⟨rfl, rfl⟩ := ring_end HO.out.1 Ra.out Rc.out hX.out.2.1 hX.out.2.2.1 g2
    have HF : Hid (PolyAt w91 xo xn xc xp lx ∧ PolyAt w91 Do Dn Dc Dp lx ∧ Below w.heap.size w w91) := ⟨g1, HL.out.2.2.1.below q0, chain HL.out.2.2.2.1 q0⟩
    clear g1 g2 q0 oc
    go_wp2_with fail
    refine (rsame_b _ _ _ _ _ _ _ _ _ _ _ HF.out.1 HF.out.2.1 true (yes_iff rfl)).mono ?_
    rintro e w92 ⟨rfl, q0⟩
    have HG : Hid (Below w.heap.size w w92) := chain HF.out.2.2 q0
    clear q0
    go_wp2_with fail
    go_ret
    exact ⟨rfl, HG.out⟩
end Go.Proofs.YtbdldijgcmgfaaaGreat
