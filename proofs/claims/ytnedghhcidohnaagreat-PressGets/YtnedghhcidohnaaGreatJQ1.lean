/-
  Joined: PolyA · PolyB · PolyC · PolyF · PolyX · PolyD · RRatN · PolyG · PolyE.
-/
import Derived.Deep.DrawnRows
import Derived.Deep.MidRow
import Derived.Deep.RegionHeld3
import Derived.Test.YtnedghhcidohnaaGreatJN1
import Derived.Test.YtnedghhcidohnaaGreatPolyMath
import Derived.Test.YtnedghhcidohnaaGreatOwnS
import Derived.Deep.CutBlock
import Derived.Deep.CutRange
import Derived.Deep.QuietTactic

/-! Terms and polynomials in memory. -/
namespace Go.Proofs.YtnedghhcidohnaaGreat
open Go.RowKit

/-- Where a term's parts lie. -/
structure TP where
  neg : Bool
  no : Option Addr
  nn : Nat
  nc : Nat
  eo : Option Addr
  en : Nat
  ec : Nat
  a : Int
  b : Int
  c : Int
  d : Int

def TP.cs (p : TP) : List Value := [.bool p.neg, .slice p.no p.nn p.nc, .slice p.eo p.en p.ec, .int .i64 p.a, .int .i64 p.b, .int .i64 p.c, .int .i64 p.d]
def TP.v (p : TP) : Value := .agg #[.bool p.neg, .slice p.no p.nn p.nc, .slice p.eo p.en p.ec, .int .i64 p.a, .int .i64 p.b, .int .i64 p.c, .int .i64 p.d]
def TP.rv (p : TP) : Value := .agg #[.bool p.neg, .slice p.no p.nn p.nc, .slice p.eo p.en p.ec]
def TP.mv (p : TP) : Value := .agg #[.int .i64 p.a, .int .i64 p.b, .int .i64 p.c, .int .i64 p.d]

/-- A term's parts in memory. -/
structure TermAt (W : World) (p : TP) (t : TL) : Prop where
  rat : RatAt W p.no p.nn p.nc p.eo p.en p.ec t.c
  neg : t.c.neg = p.neg
  mo : t.m = ⟨p.a, p.b, p.c, p.d⟩

theorem TermAt.below {w w' : World} {p : TP} {t : TL} (h : TermAt w p t) (hb : Below w.heap.size w w') : TermAt w' p t := ⟨h.rat.below hb, h.neg, h.mo⟩
theorem RatAt.grown {w w' : World} {e : TypeId} {no : Option Addr} {nn nc : Nat} {eo : Option Addr} {en ec : Nat} {r : RatL} {row : Option Nat} (h : RatAt w no nn nc eo en ec r) (hg : w.grownBy w' row) (hc : ∀ g, row = some g → CleanB w e g) : RatAt w' no nn nc eo en ec r := ⟨h.num.grown hg hc, h.den.grown hg hc⟩
theorem TermAt.grown {w w' : World} {e : TypeId} {p : TP} {t : TL} {row : Option Nat} (h : TermAt w p t) (hg : w.grownBy w' row) (hc : ∀ g, row = some g → CleanB w e g) : TermAt w' p t := ⟨h.rat.grown hg hc, h.neg, h.mo⟩
theorem TermAt.may4 {w : World} {p : TP} {t : TL} (h : TermAt w p t) : MayM t.m ↔ Mn.May4 p.a p.b p.c p.d := by unfold MayM; rw [h.mo]

/-- Terms that lie one behind the other. -/
structure TermsAt (W : World) (b off : Nat) (ps : List TP) (ls : List TL) : Prop where
  len : ps.length = ls.length
  lt : 0 < ps.length → b < W.heap.size
  cells : ∀ (i : Nat) p, ps[i]? = some p → W.rangeAt b (off + i * 7) p.cs
  each : ∀ (i : Nat) p t, ps[i]? = some p → ls[i]? = some t → TermAt W p t

theorem TermsAt.below {W W' : World} {b off : Nat} {ps : List TP} {ls : List TL} (h : TermsAt W b off ps ls) (hb : Below W.heap.size W W') : TermsAt W' b off ps ls := by
  refine ⟨h.len, fun hp => Nat.lt_of_lt_of_le (h.lt hp) hb.size, fun i p hp j v hv => ?_, fun i p t hp ht => (h.each i p t hp ht).below hb⟩
  have hlt : b < W.heap.size := h.lt (by have := (List.getElem?_eq_some_iff.1 hp).1; omega)
  exact (hb.cell (p := ⟨b, off + i * 7 + j, none⟩) hlt).trans (h.cells i p hp j v hv)

/-- A polynomial's slice in memory. -/
structure PolyAt (W : World) (lo : Option Addr) (n cap : Nat) (ps : List TP) (ls : List TL) : Prop where
  num : ps.length = n
  fits : n ≤ cap
  most : cap ≤ maxLen
  bare : lo = none → cap = 0
  at' : ∃ b off, (0 < n → lo = some ⟨b, off, none⟩) ∧ TermsAt W b off ps ls

theorem PolyAt.below {W W' : World} {lo : Option Addr} {n cap : Nat} {ps : List TP} {ls : List TL} (h : PolyAt W lo n cap ps ls) (hb : Below W.heap.size W W') : PolyAt W' lo n cap ps ls := by
  obtain ⟨b, off, h1, h2⟩ := h.at'
  exact ⟨h.num, h.fits, h.most, h.bare, b, off, h1, h2.below hb⟩
theorem PolyAt.len {W : World} {lo : Option Addr} {n cap : Nat} {ps : List TP} {ls : List TL} (h : PolyAt W lo n cap ps ls) : ls.length = n := by
  obtain ⟨b, off, _, h2⟩ := h.at'
  rw [← h2.len, h.num]
theorem PolyAt.nil (W : World) : PolyAt W none 0 0 [] [] := ⟨rfl, Nat.le_refl _, by unfold maxLen; omega, fun _ => rfl, 0, 0, fun h => absurd h (by omega), rfl, fun h => by simp at h, fun i p h => by simp at h, fun i p t h => by simp at h⟩
theorem PolyAt.most' {W : World} {lo : Option Addr} {n cap : Nat} {ps : List TP} {ls : List TL} (h : PolyAt W lo n cap ps ls) : (n : Int) ≤ 9223372036854775807 := by have := h.fits; have := h.most; unfold maxLen at this; omega

/-- An element, and its cells. -/
structure ElemAt (W : World) (b o : Nat) (p : TP) : Prop where
  c0 : W.cell? ⟨b, o, none⟩ = some (.bool p.neg)
  c1 : W.cell? ⟨b, o + 1, none⟩ = some (.slice p.no p.nn p.nc)
  c2 : W.cell? ⟨b, o + 2, none⟩ = some (.slice p.eo p.en p.ec)
  c3 : W.cell? ⟨b, o + 3, none⟩ = some (.int .i64 p.a)
  c4 : W.cell? ⟨b, o + 4, none⟩ = some (.int .i64 p.b)
  c5 : W.cell? ⟨b, o + 5, none⟩ = some (.int .i64 p.c)
  c6 : W.cell? ⟨b, o + 6, none⟩ = some (.int .i64 p.d)

theorem ElemAt.of {W : World} {b o : Nat} {p : TP} (h : W.rangeAt b o p.cs) : ElemAt W b o p := ⟨h 0 _ rfl, h 1 _ rfl, h 2 _ rfl, h 3 _ rfl, h 4 _ rfl, h 5 _ rfl, h 6 _ rfl⟩
theorem ElemAt.below {W W' : World} {b o : Nat} {p : TP} (h : ElemAt W b o p) (hlt : b < W.heap.size) (hb : Below W.heap.size W W') : ElemAt W' b o p :=
  ⟨(hb.cell (p := ⟨b, o, none⟩) hlt).trans h.c0, (hb.cell (p := ⟨b, o + 1, none⟩) hlt).trans h.c1, (hb.cell (p := ⟨b, o + 2, none⟩) hlt).trans h.c2, (hb.cell (p := ⟨b, o + 3, none⟩) hlt).trans h.c3, (hb.cell (p := ⟨b, o + 4, none⟩) hlt).trans h.c4, (hb.cell (p := ⟨b, o + 5, none⟩) hlt).trans h.c5, (hb.cell (p := ⟨b, o + 6, none⟩) hlt).trans h.c6⟩

theorem PolyAt.elem {W : World} {lo : Option Addr} {n cap : Nat} {ps : List TP} {ls : List TL} (h : PolyAt W lo n cap ps ls) {j : Nat} (hj : j < n) :
    ∃ b off p t, lo = some ⟨b, off, none⟩ ∧ ps[j]? = some p ∧ ls[j]? = some t ∧ TermAt W p t ∧ ElemAt W b (off + j * 7) p ∧ b < W.heap.size := by
  obtain ⟨b, off, h1, h2⟩ := h.at'
  have hp : ps[j]? = some (ps[j]'(by rw [h.num]; exact hj)) := List.getElem?_eq_getElem _
  have ht : ls[j]? = some (ls[j]'(by rw [h.len]; exact hj)) := List.getElem?_eq_getElem _
  exact ⟨b, off, _, _, h1 (by omega), hp, ht, h2.each j _ _ hp ht, .of (h2.cells j _ hp), h2.lt (by rw [h.num]; omega)⟩

/-- A term's variable. -/
def MBx (W : World) (B : Nat) (p : TP) : Prop := W.heap[B]? = some (.cells #[.bool p.neg, .slice p.no p.nn p.nc, .slice p.eo p.en p.ec, .int .i64 p.a, .int .i64 p.b, .int .i64 p.c, .int .i64 p.d] 49 (0, 0))
theorem MBx.lt {W : World} {B : Nat} {p : TP} (h : MBx W B p) : B < W.heap.size := (Array.getElem?_eq_some_iff.1 h).1
theorem MBx.el {W : World} {B : Nat} {p : TP} (h : MBx W B p) : W.cell? ⟨B, 0, none⟩ = some (.bool p.neg) ∧ W.cell? ⟨B, 1, none⟩ = some (.slice p.no p.nn p.nc) ∧ W.cell? ⟨B, 2, none⟩ = some (.slice p.eo p.en p.ec) ∧ W.cell? ⟨B, 3, none⟩ = some (.int .i64 p.a) ∧ W.cell? ⟨B, 4, none⟩ = some (.int .i64 p.b) ∧ W.cell? ⟨B, 5, none⟩ = some (.int .i64 p.c) ∧ W.cell? ⟨B, 6, none⟩ = some (.int .i64 p.d) := by
  refine ⟨?_, ?_, ?_, ?_, ?_, ?_, ?_⟩ <;> simp [World.cell?, show W.heap[B]? = _ from h]
theorem MBx.f {W : World} {B : Nat} {p : TP} (h : MBx W B p) (k : Nat) : W.frozen? ⟨B, k, none⟩ = false := by simp [World.frozen?, show W.heap[B]? = _ from h]
theorem MBx.new (W : World) (p : TP) : MBx (W.alloc (.cells #[.bool p.neg, .slice p.no p.nn p.nc, .slice p.eo p.en p.ec, .int .i64 p.a, .int .i64 p.b, .int .i64 p.c, .int .i64 p.d] 49)) W.heap.size p := heap_alloc_new W _
theorem MBx.below {W W' : World} {B : Nat} {p : TP} (h : MBx W B p) (hb : Below W.heap.size W W') : MBx W' B p := (hb.block B h.lt).trans h

theorem TermAt.mk' {w : World} {neg : Bool} {no : Option Addr} {nn nc : Nat} {eo : Option Addr} {en ec : Nat} {a b c d : Int} {r : RatL} (h : RatAt w no nn nc eo en ec r) (hn : r.neg = neg) : TermAt w ⟨neg, no, nn, nc, eo, en, ec, a, b, c, d⟩ ⟨r, ⟨a, b, c, d⟩⟩ := ⟨h, hn, rfl⟩

theorem bel1 (w : World) (o : Obj) : Below w.heap.size w (w.alloc o) := (Below.refl _ _).alloc (Nat.le_refl _) o
end Go.Proofs.YtnedghhcidohnaaGreat

/-! Orders that are one; terms that may be; the statements' heavy. -/
namespace Go.Proofs.YtnedghhcidohnaaGreat
open Go.RowKit

theorem isOrder_b (o : Int) (b : Bool) (w : World) (hb : b = true ↔ Ord o) : Calls Tryz.prog 44 #[.int .i64 o] w fun e w' => e = .returned (.bool b) ∧ Below w.heap.size w w' := by
  by_cases h0 : o = 0
  · subst h0
    have hbt : b = true := hb.2 ⟨by omega, by omega⟩
    subst hbt
    go_enter Tryz.func44, Tryz.ntmps44
    go_wp2
    go_ret
    exact ⟨rfl, Below.refl _ _⟩
  · by_cases h1 : o = 1
    · subst h1
      have hbt : b = true := hb.2 ⟨by omega, by omega⟩
      subst hbt
      go_enter Tryz.func44, Tryz.ntmps44
      go_wp2
      go_ret
      exact ⟨rfl, Below.refl _ _⟩
    · by_cases h2 : o = 2
      · subst h2
        have hbt : b = true := hb.2 ⟨by omega, by omega⟩
        subst hbt
        go_enter Tryz.func44, Tryz.ntmps44
        go_wp2
        go_ret
        exact ⟨rfl, Below.refl _ _⟩
      · have hbf : b = false := by
          cases e : b with
          | false => rfl
          | true => have := hb.1 e; have := this.lo; have := (hb.1 e).hi; omega
        subst hbf
        have e0 : (o == 0) = false := by rw [beq_eq_false_iff_ne]; exact h0
        have e1 : (o == 1) = false := by rw [beq_eq_false_iff_ne]; exact h1
        have e2 : (o == 2) = false := by rw [beq_eq_false_iff_ne]; exact h2
        clear hb
        go_enter Tryz.func44, Tryz.ntmps44
        go_wp2
        go_ret
        exact ⟨rfl, Below.refl _ _⟩

theorem ordered_b (o : Int) (b : Bool) (w : World) (hb : b = true ↔ Ord o) : Calls Tryz.prog 36 #[.int .i64 o] w fun e w' => e = .returned (.bool b) ∧ Below w.heap.size w w' := by
  by_cases h0 : 0 ≤ o
  · by_cases h2 : o ≤ 2
    · have hbt : b = true := hb.2 ⟨h0, h2⟩
      subst hbt
      clear hb
      go_enter Tryz.func36, Tryz.ntmps36
      go_wp2
      go_ret
      exact ⟨rfl, Below.refl _ _⟩
    · have hbf : b = false := by
        cases e : b with
        | false => rfl
        | true => have := (hb.1 e).hi; omega
      subst hbf
      clear hb
      go_enter Tryz.func36, Tryz.ntmps36
      go_wp2
      go_ret
      exact ⟨rfl, Below.refl _ _⟩
  · have hbf : b = false := by
      cases e : b with
      | false => rfl
      | true => have := (hb.1 e).lo; omega
    subst hbf
    clear hb
    go_enter Tryz.func36, Tryz.ntmps36
    go_wp2
    go_ret
    exact ⟨rfl, Below.refl _ _⟩

set_option maxHeartbeats 1000000 in
theorem termMay_b (p : TP) (t : TL) (b : Bool) (w : World) (h : TermAt w p t) (hb : b = true ↔ MayT t) :
    Calls Tryz.prog 45 #[.agg #[.bool p.neg, .slice p.no p.nn p.nc, .slice p.eo p.en p.ec, .int .i64 p.a, .int .i64 p.b, .int .i64 p.c, .int .i64 p.d]] w fun e w' => e = .returned (.bool b) ∧ Below w.heap.size w w' := by
  obtain ⟨neg, no, nn, nc, eo, en, ec, pa, pb, pc, pd⟩ := p
  dsimp only
  have bx := MBx.new w ⟨neg, no, nn, nc, eo, en, ec, pa, pb, pc, pd⟩
  dsimp only at bx
  have H : Hid (TermAt (w.alloc (.cells #[.bool neg, .slice no nn nc, .slice eo en ec, .int .i64 pa, .int .i64 pb, .int .i64 pc, .int .i64 pd] 49)) ⟨neg, no, nn, nc, eo, en, ec, pa, pb, pc, pd⟩ t ∧ (b = true ↔ MayT t) ∧ MBx (w.alloc (.cells #[.bool neg, .slice no nn nc, .slice eo en ec, .int .i64 pa, .int .i64 pb, .int .i64 pc, .int .i64 pd] 49)) w.heap.size ⟨neg, no, nn, nc, eo, en, ec, pa, pb, pc, pd⟩ ∧ Below w.heap.size w (w.alloc (.cells #[.bool neg, .slice no nn nc, .slice eo en ec, .int .i64 pa, .int .i64 pb, .int .i64 pc, .int .i64 pd] 49))) := ⟨h.below (bel1 _ _), hb, bx, bel1 _ _⟩
  clear h hb bx
  go_enter Tryz.func45, Tryz.ntmps45
  go_wp2_with fail
  by_cases hr : MayR t.c
  · refine (rmay_r _ _ _ _ _ _ _ t.c _ H.out.1.rat H.out.1.neg true (yes_iff hr)).mono ?_
    rintro e w1 ⟨rfl, b1⟩
    obtain ⟨_, _, _, c3, c4, c5, c6⟩ := (H.out.2.2.1.below b1).el
    dsimp only at c3 c4 c5 c6
    have B1 : Hid (Below w.heap.size w w1 ∧ MayR t.c) := ⟨chain H.out.2.2.2 b1, hr⟩
    clear b1 hr
    by_cases hm : Mn.May4 pa pb pc pd
    · have hbt : b = true := H.out.2.1.2 ⟨B1.out.2, H.out.1.may4.2 hm⟩
      subst hbt
      have HM : Hid (Mn.May4 pa pb pc pd) := hm
      clear hm
      go_wp2_with fail
      refine (Mn.may_yes _ _ _ _ _ HM.out).mono ?_
      rintro e w2 ⟨rfl, b2⟩
      have B2 : Hid (Below w.heap.size w w2) := chain B1.out.1 b2
      clear b2 c3 c4 c5 c6
      go_wp2
      go_ret
      exact ⟨rfl, B2.out⟩
    · have hbf : b = false := by
        cases e : b with
        | false => rfl
        | true => exact absurd (H.out.1.may4.1 (H.out.2.1.1 e).m) hm
      subst hbf
      have HM : Hid (¬ Mn.May4 pa pb pc pd) := hm
      clear hm
      go_wp2_with fail
      refine (Mn.may_no _ _ _ _ _ HM.out).mono ?_
      rintro e w2 ⟨rfl, b2⟩
      have B2 : Hid (Below w.heap.size w w2) := chain B1.out.1 b2
      clear b2 c3 c4 c5 c6
      go_wp2
      go_ret
      exact ⟨rfl, B2.out⟩
  · refine (rmay_r _ _ _ _ _ _ _ t.c _ H.out.1.rat H.out.1.neg false (no_iff hr)).mono ?_
    rintro e w1 ⟨rfl, b1⟩
    have hbf : b = false := by
      cases e : b with
      | false => rfl
      | true => exact absurd (H.out.2.1.1 e).c hr
    subst hbf
    have B1 : Hid (Below w.heap.size w w1) := chain H.out.2.2.2 b1
    clear b1 hr
    go_wp2
    go_ret
    exact ⟨rfl, B1.out⟩
theorem ElemAt.wd {W : World} {b o : Nat} {p : TP} (h : ElemAt W b o p) (hlt : b < W.heap.size) (m : Mn.Wd W) : ElemAt m.w b o p := h.below hlt m.h
theorem MBx.wd {W : World} {B : Nat} {p : TP} (h : MBx W B p) (m : Mn.Wd W) : MBx m.w B p := h.below m.h
end Go.Proofs.YtnedghhcidohnaaGreat

/-! Polynomials that may be: the program's May. -/
namespace Go.Proofs.YtnedghhcidohnaaGreat
open Go.RowKit

/-- The term at i is right where it stands. -/
def Good (o : Int) (ls : List TL) (i : Nat) : Prop := ∀ t, ls[i]? = some t → MayT t ∧ t.c.top ≠ 0 ∧ ∀ s, 0 < i → ls[i - 1]? = some s → UpM o s.m t.m

theorem falls_of {o : Int} {ls : List TL} (ho : Ord o) (h : ∀ i, Good o ls i) : Falls o ls := by
  refine List.pairwise_iff_getElem.2 ?_
  have key : ∀ d i (hi : i < ls.length) (hj : i + d + 1 < ls.length), UpM o (ls[i]).m (ls[i + d + 1]).m := by
    intro d
    induction d with
    | zero =>
      intro i hi hj
      exact (h (i + 1) _ (List.getElem?_eq_getElem hj)).2.2 _ (by omega) (List.getElem?_eq_getElem hi)
    | succ d ih =>
      intro i hi hj
      have h1 := ih i hi (by omega)
      have h2 := (h (i + d + 1 + 1) _ (List.getElem?_eq_getElem (by omega))).2.2 (ls[i + d + 1]'(by omega)) (by omega) (List.getElem?_eq_getElem (by omega))
      exact h1.trans h2 ho
  intro i j hi hj hij
  have := key (j - i - 1) i hi (by omega)
  have e : i + (j - i - 1) + 1 = j := by omega
  simp only [e] at this
  exact this

theorem MayP.good {o : Int} {ls : List TL} (h : MayP o ls) (i : Nat) : Good o ls i := by
  intro t ht
  have hm : t ∈ ls := List.mem_of_getElem? ht
  refine ⟨h.may t hm, h.nz t hm, fun s hi hs => ?_⟩
  obtain ⟨h1, rfl⟩ := List.getElem?_eq_some_iff.1 ht
  obtain ⟨h2, rfl⟩ := List.getElem?_eq_some_iff.1 hs
  exact List.pairwise_iff_getElem.1 h.falls (i - 1) i h2 h1 (by omega)
theorem mayP_of {o : Int} {ls : List TL} (ho : Ord o) (hl : ls.length ≤ 60) (h : ∀ i, i < ls.length → Good o ls i) : MayP o ls := by
  have hg : ∀ i, Good o ls i := fun i => by
    by_cases hi : i < ls.length
    · exact h i hi
    · intro t ht
      rw [List.getElem?_eq_none (by omega)] at ht
      cases ht
  refine ⟨ho, hl, fun t ht => ?_, fun t ht => ?_, falls_of ho hg⟩
  · obtain ⟨i, hi, rfl⟩ := List.getElem_of_mem ht
    exact (hg i _ (List.getElem?_eq_getElem hi)).1
  · obtain ⟨i, hi, rfl⟩ := List.getElem_of_mem ht
    exact (hg i _ (List.getElem?_eq_getElem hi)).2.1

theorem isFalse {b : Bool} {p : Prop} (h : b = true ↔ p) (hp : ¬ p) : b = false := by
  cases e : b with
  | false => rfl
  | true => exact absurd (h.1 e) hp

theorem zeroR_b (neg : Bool) (no : Option Addr) (nn nc : Nat) (eo : Option Addr) (en ec : Nat) (r : RatL) (w : World) (h : RatAt w no nn nc eo en ec r) (hm : MayR r) (b : Bool) (hb : b = true ↔ r.top = 0) :
    Calls Tryz.prog 46 #[.agg #[.bool neg, .slice no nn nc, .slice eo en ec]] w fun e w' => e = .returned (.bool b) ∧ Below w.heap.size w w' := by
  have e : b = decide (nn = 0) := by
    rw [Bool.eq_iff_iff, hb, decide_eq_true_iff, ← hm.zero_len h.lim, h.num.len]
  rw [e]
  exact zero_any neg no nn nc eo en ec w (nn_most h.num)

set_option maxRecDepth 100000 in
set_option maxHeartbeats 8000000 in
theorem may_b (o : Int) (lo : Option Addr) (n cap : Nat) (ps : List TP) (ls : List TL) (w : World) (h : PolyAt w lo n cap ps ls) (b : Bool) (hb : b = true ↔ MayP o ls) :
    Calls Tryz.prog 22 #[.int .i64 o, .slice lo n cap] w fun e w' => e = .returned (.bool b) ∧ Below w.heap.size w w' := by
  have hn := h.most'
  have H : Hid (PolyAt w lo n cap ps ls ∧ (b = true ↔ MayP o ls)) := ⟨h, hb⟩
  clear h hb
  by_cases ho : Ord o
  · have HO : Hid (Ord o) := ho
    clear ho
    go_enter Tryz.func22, Tryz.ntmps22
    go_wp2_with fail
    refine (isOrder_b o true _ (yes_iff HO.out)).mono ?_
    rintro e w1 ⟨rfl, b1⟩
    have B1 : Hid (Below w.heap.size w w1) := b1
    clear b1
    by_cases h60 : n ≤ 60
    · have h60' : ¬ (60 : Int) < (n : Int) := by omega
      go_wp2_with fail
      go_loopg [17] n (fun m i wr => ∃ j : Nat, j ≤ n ∧ n - j ≤ m ∧ i = .int .i64 j ∧ Hid (Below w.heap.size w wr ∧ ∀ i, i < j → Good o ls i))
      case atStart => exact ⟨0, Nat.zero_le _, by omega, rfl, B1.out, fun i hi => absurd hi (by omega)⟩
      case round =>
        obtain ⟨j, hj, hjr, rfl, hO⟩ := hrel
        by_cases h0 : j < n
        · obtain ⟨bk, off, p, t, rfl, hpj, htj, hat, hel, hblt⟩ := (H.out.1.below hO.out.1).elem h0
          obtain ⟨e0, e1, e2, e3, e4, e5, e6⟩ := hel
          have hjn : (j : Int) < (n : Int) := by omega
          have hj0 : (0 : Int) ≤ (j : Int) := by omega
          have HJ : Hid (j < n ∧ n - j ≤ _ ∧ ls[j]? = some t ∧ ps[j]? = some p ∧ bk < wr.heap.size) := ⟨h0, hjr, htj, hpj, hblt⟩
          obtain ⟨neg, no, nn, nc, eo, en, ec, pa, pb, pc, pd⟩ := p
          dsimp only at e0 e1 e2 e3 e4 e5 e6
          have bx := MBx.new wr ⟨neg, no, nn, nc, eo, en, ec, pa, pb, pc, pd⟩
          dsimp only at bx
          have HT : Hid (TermAt (wr.alloc (.cells #[.bool neg, .slice no nn nc, .slice eo en ec, .int .i64 pa, .int .i64 pb, .int .i64 pc, .int .i64 pd] 49)) ⟨neg, no, nn, nc, eo, en, ec, pa, pb, pc, pd⟩ t ∧ MBx (wr.alloc (.cells #[.bool neg, .slice no nn nc, .slice eo en ec, .int .i64 pa, .int .i64 pb, .int .i64 pc, .int .i64 pd] 49)) wr.heap.size ⟨neg, no, nn, nc, eo, en, ec, pa, pb, pc, pd⟩ ∧ Below w.heap.size w (wr.alloc (.cells #[.bool neg, .slice no nn nc, .slice eo en ec, .int .i64 pa, .int .i64 pb, .int .i64 pc, .int .i64 pd] 49))) := ⟨hat.below (bel1 _ _), bx, chain hO.out.1 (bel1 _ _)⟩
          clear bx hat htj hpj hblt hj hjr h0
          by_cases hmt : MayT t
          · have HM : Hid (MayT t) := hmt
            clear hmt
            go_wp2_with fail
            refine (termMay_b ⟨neg, no, nn, nc, eo, en, ec, pa, pb, pc, pd⟩ t true _ HT.out.1 (yes_iff HM.out)).mono ?_
            rintro e w2 ⟨rfl, b2⟩
            obtain ⟨f0, f1, f2, f3, f4, f5, f6⟩ := (HT.out.2.1.below b2).el
            dsimp only at f0 f1 f2 f3 f4 f5 f6
            have B2 : Hid (TermAt w2 ⟨neg, no, nn, nc, eo, en, ec, pa, pb, pc, pd⟩ t ∧ MBx w2 wr.heap.size ⟨neg, no, nn, nc, eo, en, ec, pa, pb, pc, pd⟩ ∧ Below w.heap.size w w2) := ⟨HT.out.1.below b2, HT.out.2.1.below b2, chain HT.out.2.2 b2⟩
            clear b2 e0 e1 e2 e3 e4 e5 e6
            by_cases hz : t.c.top = 0
            · have hbf : b = false := isFalse H.out.2 fun hp => (hp.good j t HJ.out.2.2.1).2.1 hz
              subst hbf
              have HZ : Hid (t.c.top = 0) := hz
              clear hz
              go_wp2_with fail
              refine (zeroR_b _ _ _ _ _ _ _ t.c _ B2.out.1.rat HM.out.c true (yes_iff HZ.out)).mono ?_
              rintro e w3 ⟨rfl, b3⟩
              have B3 : Hid (Below w.heap.size w w3) := chain B2.out.2.2 b3
              clear b3
              go_wp2
              go_ret
              exact ⟨rfl, B3.out⟩
            · have HZ : Hid (¬ t.c.top = 0) := hz
              clear hz
              go_wp2_with fail
              refine (zeroR_b _ _ _ _ _ _ _ t.c _ B2.out.1.rat HM.out.c false (no_iff HZ.out)).mono ?_
              rintro e w3 ⟨rfl, b3⟩
              obtain ⟨g0, g1, g2, g3, g4, g5, g6⟩ := (B2.out.2.1.below b3).el
              dsimp only at g0 g1 g2 g3 g4 g5 g6
              have B3 : Hid (Below w.heap.size w w3 ∧ MBx w3 wr.heap.size ⟨neg, no, nn, nc, eo, en, ec, pa, pb, pc, pd⟩ ∧ t.m = ⟨pa, pb, pc, pd⟩) := ⟨chain B2.out.2.2 b3, B2.out.2.1.below b3, HT.out.1.mo⟩
              clear b3 f0 f1 f2 f3 f4 f5 f6
              by_cases hj0' : j = 0
              · subst hj0'
                have HG : Hid (Good o ls 0) := fun t' ht' => by
                  have e : t' = t := by rw [HJ.out.2.2.1] at ht'; injection ht' with e; exact e.symm
                  rw [e]
                  exact ⟨HM.out, HZ.out, fun s hs => absurd hs (by omega)⟩
                have wne : Nonempty (Mn.Wd w3) := ⟨⟨_, Below.refl _ _⟩⟩
                go_wp2_with fail
                refine Mn.region_wd (by kernel_rfl) (by kernel_rfl) ?_
                repeat (go_big_quiet_step (fail))
                refine wpQuiet_nil ?_
                intro _ hw
                obtain ⟨nq, hq⟩ := hw
                subst hq
                have B4 : Hid (Below w.heap.size w nq.w) := chain B3.out.1 nq.h
                clear wne g0 g1 g2 g3 g4 g5 g6
                go_wp2
                go_roundg (n - (0 + 1))
                case measure => have := HJ.out.1; have := HJ.out.2.1; omega
                case rel =>
                  refine ⟨0 + 1, by have := HJ.out.1; omega, Nat.le_refl _, by go_num, B4.out, fun i hi => ?_⟩
                  obtain rfl : i = 0 := by omega
                  exact HG.out
              · have hj1 : 0 < j := by omega
                have hj2 : decide (0 < j) = true := decide_eq_true hj1
                obtain ⟨k, hk⟩ : ∃ k, j = k + 1 := ⟨j - 1, by omega⟩
                obtain ⟨bk2, off2, q, s, he, hqj, hsj, hqat, hqel, hqlt⟩ := (H.out.1.below B3.out.1).elem (show k < n by have := HJ.out.1; omega)
                injection he with he
                injection he with he1 he2
                subst he1 he2
                obtain ⟨K, hK⟩ := CmpM.ex o s.m t.m
                have HK : Hid (CmpM o s.m t.m K ∧ ls[k]? = some s ∧ s.m = ⟨q.a, q.b, q.c, q.d⟩ ∧ j = k + 1 ∧ MayT s) := ⟨hK, hsj, hqat.mo, hk, (hO.out.2 k (by omega) s hsj).1⟩
                have HC : Hid (Mn.CmpIs o q.a q.b q.c q.d pa pb pc pd K) := by
                  have h := HK.out.1
                  rw [HK.out.2.2.1, B3.out.2.2] at h
                  exact h
                obtain ⟨qneg, qno, qnn, qnc, qeo, qen, qec, qa, qb, qc, qd⟩ := q
                dsimp only at HC
                have hw1 : IntKind.i64.wrap ((j : Int) - 1) = (k : Int) := by rw [IntKind.wrap_i64]; omega
                have hk0 : (0 : Int) ≤ (k : Int) := by omega
                have hkn : (k : Int) < (n : Int) := by have := HJ.out.1; omega
                have E3 : ∀ m : Mn.Wd w3, m.w.cell? ⟨bk, off + k * 7 + 3, none⟩ = some (.int .i64 qa) := fun m => (hqel.wd hqlt m).c3
                have E4 : ∀ m : Mn.Wd w3, m.w.cell? ⟨bk, off + k * 7 + 3 + 1, none⟩ = some (.int .i64 qb) := fun m => (hqel.wd hqlt m).c4
                have E5 : ∀ m : Mn.Wd w3, m.w.cell? ⟨bk, off + k * 7 + 3 + 2, none⟩ = some (.int .i64 qc) := fun m => (hqel.wd hqlt m).c5
                have E6 : ∀ m : Mn.Wd w3, m.w.cell? ⟨bk, off + k * 7 + 3 + 3, none⟩ = some (.int .i64 qd) := fun m => (hqel.wd hqlt m).c6
                have F3 : ∀ m : Mn.Wd w3, m.w.cell? ⟨wr.heap.size, 3, none⟩ = some (.int .i64 pa) := fun m => (B3.out.2.1.wd m).el.2.2.2.1
                have F4 : ∀ m : Mn.Wd w3, m.w.cell? ⟨wr.heap.size, 4, none⟩ = some (.int .i64 pb) := fun m => (B3.out.2.1.wd m).el.2.2.2.2.1
                have F5 : ∀ m : Mn.Wd w3, m.w.cell? ⟨wr.heap.size, 5, none⟩ = some (.int .i64 pc) := fun m => (B3.out.2.1.wd m).el.2.2.2.2.2.1
                have F6 : ∀ m : Mn.Wd w3, m.w.cell? ⟨wr.heap.size, 6, none⟩ = some (.int .i64 pd) := fun m => (B3.out.2.1.wd m).el.2.2.2.2.2.2
                clear hK hsj hqj hqat hqel hqlt hk hj0'
                have wne : Nonempty (Mn.Wd w3) := ⟨⟨_, Below.refl _ _⟩⟩
                have hsp := HK.out.1.spec HK.out.2.2.2.2.m HM.out.m HO.out
                by_cases hk1 : K = 1
                · subst hk1
                  have HU : Hid (UpM o s.m t.m) := by
                    rcases hsp with ⟨_, h⟩ | ⟨h, _⟩ | ⟨h, _⟩
                    · exact h
                    · exact absurd h (by decide)
                    · exact absurd h (by decide)
                  clear hsp
                  go_wp2_with fail
                  refine Mn.region_wd (by kernel_rfl) (by kernel_rfl) ?_
                  repeat (go_big_quiet_step ((go_at_call 47; exact Mn.wd_of (Mn.cmp_val _ _ _ _ _ _ _ _ _ _ _ HC.out))))
                  refine wpQuiet_nil ?_
                  intro _ hw
                  obtain ⟨nq, hq⟩ := hw
                  subst hq
                  have B4 : Hid (Below w.heap.size w nq.w) := chain B3.out.1 nq.h
                  have HG : Hid (Good o ls j) := fun t' ht' => by
                    have e : t' = t := by rw [HJ.out.2.2.1] at ht'; injection ht' with e; exact e.symm
                    rw [e]
                    refine ⟨HM.out, HZ.out, fun s' _ hs' => ?_⟩
                    have e2 : s' = s := by rw [HK.out.2.2.2.1, Nat.add_sub_cancel, HK.out.2.1] at hs'; injection hs' with e2; exact e2.symm
                    rw [e2]
                    exact HU.out
                  clear wne E3 E4 E5 E6 F3 F4 F5 F6 hw1 hk0 hkn hj1 hj2
                  go_wp2
                  go_roundg (n - (j + 1))
                  case measure => have := HJ.out.1; have := HJ.out.2.1; omega
                  case rel =>
                    refine ⟨j + 1, by have := HJ.out.1; omega, Nat.le_refl _, by go_num, B4.out, fun i hi => ?_⟩
                    by_cases hij : i = j
                    · subst hij; exact HG.out
                    · exact hO.out.2 i (by omega)
                · have hK0 : K ≤ 0 := by rcases hsp with ⟨h, _⟩ | ⟨h, _⟩ | ⟨h, _⟩ <;> omega
                  have hbf : b = false := isFalse H.out.2 fun hp => by
                    have h1 := (hp.good j t HJ.out.2.2.1).2.2 s (by have := HK.out.2.2.2.1; omega) (by rw [HK.out.2.2.2.1, Nat.add_sub_cancel]; exact HK.out.2.1)
                    rcases hsp with ⟨h, _⟩ | ⟨_, h⟩ | ⟨_, h⟩
                    · exact hk1 h
                    · rw [h] at h1; exact h1.self HO.out
                    · exact h1.irr h HO.out
                  subst hbf
                  clear hsp hk1
                  go_wp2_with fail
                  refine Mn.region_wd (by kernel_rfl) (by kernel_rfl) ?_
                  repeat (go_big_quiet_step ((go_at_call 47; exact Mn.wd_of (Mn.cmp_val _ _ _ _ _ _ _ _ _ _ _ HC.out))))
                  refine wpQuiet_nil ?_
                  intro _ hw
                  obtain ⟨nq, hq⟩ := hw
                  subst hq
                  have B4 : Hid (Below w.heap.size w nq.w) := chain B3.out.1 nq.h
                  clear wne E3 E4 E5 E6 F3 F4 F5 F6
                  go_wp2
                  go_ret
                  exact ⟨rfl, B4.out⟩
          · have hbf : b = false := isFalse H.out.2 fun hp => hmt (hp.good j t HJ.out.2.2.1).1
            subst hbf
            have HM : Hid (¬ MayT t) := hmt
            clear hmt
            go_wp2_with fail
            refine (termMay_b ⟨neg, no, nn, nc, eo, en, ec, pa, pb, pc, pd⟩ t false _ HT.out.1 (no_iff HM.out)).mono ?_
            rintro e w2 ⟨rfl, b2⟩
            have B2 : Hid (Below w.heap.size w w2) := chain HT.out.2.2 b2
            clear b2
            go_wp2
            go_ret
            exact ⟨rfl, B2.out⟩
        · have hjn : j = n := by omega
          have hbt : b = true := H.out.2.2 (mayP_of HO.out (by rw [H.out.1.len]; exact h60) (fun i hi => hO.out.2 i (by rw [H.out.1.len] at hi; omega)))
          subst hbt
          subst hjn
          clear hj hjr h0
          go_wp2
          go_ret
          exact ⟨rfl, hO.out.1⟩
    · have h60' : (60 : Int) < (n : Int) := by omega
      have hbf : b = false := isFalse H.out.2 fun hp => by have := hp.len; rw [H.out.1.len] at this; omega
      subst hbf
      go_wp2
      go_ret
      exact ⟨rfl, B1.out⟩
  · have hbf : b = false := isFalse H.out.2 fun hp => ho hp.ord
    subst hbf
    have HO : Hid (¬ Ord o) := ho
    clear ho
    go_enter Tryz.func22, Tryz.ntmps22
    go_wp2_with fail
    refine (isOrder_b o false _ (no_iff HO.out)).mono ?_
    rintro e w1 ⟨rfl, b1⟩
    have B1 : Hid (Below w.heap.size w w1) := b1
    clear b1
    go_wp2
    go_ret
    exact ⟨rfl, B1.out⟩
end Go.Proofs.YtnedghhcidohnaaGreat

/-! Terms in a row of one's own; a term put to those that are sorted, as arithmetic. -/
namespace Go.Proofs.YtnedghhcidohnaaGreat
open Go.RowKit

def tcells (ps : List TP) : List Value := ps.flatMap TP.cs
theorem tcells_length (ps : List TP) : (tcells ps).length = ps.length * 7 := by
  induction ps with
  | nil => rfl
  | cons p ps ih => simp [tcells, TP.cs] at ih ⊢; omega
theorem tcells_append (ps qs : List TP) : tcells (ps ++ qs) = tcells ps ++ tcells qs := by simp [tcells]
theorem tcells_one (p : TP) : tcells [p] = p.cs := by simp [tcells]
theorem TP.cs_clean (p : TP) : ∀ u ∈ p.cs, Clean u := by
  intro u hu z
  simp [TP.cs] at hu
  rcases hu with rfl | rfl | rfl | rfl | rfl | rfl | rfl <;> simp
theorem TP.cs_one (p : TP) : ∀ u ∈ p.cs, u.oneCell' = true := by
  intro u hu
  simp [TP.cs] at hu
  rcases hu with rfl | rfl | rfl | rfl | rfl | rfl | rfl <;> rfl
theorem tcells_clean (ps : List TP) : ∀ u ∈ tcells ps, Clean u := by
  intro u hu
  simp [tcells] at hu
  obtain ⟨p, _, h⟩ := hu
  exact p.cs_clean u h
theorem tcells_onecell (ps : List TP) : ∀ u ∈ tcells ps, u.oneCell' = true := by
  intro u hu
  simp [tcells] at hu
  obtain ⟨p, _, h⟩ := hu
  exact p.cs_one u h
theorem tcells_at : ∀ (ps : List TP) (i j : Nat) (p : TP) (v : Value), ps[i]? = some p → p.cs[j]? = some v → (tcells ps)[i * 7 + j]? = some v
  | [], i, j, p, v, h, _ => by simp at h
  | q :: ps, 0, j, p, v, h, hv => by
    simp at h
    subst h
    have hj : j < q.cs.length := (List.getElem?_eq_some_iff.1 hv).1
    simp only [tcells, List.flatMap_cons, Nat.zero_mul, Nat.zero_add]
    rw [List.getElem?_append_left hj]
    exact hv
  | q :: ps, i + 1, j, p, v, h, hv => by
    have ih := tcells_at ps i j p v (by simpa using h) hv
    simp only [tcells, List.flatMap_cons] at ih ⊢
    rw [List.getElem?_append_right (by simp [TP.cs]; omega)]
    rw [show (i + 1) * 7 + j - q.cs.length = i * 7 + j by simp [TP.cs]; omega]
    exact ih

/-- Terms in a row of one's own. -/
structure TermsOwn (w : World) (base : Nat) (v : Value) (ps : List TP) (ls : List TL) : Prop where
  own : OwnS w base 49 7 v ps.length (tcells ps)
  len : ps.length = ls.length
  each : ∀ (i : Nat) p t, ps[i]? = some p → ls[i]? = some t → TermAt w p t

theorem TermsOwn.below {w w' : World} {base : Nat} {v : Value} {ps : List TP} {ls : List TL} (h : TermsOwn w base v ps ls) (hb : Below w.heap.size w w') : TermsOwn w' base v ps ls :=
  ⟨h.own.below hb, h.len, fun i p r hp hr => (h.each i p r hp hr).below hb⟩
theorem TermsOwn.made (w : World) (base : Nat) (hb : base ≤ w.heap.size) : TermsOwn (w.alloc (.cells #[] 49)) base (.slice (some ⟨w.heap.size, 0, none⟩) 0 0) [] [] :=
  ⟨OwnS.made w 49 7 hb, rfl, fun i p r hp => by simp at hp⟩
theorem TermsOwn.nil (w : World) (base : Nat) : TermsOwn w base (.slice none 0 0) [] [] := ⟨OwnS.nil w base 49 7, rfl, fun i p r hp => by simp at hp⟩
/-- Behind an append. -/
theorem TermsOwn.put {w w' : World} {base : Nat} {v v' : Value} {ps qs : List TP} {ls ms : List TL} (h : TermsOwn w base v ps ls) (hl : qs.length = ms.length)
    (hq : ∀ (i : Nat) p t, qs[i]? = some p → ms[i]? = some t → TermAt w p t) (ho : OwnS w' base 49 7 v' (ps.length + qs.length) (tcells ps ++ tcells qs)) (hg : w.grownBy w' v.ownBlock) : TermsOwn w' base v' (ps ++ qs) (ls ++ ms) := by
  refine ⟨by rw [List.length_append, tcells_append]; exact ho, by simp [h.len, hl], fun i p r hp hr => ?_⟩
  have key : TermAt w p r := by
    by_cases hi : i < ps.length
    · rw [List.getElem?_append_left hi] at hp
      rw [List.getElem?_append_left (by rw [← h.len]; exact hi)] at hr
      exact h.each i p r hp hr
    · rw [List.getElem?_append_right (by omega)] at hp
      rw [List.getElem?_append_right (by rw [← h.len]; omega), ← h.len] at hr
      exact hq _ p r hp hr
  exact key.grown hg h.own.clean
/-- .. of one term. -/
theorem TermsOwn.put1 {w w' : World} {base : Nat} {v v' : Value} {ps : List TP} {ls : List TL} (h : TermsOwn w base v ps ls) {p : TP} {t : TL} (ht : TermAt w p t) {n : Nat} (hn : ps.length = n)
    (ho : OwnS w' base 49 7 v' (n + 1) (tcells ps ++ p.cs)) (hg : w.grownBy w' v.ownBlock) : TermsOwn w' base v' (ps ++ [p]) (ls ++ [t]) := by
  refine h.put (qs := [p]) (ms := [t]) rfl ?_ (by rw [tcells_one, hn]; exact ho) hg
  intro i q r hq hr
  cases i with
  | zero => simp at hq hr; subst hq hr; exact ht
  | succ i => simp at hq
theorem TermsOwn.kept {w w' : World} {base : Nat} {v : Value} {ps : List TP} {ls : List TL} {row : Option Nat} (h : TermsOwn w base v ps ls) (hg : w.grownBy w' row) (hne : v.ownBlock ≠ row) (hc : ∀ g, row = some g → CleanB w 49 g) : TermsOwn w' base v ps ls :=
  ⟨h.own.kept hg (.inr hne), h.len, fun i p r hp hr => (h.each i p r hp hr).grown hg hc⟩

theorem TermsOwn.at {w : World} {base g n cap : Nat} {ps : List TP} {ls : List TL} (h : TermsOwn w base (.slice (some ⟨g, 0, none⟩) n cap) ps ls) : TermsAt w g 0 ps ls := by
  refine ⟨h.len, fun _ => (h.own.row.lt g rfl).2, fun i p hp j v hv => ?_, h.each⟩
  have := h.own.row.cells (g := g) rfl (i * 7 + j) v (tcells_at ps i j p v hp hv)
  rw [Addr.add_mid] at this
  rwa [Nat.zero_add, ← Nat.zero_add (i * 7 + j), ← Nat.add_assoc] at this

/-- As a polynomial's slice. -/
theorem TermsOwn.poly {w : World} {base : Nat} {v : Value} {ps : List TP} {ls : List TL} (h : TermsOwn w base v ps ls) : ∃ lo cap, v = .slice lo ps.length cap ∧ PolyAt w lo ps.length cap ps ls ∧ (∀ a, lo = some a → base ≤ a.block) := by
  rcases h.own.row.2 with ⟨h1, h2⟩ | ⟨g, cap, cur, h1, h2, h3, h4, h5, _⟩
  · have hp : ps = [] := List.length_eq_zero_iff.1 h2
    subst hp
    have hl : ls = [] := List.length_eq_zero_iff.1 h.len.symm
    subst hl
    exact ⟨none, 0, h1, PolyAt.nil w, fun a ha => by cases ha⟩
  · subst h1
    exact ⟨_, cap, rfl, ⟨rfl, h4, h5, (fun e => by cases e), g, 0, fun _ => rfl, h.at⟩, fun a ha => by cases ha; exact h2⟩
theorem TermsOwn.form {w : World} {base : Nat} {v : Value} {ps : List TP} {ls : List TL} (h : TermsOwn w base v ps ls) (hv : v ≠ .slice none 0 0) : ∃ g cap, v = .slice (some ⟨g, 0, none⟩) ps.length cap ∧ base ≤ g ∧ g < w.heap.size ∧ ps.length ≤ cap ∧ cap ≤ maxLen := by
  rcases h.own.row.2 with ⟨h1, _⟩ | ⟨g, cap, cur, h1, h2, h3, h4, h5, _⟩
  · exact absurd h1 hv
  · exact ⟨g, cap, h1, h2, (Array.getElem?_eq_some_iff.1 h3).1, h4, h5⟩

theorem info39 : (Tryz.prog.info? 49).map (fun i => (i.zero, i.size, i.bytes)) = some (some (.agg #[.bool false, .slice none 0 0, .slice none 0 0, .int .i64 0, .int .i64 0, .int .i64 0, .int .i64 0]), 7, 88) := by kernel_rfl
theorem zero39 : ∀ u ∈ (Value.agg #[.bool false, .slice none 0 0, .slice none 0 0, .int .i64 0, .int .i64 0, .int .i64 0, .int .i64 0]).cells.toList, Clean u := by
  intro u hu z
  simp [Value.cells] at hu
  rcases hu with rfl | rfl | rfl <;> simp

theorem TL.ext3 {s t : TL} (h : s.c = t.c) (g : s.m = t.m) : s = t := by cases s; cases t; simp_all

/-- A term put to those that are sorted. -/
def Ins (o : Int) (t : TL) : List TL → List TL → Int → Prop
  | [], out, k => out = [t] ∧ k = 0
  | s :: p, out, k => (UpM o s.m t.m → ∃ rest, Ins o t p rest k ∧ (k = 0 → out = s :: rest)) ∧
      (s.m = t.m → ∃ x j, AddOut s.c t.c x j ∧ (j ≠ 0 → k = j) ∧ (j = 0 → out = ⟨x, t.m⟩ :: p ∧ k = 0)) ∧ (UpM o t.m s.m → out = t :: s :: p ∧ k = 0)

/-- Terms that are sorted, one for each monomial that f has. -/
structure Has (o : Int) (p : List TL) (f : Mo → Option RatL) : Prop where
  falls : Falls o p
  mem : ∀ s, s ∈ p ↔ f s.m = some s.c

theorem AddOut.may {a b r : RatL} (h : AddOut a b r 0) (ha : MayR a) (hb : MayR b) : MayR r := by
  by_cases tb : (AddBig a b ∨ Big ≤ a.bot * b.bot)
  · have := (h.big ⟨ha, hb⟩ tb).1; omega
  · exact (h.fine ⟨ha, hb⟩ tb).2.may

theorem has_nil (o : Int) : Has o [] (fun _ => none) := ⟨List.Pairwise.nil, fun s => by simp⟩

/-- What is put: sorted, and what it comes to. -/
theorem Ins.ok {o : Int} {t : TL} (ho : Ord o) (ht : MayT t) : ∀ {p out : List TL} {k : Int} {f : Mo → Option RatL}, (∀ s ∈ p, MayT s) → Has o p f → Ins o t p out k →
    (f t.m = none → k = 0 ∧ Has o out (upd f t.m t.c)) ∧ (∀ r, f t.m = some r → ∃ x j, AddOut r t.c x j ∧ (j ≠ 0 → k = j) ∧ (j = 0 → k = 0 ∧ Has o out (upd f t.m x))) ∧ (k = 0 → ∀ s ∈ out, MayT s)
  | [], out, k, f, hp, hh, h => by
    obtain ⟨rfl, rfl⟩ := h
    have hn : ∀ m r, f m ≠ some r := fun m r e => by have := (hh.mem ⟨r, m⟩).2 e; simp at this
    refine ⟨fun hf => ⟨rfl, List.pairwise_singleton _ _, fun s => ?_⟩, fun r hr => absurd hr (hn _ _), fun _ s hs => by simp at hs; rw [hs]; exact ht⟩
    simp only [List.mem_singleton]
    constructor
    · rintro rfl; exact upd_self _ _ _
    · intro hs
      by_cases e : s.m = t.m
      · rw [e, upd_self] at hs
        injection hs with hs
        exact TL.ext3 hs.symm e
      · rw [upd_ne e] at hs
        exact absurd hs (hn _ _)
  | s :: p, out, k, f, hp, hh, h => by
    obtain ⟨hf1, hf2⟩ := List.pairwise_cons.1 hh.falls
    have hs0 : MayT s := hp s (.head _)
    obtain ⟨K, hK⟩ := CmpM.ex o s.m t.m
    have hfs : f s.m = some s.c := (hh.mem s).1 (.head _)
    rcases hK.spec hs0.m ht.m ho with ⟨_, hu⟩ | ⟨_, hu⟩ | ⟨_, hu⟩
    · -- s is above
      obtain ⟨rest, h1, h2⟩ := h.1 hu
      have hne : t.m ≠ s.m := fun e => by rw [e] at hu; exact hu.self ho
      -- what the rest has
      let f' : Mo → Option RatL := fun m => @ite _ (m = s.m) (Mo.dec m s.m) none (f m)
      have hh' : Has o p f' := ⟨hf2, fun u => by
        constructor
        · intro hu'
          have : u.m ≠ s.m := fun e => by have := hf1 u hu'; rw [e] at this; exact this.self ho
          simp only [f', if_neg this]
          exact (hh.mem u).1 (.tail _ hu')
        · intro hu'
          by_cases e : u.m = s.m
          · simp [f', e] at hu'
          · simp only [f', if_neg e] at hu'
            rcases List.mem_cons.1 ((hh.mem u).2 hu') with rfl | h
            · exact absurd rfl e
            · exact h⟩
      have ih := Ins.ok ho ht (fun u hu' => hp u (.tail _ hu')) hh' h1
      have hft : f' t.m = f t.m := by simp only [f', if_neg hne]
      have lift : ∀ x, Has o rest (upd f' t.m x) → k = 0 → Has o out (upd f t.m x) := fun x hr hk => by
        rw [h2 hk]
        refine ⟨List.pairwise_cons.2 ⟨fun u hu' => ?_, hr.falls⟩, fun u => ?_⟩
        · have hu2 := (hr.mem u).1 hu'
          by_cases e : u.m = t.m
          · rw [e]; exact hu
          · rw [upd_ne e] at hu2
            have := (hh'.mem u).2 hu2
            exact hf1 u this
        · simp only [List.mem_cons]
          constructor
          · rintro (rfl | hu')
            · rw [upd_ne (Ne.symm hne)]; exact hfs
            · have hu2 := (hr.mem u).1 hu'
              by_cases e : u.m = t.m
              · rw [e] at hu2 ⊢; rw [upd_self] at hu2 ⊢; exact hu2
              · rw [upd_ne e] at hu2 ⊢
                by_cases e2 : u.m = s.m
                · simp [f', e2] at hu2
                · simpa only [f', if_neg e2] using hu2
          · intro hu2
            by_cases e2 : u.m = s.m
            · left
              rw [e2, upd_ne (Ne.symm hne), hfs] at hu2
              injection hu2 with hu2
              exact TL.ext3 hu2.symm e2
            · right
              refine (hr.mem u).2 ?_
              by_cases e : u.m = t.m
              · rw [e, upd_self] at hu2 ⊢; exact hu2
              · rw [upd_ne e] at hu2 ⊢; simpa only [f', if_neg e2] using hu2
      refine ⟨fun hf => ?_, fun r hr => ?_, fun hk u hu' => ?_⟩
      · obtain ⟨a, b⟩ := ih.1 (hft.trans hf)
        exact ⟨a, lift _ b a⟩
      · obtain ⟨x, j, a, b, c⟩ := ih.2.1 r (hft.trans hr)
        exact ⟨x, j, a, b, fun e => ⟨(c e).1, lift _ (c e).2 (c e).1⟩⟩
      · rw [h2 hk] at hu'
        rcases List.mem_cons.1 hu' with rfl | hu'
        · exact hs0
        · exact ih.2.2 hk u hu'
    · -- the same
      obtain ⟨x, j, a, b, c⟩ := h.2.1 hu
      refine ⟨fun hf => ?_, fun r hr => ?_, fun hk u hu' => ?_⟩
      · rw [← hu, hfs] at hf; cases hf
      · rw [← hu, hfs] at hr
        injection hr with hr
        subst hr
        refine ⟨x, j, a, b, fun e => ⟨(c e).2, ?_⟩⟩
        rw [(c e).1]
        refine ⟨List.pairwise_cons.2 ⟨fun u hu' => by have := hf1 u hu'; rw [hu] at this; exact this, hf2⟩, fun u => ?_⟩
        simp only [List.mem_cons]
        constructor
        · rintro (rfl | hu')
          · exact upd_self _ _ _
          · have hne : u.m ≠ t.m := fun e2 => by have := hf1 u hu'; rw [e2, hu] at this; exact this.self ho
            rw [upd_ne hne]
            exact (hh.mem u).1 (.tail _ hu')
        · intro hu2
          by_cases e2 : u.m = t.m
          · left
            rw [e2, upd_self] at hu2
            injection hu2 with hu2
            exact TL.ext3 hu2.symm e2
          · right
            rw [upd_ne e2] at hu2
            rcases List.mem_cons.1 ((hh.mem u).2 hu2) with rfl | h
            · exact absurd hu e2
            · exact h
      · by_cases e : j = 0
        · rw [(c e).1] at hu'
          subst e
          rcases List.mem_cons.1 hu' with rfl | hu'
          · exact ⟨a.may hs0.c ht.c, ht.m⟩
          · exact hp u (.tail _ hu')
        · exact absurd ((b e).symm.trans hk) e
    · -- s is below
      obtain ⟨h1, h2⟩ := h.2.2 hu
      subst h1 h2
      have hnone : ∀ r, f t.m ≠ some r := fun r hr => by
        rcases List.mem_cons.1 ((hh.mem ⟨r, t.m⟩).2 hr) with e | h
        · rw [← e] at hu; exact hu.self ho
        · exact (hu.trans (hf1 _ h) ho).self ho
      refine ⟨fun hf => ⟨rfl, List.pairwise_cons.2 ⟨fun u hu' => ?_, hh.falls⟩, fun u => ?_⟩, fun r hr => absurd hr (hnone r), fun _ u hu' => ?_⟩
      · rcases List.mem_cons.1 hu' with rfl | h
        · exact hu
        · exact hu.trans (hf1 u h) ho
      · rw [List.mem_cons]
        constructor
        · rintro (rfl | hu')
          · exact upd_self _ _ _
          · have hne : u.m ≠ t.m := fun e2 => hnone u.c (by rw [← e2]; exact (hh.mem u).1 hu')
            rw [upd_ne hne]
            exact (hh.mem u).1 hu'
        · intro hu2
          by_cases e2 : u.m = t.m
          · left
            rw [e2, upd_self] at hu2
            injection hu2 with hu2
            exact TL.ext3 hu2.symm e2
          · right
            rw [upd_ne e2] at hu2
            exact (hh.mem u).2 hu2
      · rcases List.mem_cons.1 hu' with rfl | h
        · exact ht
        · exact hp u h
end Go.Proofs.YtnedghhcidohnaaGreat

/-! Lists of polynomials: do all of them may be. -/
namespace Go.Proofs.YtnedghhcidohnaaGreat
open Go.RowKit

/-- A slice of polynomials. -/
structure ListAt (W : World) (lo : Option Addr) (m : Nat) (lss : List (List TL)) : Prop where
  len : lss.length = m
  most : (m : Int) ≤ 9223372036854775807
  elem : ∀ i, i < m → ∃ b off po pn pc ps ls, lo = some ⟨b, off, none⟩ ∧ W.cell? ⟨b, off + i, none⟩ = some (.slice po pn pc) ∧ lss[i]? = some ls ∧ PolyAt W po pn pc ps ls ∧ b < W.heap.size
theorem ListAt.below {W W' : World} {lo : Option Addr} {m : Nat} {lss : List (List TL)} (h : ListAt W lo m lss) (hb : Below W.heap.size W W') : ListAt W' lo m lss := by
  refine ⟨h.len, h.most, fun i hi => ?_⟩
  obtain ⟨b, off, po, pn, pc, ps, ls, h1, h2, h3, h4, h5⟩ := h.elem i hi
  exact ⟨b, off, po, pn, pc, ps, ls, h1, (hb.cell (p := ⟨b, off + i, none⟩) h5).trans h2, h3, h4.below hb, Nat.lt_of_lt_of_le h5 hb.size⟩

end Go.Proofs.YtnedghhcidohnaaGreat

/-! Polynomials that may be: the reference's May. -/
namespace Go.Proofs.YtnedghhcidohnaaGreat
open Go.RowKit

theorem rzero_any (neg : Bool) (no : Option Addr) (nn nc : Nat) (eo : Option Addr) (en ec : Nat) (w : World) (hn : (nn : Int) ≤ 9223372036854775807) :
    Calls Tryz.prog 38 #[.agg #[.bool neg, .slice no nn nc, .slice eo en ec]] w fun e w' => e = .returned (.bool (decide (nn = 0))) ∧ Below w.heap.size w w' := by
  go_enter Tryz.func38, Tryz.ntmps38
  go_wp2
  go_ret
  refine ⟨ret_bool ?_, (Below.refl _ _).alloc (Nat.le_refl _) _⟩
  by_cases h : nn = 0
  · subst h; rfl
  · have : ((nn : Int) == 0) = false := by rw [beq_eq_false_iff_ne]; omega
    rw [this]
    simp [h]
theorem rzeroR_b (neg : Bool) (no : Option Addr) (nn nc : Nat) (eo : Option Addr) (en ec : Nat) (r : RatL) (w : World) (h : RatAt w no nn nc eo en ec r) (hm : MayR r) (b : Bool) (hb : b = true ↔ r.top = 0) :
    Calls Tryz.prog 38 #[.agg #[.bool neg, .slice no nn nc, .slice eo en ec]] w fun e w' => e = .returned (.bool b) ∧ Below w.heap.size w w' := by
  have e : b = decide (nn = 0) := by
    rw [Bool.eq_iff_iff, hb, decide_eq_true_iff, ← hm.zero_len h.lim, h.num.len]
  rw [e]
  exact rzero_any neg no nn nc eo en ec w (nn_most h.num)

theorem good_at {o : Int} {ls : List TL} {j : Nat} {t : TL} (ht : ls[j]? = some t) (hm : MayT t) (hz : ¬ t.c.top = 0) (hs : 0 < j → ∀ s, ls[j - 1]? = some s → UpM o s.m t.m) : Good o ls j := fun t' ht' => by
  have e : t' = t := by rw [ht] at ht'; injection ht' with e; exact e.symm
  rw [e]
  exact ⟨hm, hz, fun s h hs' => hs h s hs'⟩

set_option maxRecDepth 100000 in
set_option maxHeartbeats 8000000 in
theorem rmay_b (o : Int) (lo : Option Addr) (n cap : Nat) (ps : List TP) (ls : List TL) (w : World) (h : PolyAt w lo n cap ps ls) (b : Bool) (hb : b = true ↔ MayP o ls) :
    Calls Tryz.prog 20 #[.int .i64 o, .slice lo n cap] w fun e w' => e = .returned (.bool b) ∧ Below w.heap.size w w' := by
  have hn := h.most'
  have H : Hid (PolyAt w lo n cap ps ls ∧ (b = true ↔ MayP o ls)) := ⟨h, hb⟩
  clear h hb
  by_cases ho : Ord o
  · have HO : Hid (Ord o) := ho
    clear ho
    go_enter Tryz.func20, Tryz.ntmps20
    go_wp2_with fail
    refine (ordered_b o true _ (yes_iff HO.out)).mono ?_
    rintro e w1 ⟨rfl, b1⟩
    have B1 : Hid (Below w.heap.size w w1) := b1
    clear b1
    by_cases h60 : n ≤ 60
    · have h60' : ¬ (60 : Int) < (n : Int) := by omega
      go_wp2_with fail
      go_loopg [5] n (fun m i wr => ∃ j : Nat, j ≤ n ∧ n - j ≤ m ∧ i = .int .i64 j ∧ Hid (Below w.heap.size w wr ∧ ∀ i, i < j → Good o ls i))
      case atStart => exact ⟨0, Nat.zero_le _, by omega, rfl, B1.out, fun i hi => absurd hi (by omega)⟩
      case round =>
        obtain ⟨j, hj, hjr, rfl, hO⟩ := hrel
        by_cases h0 : j < n
        · obtain ⟨bk, off, p, t, rfl, hpj, htj, hat, hel, hblt⟩ := (H.out.1.below hO.out.1).elem h0
          have hjn : (j : Int) < (n : Int) := by omega
          have hj0 : (0 : Int) ≤ (j : Int) := by omega
          obtain ⟨neg, no, nn, nc, eo, en, ec, pa, pb, pc, pd⟩ := p
          have HJ : Hid (j < n ∧ n - j ≤ _ ∧ ls[j]? = some t ∧ TermAt wr ⟨neg, no, nn, nc, eo, en, ec, pa, pb, pc, pd⟩ t) := ⟨h0, hjr, htj, hat⟩
          have E0 : ∀ m : Mn.Wd wr, m.w.cell? ⟨bk, off + j * 7, none⟩ = some (.bool neg) := fun m => (hel.wd hblt m).c0
          have E1 : ∀ m : Mn.Wd wr, m.w.cell? ⟨bk, off + j * 7 + 1, none⟩ = some (.slice no nn nc) := fun m => (hel.wd hblt m).c1
          have E2 : ∀ m : Mn.Wd wr, m.w.cell? ⟨bk, off + j * 7 + 2, none⟩ = some (.slice eo en ec) := fun m => (hel.wd hblt m).c2
          have E3 : ∀ m : Mn.Wd wr, m.w.cell? ⟨bk, off + j * 7 + 3, none⟩ = some (.int .i64 pa) := fun m => (hel.wd hblt m).c3
          have E4 : ∀ m : Mn.Wd wr, m.w.cell? ⟨bk, off + j * 7 + 3 + 1, none⟩ = some (.int .i64 pb) := fun m => (hel.wd hblt m).c4
          have E5 : ∀ m : Mn.Wd wr, m.w.cell? ⟨bk, off + j * 7 + 3 + 2, none⟩ = some (.int .i64 pc) := fun m => (hel.wd hblt m).c5
          have E6 : ∀ m : Mn.Wd wr, m.w.cell? ⟨bk, off + j * 7 + 3 + 3, none⟩ = some (.int .i64 pd) := fun m => (hel.wd hblt m).c6
          have wne : Nonempty (Mn.Wd wr) := ⟨⟨_, Below.refl _ _⟩⟩
          clear hat htj hpj hj hjr h0 hel hblt
          by_cases hr : MayR t.c
          · have HR : Hid (MayR t.c) := hr
            clear hr
            by_cases hz : t.c.top = 0
            · have HZ : Hid (t.c.top = 0) := hz
              have hbf : b = false := isFalse H.out.2 fun hp => (hp.good j t HJ.out.2.2.1).2.1 hz
              subst hbf
              clear hz
              go_wp2_with fail
              refine Mn.region_wd (by kernel_rfl) (by kernel_rfl) ?_
              repeat (go_big_quiet_step ((first | (go_at_call 37; exact Mn.wd_of (rrmay_r _ _ _ _ _ _ _ t.c _ (HJ.out.2.2.2.rat.below (Mn.Wd.h _)) HJ.out.2.2.2.neg true (yes_iff HR.out))) | (go_at_call 38; exact Mn.wd_of (rzeroR_b _ _ _ _ _ _ _ t.c _ (HJ.out.2.2.2.rat.below (Mn.Wd.h _)) HR.out true (yes_iff HZ.out))))))
              refine wpQuiet_nil ?_
              intro _ hw
              obtain ⟨nq, hq⟩ := hw
              subst hq
              have B4 : Hid (Below w.heap.size w nq.w) := chain hO.out.1 nq.h
              clear wne E0 E1 E2 E3 E4 E5 E6 
              go_wp2
              go_ret
              exact ⟨rfl, B4.out⟩
            · have HZ : Hid (¬ t.c.top = 0) := hz
              clear hz
              by_cases hm : Mn.May4 pa pb pc pd
              · have HM : Hid (Mn.May4 pa pb pc pd) := hm
                clear hm
                have HT : Hid (MayT t) := ⟨HR.out, HJ.out.2.2.2.may4.2 HM.out⟩
                by_cases hj0' : j = 0
                · have HG : Hid (Good o ls j) := good_at HJ.out.2.2.1 HT.out HZ.out fun h => absurd h (by omega)
                  have hj1 : ¬ 0 < j := by omega
                  have hj2 : decide (0 < j) = false := decide_eq_false hj1
                  clear hj0'
                  go_wp2_with fail
                  refine Mn.region_wd (by kernel_rfl) (by kernel_rfl) ?_
                  repeat (go_big_quiet_step ((first | (go_at_call 37; exact Mn.wd_of (rrmay_r _ _ _ _ _ _ _ t.c _ (HJ.out.2.2.2.rat.below (Mn.Wd.h _)) HJ.out.2.2.2.neg true (yes_iff HR.out))) | (go_at_call 38; exact Mn.wd_of (rzeroR_b _ _ _ _ _ _ _ t.c _ (HJ.out.2.2.2.rat.below (Mn.Wd.h _)) HR.out false (no_iff HZ.out))) | (go_at_call 39; exact Mn.wd_of (Mn.rmay_yes _ _ _ _ _ HM.out)))))
                  refine wpQuiet_nil ?_
                  intro _ hw
                  obtain ⟨nq, hq⟩ := hw
                  subst hq
                  have B4 : Hid (Below w.heap.size w nq.w) := chain hO.out.1 nq.h
                  clear wne E0 E1 E2 E3 E4 E5 E6 hj1 hj2
                  go_wp2
                  go_roundg (n - (j + 1))
                  case measure => have := HJ.out.1; have := HJ.out.2.1; omega
                  case rel =>
                    refine ⟨j + 1, by have := HJ.out.1; omega, Nat.le_refl _, by go_num, B4.out, fun i hi => ?_⟩
                    by_cases hij : i = j
                    · subst hij; exact HG.out
                    · exact hO.out.2 i (by omega)
                · have hj1 : 0 < j := by omega
                  have hj2 : decide (0 < j) = true := decide_eq_true hj1
                  obtain ⟨k, hk⟩ : ∃ k, j = k + 1 := ⟨j - 1, by omega⟩
                  obtain ⟨bk2, off2, q, s, he, hqj, hsj, hqat, hqel, hqlt⟩ := (H.out.1.below hO.out.1).elem (show k < n by have := HJ.out.1; omega)
                  injection he with he
                  injection he with he1 he2
                  subst he1 he2
                  obtain ⟨K, hK⟩ := CmpM.ex o s.m t.m
                  have HK : Hid (CmpM o s.m t.m K ∧ ls[k]? = some s ∧ s.m = ⟨q.a, q.b, q.c, q.d⟩ ∧ j = k + 1 ∧ MayT s) := ⟨hK, hsj, hqat.mo, hk, (hO.out.2 k (by omega) s hsj).1⟩
                  have HC : Hid (Mn.CmpIs o q.a q.b q.c q.d pa pb pc pd K) := by
                    have h := HK.out.1
                    rw [HK.out.2.2.1, HJ.out.2.2.2.mo] at h
                    exact h
                  obtain ⟨qneg, qno, qnn, qnc, qeo, qen, qec, qa, qb, qc, qd⟩ := q
                  dsimp only at HC
                  have hw1 : IntKind.i64.wrap ((j : Int) - 1) = (k : Int) := by rw [IntKind.wrap_i64]; omega
                  have hk0 : (0 : Int) ≤ (k : Int) := by omega
                  have hkn : (k : Int) < (n : Int) := by have := HJ.out.1; omega
                  have F3 : ∀ m : Mn.Wd wr, m.w.cell? ⟨bk, off + k * 7 + 3, none⟩ = some (.int .i64 qa) := fun m => (hqel.wd hqlt m).c3
                  have F4 : ∀ m : Mn.Wd wr, m.w.cell? ⟨bk, off + k * 7 + 3 + 1, none⟩ = some (.int .i64 qb) := fun m => (hqel.wd hqlt m).c4
                  have F5 : ∀ m : Mn.Wd wr, m.w.cell? ⟨bk, off + k * 7 + 3 + 2, none⟩ = some (.int .i64 qc) := fun m => (hqel.wd hqlt m).c5
                  have F6 : ∀ m : Mn.Wd wr, m.w.cell? ⟨bk, off + k * 7 + 3 + 3, none⟩ = some (.int .i64 qd) := fun m => (hqel.wd hqlt m).c6
                  clear hK hsj hqj hqat hqel hqlt hk hj0'
                  have hsp := HK.out.1.spec HK.out.2.2.2.2.m HT.out.m HO.out
                  by_cases hk1 : K = 1
                  · subst hk1
                    have HU : Hid (UpM o s.m t.m) := by
                      rcases hsp with ⟨_, h⟩ | ⟨h, _⟩ | ⟨h, _⟩
                      · exact h
                      · exact absurd h (by decide)
                      · exact absurd h (by decide)
                    clear hsp
                    have HG : Hid (Good o ls j) := good_at HJ.out.2.2.1 HT.out HZ.out fun _ s' hs' => by
                      have e2 : s' = s := by rw [HK.out.2.2.2.1, Nat.add_sub_cancel, HK.out.2.1] at hs'; injection hs' with e2; exact e2.symm
                      rw [e2]
                      exact HU.out
                    go_wp2_with fail
                    refine Mn.region_wd (by kernel_rfl) (by kernel_rfl) ?_
                    repeat (go_big_quiet_step ((first | (go_at_call 37; exact Mn.wd_of (rrmay_r _ _ _ _ _ _ _ t.c _ (HJ.out.2.2.2.rat.below (Mn.Wd.h _)) HJ.out.2.2.2.neg true (yes_iff HR.out))) | (go_at_call 38; exact Mn.wd_of (rzeroR_b _ _ _ _ _ _ _ t.c _ (HJ.out.2.2.2.rat.below (Mn.Wd.h _)) HR.out false (no_iff HZ.out))) | (go_at_call 39; exact Mn.wd_of (Mn.rmay_yes _ _ _ _ _ HM.out)) | (go_at_call 40; exact Mn.wd_of (Mn.rcmp_val _ _ _ _ _ _ _ _ _ _ _ HC.out)))))
                    refine wpQuiet_nil ?_
                    intro _ hw
                    obtain ⟨nq, hq⟩ := hw
                    subst hq
                    have B4 : Hid (Below w.heap.size w nq.w) := chain hO.out.1 nq.h
                    clear wne E0 E1 E2 E3 E4 E5 E6 F3 F4 F5 F6 hw1 hk0 hkn hj1 hj2
                    go_wp2
                    go_roundg (n - (j + 1))
                    case measure => have := HJ.out.1; have := HJ.out.2.1; omega
                    case rel =>
                      refine ⟨j + 1, by have := HJ.out.1; omega, Nat.le_refl _, by go_num, B4.out, fun i hi => ?_⟩
                      by_cases hij : i = j
                      · subst hij; exact HG.out
                      · exact hO.out.2 i (by omega)
                  · have hK0 : K ≤ 0 := by rcases hsp with ⟨h, _⟩ | ⟨h, _⟩ | ⟨h, _⟩ <;> omega
                    have hbf : b = false := isFalse H.out.2 fun hp => by
                      have h1 := (hp.good j t HJ.out.2.2.1).2.2 s (by have := HK.out.2.2.2.1; omega) (by rw [HK.out.2.2.2.1, Nat.add_sub_cancel]; exact HK.out.2.1)
                      rcases hsp with ⟨h, _⟩ | ⟨_, h⟩ | ⟨_, h⟩
                      · exact hk1 h
                      · rw [h] at h1; exact h1.self HO.out
                      · exact h1.irr h HO.out
                    subst hbf
                    clear hsp hk1
                    go_wp2_with fail
                    refine Mn.region_wd (by kernel_rfl) (by kernel_rfl) ?_
                    repeat (go_big_quiet_step ((first | (go_at_call 37; exact Mn.wd_of (rrmay_r _ _ _ _ _ _ _ t.c _ (HJ.out.2.2.2.rat.below (Mn.Wd.h _)) HJ.out.2.2.2.neg true (yes_iff HR.out))) | (go_at_call 38; exact Mn.wd_of (rzeroR_b _ _ _ _ _ _ _ t.c _ (HJ.out.2.2.2.rat.below (Mn.Wd.h _)) HR.out false (no_iff HZ.out))) | (go_at_call 39; exact Mn.wd_of (Mn.rmay_yes _ _ _ _ _ HM.out)) | (go_at_call 40; exact Mn.wd_of (Mn.rcmp_val _ _ _ _ _ _ _ _ _ _ _ HC.out)))))
                    refine wpQuiet_nil ?_
                    intro _ hw
                    obtain ⟨nq, hq⟩ := hw
                    subst hq
                    have B4 : Hid (Below w.heap.size w nq.w) := chain hO.out.1 nq.h
                    clear wne E0 E1 E2 E3 E4 E5 E6 F3 F4 F5 F6
                    go_wp2
                    go_ret
                    exact ⟨rfl, B4.out⟩
              · have HM : Hid (¬ Mn.May4 pa pb pc pd) := hm
                have hbf : b = false := isFalse H.out.2 fun hp => hm (HJ.out.2.2.2.may4.1 (hp.good j t HJ.out.2.2.1).1.m)
                subst hbf
                clear hm
                go_wp2_with fail
                refine Mn.region_wd (by kernel_rfl) (by kernel_rfl) ?_
                repeat (go_big_quiet_step ((first | (go_at_call 37; exact Mn.wd_of (rrmay_r _ _ _ _ _ _ _ t.c _ (HJ.out.2.2.2.rat.below (Mn.Wd.h _)) HJ.out.2.2.2.neg true (yes_iff HR.out))) | (go_at_call 38; exact Mn.wd_of (rzeroR_b _ _ _ _ _ _ _ t.c _ (HJ.out.2.2.2.rat.below (Mn.Wd.h _)) HR.out false (no_iff HZ.out))) | (go_at_call 39; exact Mn.wd_of (Mn.rmay_no _ _ _ _ _ HM.out)))))
                refine wpQuiet_nil ?_
                intro _ hw
                obtain ⟨nq, hq⟩ := hw
                subst hq
                have B4 : Hid (Below w.heap.size w nq.w) := chain hO.out.1 nq.h
                clear wne E0 E1 E2 E3 E4 E5 E6 
                go_wp2
                go_ret
                exact ⟨rfl, B4.out⟩
          · have HR : Hid (¬ MayR t.c) := hr
            have hbf : b = false := isFalse H.out.2 fun hp => hr (hp.good j t HJ.out.2.2.1).1.c
            subst hbf
            clear hr
            go_wp2_with fail
            refine Mn.region_wd (by kernel_rfl) (by kernel_rfl) ?_
            repeat (go_big_quiet_step ((go_at_call 37; exact Mn.wd_of (rrmay_r _ _ _ _ _ _ _ t.c _ (HJ.out.2.2.2.rat.below (Mn.Wd.h _)) HJ.out.2.2.2.neg false (no_iff HR.out)))))
            refine wpQuiet_nil ?_
            intro _ hw
            obtain ⟨nq, hq⟩ := hw
            subst hq
            have B4 : Hid (Below w.heap.size w nq.w) := chain hO.out.1 nq.h
            clear wne E0 E1 E2 E3 E4 E5 E6 
            go_wp2
            go_ret
            exact ⟨rfl, B4.out⟩
        · have hjn : j = n := by omega
          have hbt : b = true := H.out.2.2 (mayP_of HO.out (by rw [H.out.1.len]; exact h60) (fun i hi => hO.out.2 i (by rw [H.out.1.len] at hi; omega)))
          subst hbt
          subst hjn
          clear hj hjr h0
          go_wp2
          go_ret
          exact ⟨rfl, hO.out.1⟩
    · have h60' : (60 : Int) < (n : Int) := by omega
      have hbf : b = false := isFalse H.out.2 fun hp => by have := hp.len; rw [H.out.1.len] at this; omega
      subst hbf
      go_wp2
      go_ret
      exact ⟨rfl, B1.out⟩
  · have hbf : b = false := isFalse H.out.2 fun hp => ho hp.ord
    subst hbf
    have HO : Hid (¬ Ord o) := ho
    clear ho
    go_enter Tryz.func20, Tryz.ntmps20
    go_wp2_with fail
    refine (ordered_b o false _ (no_iff HO.out)).mono ?_
    rintro e w1 ⟨rfl, b1⟩
    have B1 : Hid (Below w.heap.size w w1) := b1
    clear b1
    go_wp2
    go_ret
    exact ⟨rfl, B1.out⟩
end Go.Proofs.YtnedghhcidohnaaGreat

/-! The reference's Inv and Neg of layer 5, of numbers that may be and are not 0. -/
namespace Go.Proofs.YtnedghhcidohnaaGreat
open Go.RowKit

set_option maxRecDepth 100000 in
set_option maxHeartbeats 2000000 in
theorem rneg_r (an : Bool) (ao : Option Addr) (al ac : Nat) (aeo : Option Addr) (ael aec : Nat) (a : RatL) (w : World) (ha : RatAt w ao al ac aeo ael aec a) (hga : a.neg = an) (hma : MayR a) (hz : a.top ≠ 0) :
    Calls Tryz.prog 72 #[.agg #[.bool an, .slice ao al ac, .slice aeo ael aec]] w fun e w' => e = .returned (.agg #[.bool (!an), .slice ao al ac, .slice aeo ael aec]) ∧ RatAt w' ao al ac aeo ael aec ⟨!an, a.num, a.den⟩ ∧ Below w.heap.size w w' := by
  have hb2 := below2' w (.cells #[.bool an, .slice ao al ac, .slice aeo ael aec] 45) (.cells #[.bool false, .slice none 0 0, .slice none 0 0] 45)
  have ba := (RBox.new w an ao al ac aeo ael aec).alloc (.cells #[.bool false, .slice none 0 0, .slice none 0 0] 45)
  have bb := RBox.new (w.alloc (.cells #[.bool an, .slice ao al ac, .slice aeo ael aec] 45)) false none 0 0 none 0 0
  rw [World.size_alloc] at bb
  have H : Hid (RatAt _ ao al ac aeo ael aec a ∧ RBox _ w.heap.size an ao al ac aeo ael aec ∧ RBox _ (w.heap.size + 1) false none 0 0 none 0 0 ∧ Below w.heap.size w _ ∧ a.neg = an ∧ MayR a ∧ a.top ≠ 0) := ⟨ha.below hb2, ba, bb, hb2, hga, hma, hz⟩
  have c0 := H.out.2.1.c0
  have c1 := H.out.2.1.c1
  have c2 := H.out.2.1.c2
  clear ha hga hb2 ba bb hma hz
  go_enter Tryz.func72, Tryz.ntmps72
  go_wp2_with fail
  refine (rzeroR_b _ _ _ _ _ _ _ a _ H.out.1 H.out.2.2.2.2.2.1 false (no_iff2 H.out.2.2.2.2.2.2)).mono ?_
  rintro e w1 ⟨rfl, b1⟩
  have H1 : Hid (RatAt w1 ao al ac aeo ael aec a ∧ RBox w1 w.heap.size an ao al ac aeo ael aec ∧ RBox w1 (w.heap.size + 1) false none 0 0 none 0 0 ∧ Below w.heap.size w w1) := ⟨H.out.1.below b1, H.out.2.1.below b1, H.out.2.2.1.below b1, chain H.out.2.2.2.1 b1⟩
  clear b1 c0 c1 c2
  have c0 := H1.out.2.1.c0
  have c1 := H1.out.2.1.c1
  have c2 := H1.out.2.1.c2
  have r0 := H1.out.2.2.1.c0
  have r1 := H1.out.2.2.1.c1
  have r2 := H1.out.2.2.1.c2
  have f0 := H1.out.2.2.1.f 0
  have f1 := H1.out.2.2.1.f 1
  have f2 := H1.out.2.2.1.f 2
  have Q : Hid (RatAt w1 ao al ac aeo ael aec ⟨!an, a.num, a.den⟩) := ⟨H1.out.1.num, H1.out.1.den⟩
  have HR : Hid _ := H1.out.2.2.1.set (!an) ao al ac aeo ael aec
  have HT : Hid _ := Q.out.setR H1.out.2.2.1 (.bool (!an)) (.slice ao al ac) (.slice aeo ael aec)
  go_wp2_with fail
  exact bodyPost_ret (results_r1 rfl _ HR.out rfl) rfl ⟨rfl, HT.out, below_set H1.out.2.2.2 (by omega) _ _ _⟩
end Go.Proofs.YtnedghhcidohnaaGreat

/-! The reference's put. -/
namespace Go.Proofs.YtnedghhcidohnaaGreat
open Go.RowKit

/-- A term's box, and a row that grows. -/
structure PutSt (w : World) (tp : TP) (W : World) (g n cap : Nat) (qs : List TP) (us : List TL) : Prop where
  bel : Below w.heap.size w W
  box : MBx W w.heap.size tp
  own : TermsOwn W (w.heap.size + 1) (.slice (some ⟨g, 0, none⟩) n cap) qs us
  len : qs.length = n

theorem PutSt.ge {w : World} {tp : TP} {W : World} {g n cap : Nat} {qs : List TP} {us : List TL} (h : PutSt w tp W g n cap qs us) : w.heap.size + 1 ≤ g := (h.own.own.row.lt g rfl).1
theorem PutSt.size {w : World} {tp : TP} {W : World} {g n cap : Nat} {qs : List TP} {us : List TL} (h : PutSt w tp W g n cap qs us) : w.heap.size + 1 ≤ W.heap.size := h.box.lt
theorem PutSt.below {w : World} {tp : TP} {W W' : World} {g n cap : Nat} {qs : List TP} {us : List TL} (h : PutSt w tp W g n cap qs us) (hb : Below W.heap.size W W') : PutSt w tp W' g n cap qs us := ⟨chain h.bel hb, h.box.below hb, h.own.below hb, h.len⟩
theorem PutSt.own' {w : World} {tp : TP} {W : World} {g n cap : Nat} {qs : List TP} {us : List TL} (h : PutSt w tp W g n cap qs us) : OwnS W (w.heap.size + 1) 49 7 (.slice (some ⟨g, 0, none⟩) n cap) n (tcells qs) := by
  have := h.own.own
  rwa [h.len] at this
theorem PutSt.step {w : World} {tp : TP} {W W' : World} {g n cap g' cap' : Nat} {qs : List TP} {us : List TL} {p : TP} {s : TL} (h : PutSt w tp W g n cap qs us) (hs : TermAt W p s)
    (ho : OwnS W' (w.heap.size + 1) 49 7 (.slice (some ⟨g', 0, none⟩) (n + 1) cap') (n + 1) (tcells qs ++ p.cs)) (hg : W.grownBy W' (Value.ownBlock (.slice (some ⟨g, 0, none⟩) n cap))) : PutSt w tp W' g' (n + 1) cap' (qs ++ [p]) (us ++ [s]) := by
  have hge := h.ge
  have hg' : W.grownBy W' (some g) := hg
  refine ⟨h.bel.grown hg' h.bel.size (fun k hk => by cases hk; omega), ?_, h.own.put1 hs h.len ho hg, by simp [h.len]⟩
  exact (hg'.block w.heap.size h.box.lt (by simp; omega)).trans h.box

theorem ins_any {o : Int} {t : TL} {k : Int} (e : k ≠ 0) : ∀ {p rest out : List TL}, Ins o t p rest k → Ins o t p out k
  | [], _, _, h => absurd h.2 e
  | s :: p, rest, out, h => ⟨fun hu => by
      obtain ⟨r, h1, _⟩ := h.1 hu
      exact ⟨r, h1, fun hk => absurd hk e⟩, fun hu => by
      obtain ⟨x, j, h1, h2, h3⟩ := h.2.1 hu
      exact ⟨x, j, h1, h2, fun hj => absurd (h3 hj).2 e⟩, fun hu => absurd (h.2.2 hu).2 e⟩

theorem poly_of {w : World} {base g n cap m : Nat} {ps : List TP} {ls : List TL} (h : TermsOwn w base (.slice (some ⟨g, 0, none⟩) n cap) ps ls) (hl : ps.length = n) (hm : n ≤ m) : PolyAt w (some ⟨g, 0, none⟩) n cap ps ls ∧ n ≤ m := by
  obtain ⟨lo, cap', e, hp, _⟩ := h.poly
  injection e with e1 e2 e3
  subst e1 e3
  rw [hl] at hp
  exact ⟨hp, hm⟩

/-- Where the walk of put stands. -/
structure PutIs (o : Int) (t : TL) (ls us : List TL) (j : Nat) (d : Bool) : Prop where
  no : d = false → ∀ out rest k, Ins o t (ls.drop j) rest k → (k = 0 → out = us ++ rest) → Ins o t ls out k
  yes : d = true → Ins o t ls (us ++ ls.drop j) 0 ∧ ∀ s ∈ ls.drop j, UpM o t.m s.m

theorem drop_at' {A : Type} (l : List A) (i : Nat) (a : A) (h : l[i]? = some a) : l.drop i = a :: l.drop (i + 1) := by
  obtain ⟨hl, rfl⟩ := List.getElem?_eq_some_iff.1 h
  exact List.drop_eq_getElem_cons hl

theorem PutIs.up {o : Int} {t s : TL} {ls us : List TL} {j : Nat} (h : PutIs o t ls us j false) (hs : ls[j]? = some s) (hu : UpM o s.m t.m) (ho : Ord o) : PutIs o t ls (us ++ [s]) (j + 1) false := by
  refine ⟨fun _ out rest k hi hk => ?_, (fun e => by cases e)⟩
  refine h.no rfl out (s :: rest) k ?_ (fun e => by rw [hk e]; simp)
  rw [drop_at' ls j s hs]
  exact ⟨fun _ => ⟨rest, hi, fun _ => rfl⟩, fun e => by rw [e] at hu; exact (hu.self ho).elim, fun e => (hu.irr e ho).elim⟩
theorem PutIs.down {o : Int} {t s : TL} {ls us : List TL} {j : Nat} (h : PutIs o t ls us j false) (hs : ls[j]? = some s) (hu : UpM o t.m s.m) (ho : Ord o) (hf : Falls o ls) : PutIs o t ls (us ++ [t] ++ [s]) (j + 1) true := by
  have hd := drop_at' ls j s hs
  have hfd : Falls o (ls.drop j) := hf.sublist (List.drop_sublist j ls)
  rw [hd] at hfd
  obtain ⟨h1, _⟩ := List.pairwise_cons.1 hfd
  refine ⟨(fun e => by cases e), fun _ => ⟨?_, fun u hu' => hu.trans (h1 u hu') ho⟩⟩
  refine h.no rfl _ (t :: s :: ls.drop (j + 1)) 0 ?_ (fun _ => by simp)
  rw [hd]
  exact ⟨fun e => (hu.irr e ho).elim, fun e => by rw [e] at hu; exact (hu.self ho).elim, fun _ => ⟨rfl, rfl⟩⟩
theorem PutIs.same {o : Int} {t s : TL} {x : RatL} {ls us : List TL} {j : Nat} (h : PutIs o t ls us j false) (hs : ls[j]? = some s) (hu : s.m = t.m) (ho : Ord o) (hf : Falls o ls) (hx : AddOut s.c t.c x 0) : PutIs o t ls (us ++ [⟨x, t.m⟩]) (j + 1) true := by
  have hd := drop_at' ls j s hs
  have hfd : Falls o (ls.drop j) := hf.sublist (List.drop_sublist j ls)
  rw [hd] at hfd
  obtain ⟨h1, _⟩ := List.pairwise_cons.1 hfd
  refine ⟨(fun e => by cases e), fun _ => ⟨?_, fun u hu' => by have := h1 u hu'; rw [hu] at this; exact this⟩⟩
  refine h.no rfl _ (⟨x, t.m⟩ :: ls.drop (j + 1)) 0 ?_ (fun _ => by simp)
  rw [hd]
  refine ⟨fun e => by rw [hu] at e; exact (e.self ho).elim, fun _ => ⟨x, 0, hx, fun e => absurd rfl e, fun _ => ⟨rfl, rfl⟩⟩, fun e => by rw [hu] at e; exact (e.self ho).elim⟩
theorem PutIs.bad {o : Int} {t s : TL} {x : RatL} {k : Int} {ls us : List TL} {j : Nat} (h : PutIs o t ls us j false) (hs : ls[j]? = some s) (hu : s.m = t.m) (ho : Ord o) (hx : AddOut s.c t.c x k) (hk : k ≠ 0) (out : List TL) : Ins o t ls out k := by
  refine h.no rfl out [] k ?_ (fun e => absurd e hk)
  rw [drop_at' ls j s hs]
  exact ⟨fun e => by rw [hu] at e; exact (e.self ho).elim, fun _ => ⟨x, k, hx, fun _ => rfl, fun e => absurd e hk⟩, fun e => by rw [hu] at e; exact (e.self ho).elim⟩
theorem PutIs.on {o : Int} {t s : TL} {ls us : List TL} {j : Nat} (h : PutIs o t ls us j true) (hs : ls[j]? = some s) : PutIs o t ls (us ++ [s]) (j + 1) true := by
  have hd := drop_at' ls j s hs
  obtain ⟨h1, h2⟩ := h.yes rfl
  rw [hd] at h1 h2
  exact ⟨(fun e => by cases e), fun _ => ⟨by simpa using h1, fun u hu => h2 u (.tail _ hu)⟩⟩
theorem PutIs.after {o : Int} {t s : TL} {ls us : List TL} {j : Nat} (h : PutIs o t ls us j true) (hs : ls[j]? = some s) : UpM o t.m s.m := by
  have := (h.yes rfl).2 s
  rw [drop_at' ls j s hs] at this
  exact this (.head _)
theorem PutIs.end0 {o : Int} {t : TL} {ls us : List TL} {j : Nat} (h : PutIs o t ls us j false) (hj : ls.length ≤ j) : Ins o t ls (us ++ [t]) 0 :=
  h.no rfl _ [t] 0 (by rw [List.drop_of_length_le hj]; exact ⟨rfl, rfl⟩) (fun _ => rfl)
theorem PutIs.end1 {o : Int} {t : TL} {ls us : List TL} {j : Nat} (h : PutIs o t ls us j true) (hj : ls.length ≤ j) : Ins o t ls us 0 := by
  have := (h.yes rfl).1
  rwa [List.drop_of_length_le hj, List.append_nil] at this

set_option maxRecDepth 100000 in
set_option maxHeartbeats 16000000 in
theorem put_r (o : Int) (lo : Option Addr) (n cap : Nat) (ps : List TP) (ls : List TL) (tp : TP) (t : TL) (w : World) (h : PolyAt w lo n cap ps ls) (ht : TermAt w tp t) (hn : n ≤ 100000) (ho : Ord o) (hm : ∀ s ∈ ls, MayT s) (hmt : MayT t) (hf : Falls o ls) :
    Calls Tryz.prog 73 #[.int .i64 o, .slice lo n cap, .agg #[.bool tp.neg, .slice tp.no tp.nn tp.nc, .slice tp.eo tp.en tp.ec, .int .i64 tp.a, .int .i64 tp.b, .int .i64 tp.c, .int .i64 tp.d]] w fun e w' =>
      ∃ ro rn rc k qs out, e = .returned (.tuple #[.slice ro rn rc, .int .i64 k]) ∧ (k ≠ 0 → ro = none ∧ rn = 0 ∧ rc = 0) ∧ (k = 0 → PolyAt w' ro rn rc qs out ∧ rn ≤ n + 1) ∧ Ins o t ls out k ∧ Below w.heap.size w w' := by
  have hN : (n : Int) ≤ 100000 := by omega
  obtain ⟨i0, hi0, hz0, hz1, hz2⟩ := info_parts info39
  obtain ⟨tg, tno, tnn, tnc, teo, ten, tec, ta, tb, tc, td⟩ := tp
  dsimp only
  have hbx := MBx.new w ⟨tg, tno, tnn, tnc, teo, ten, tec, ta, tb, tc, td⟩
  dsimp only at hbx
  have hmk := TermsOwn.made (w.alloc (.cells #[.bool tg, .slice tno tnn tnc, .slice teo ten tec, .int .i64 ta, .int .i64 tb, .int .i64 tc, .int .i64 td] 49)) (w.heap.size + 1) (by simp)
  rw [World.size_alloc] at hmk
  have H : Hid (PolyAt w lo n cap ps ls ∧ TermAt w ⟨tg, tno, tnn, tnc, teo, ten, tec, ta, tb, tc, td⟩ t ∧ n ≤ 100000 ∧ Ord o ∧ (∀ s ∈ ls, MayT s) ∧ MayT t ∧ Falls o ls) := ⟨h, ht, hn, ho, hm, hmt, hf⟩
  have HS : Hid (PutSt w ⟨tg, tno, tnn, tnc, teo, ten, tec, ta, tb, tc, td⟩ ((w.alloc (.cells #[.bool tg, .slice tno tnn tnc, .slice teo ten tec, .int .i64 ta, .int .i64 tb, .int .i64 tc, .int .i64 td] 49)).alloc (.cells #[] 49)) (w.heap.size + 1) 0 0 [] []) := ⟨below2' w _ _, hbx.below (bel1 _ _), hmk, rfl⟩
  clear h ht hn ho hm hmt hf hbx hmk
  go_enter Tryz.func73, Tryz.ntmps73
  go_wp2_with fail
  go_loopg [8, 9, 10] n (fun m v dv i wr => ∃ (j : Nat) (d : Bool) (g k c : Nat) (qs : List TP) (us : List TL), j ≤ n ∧ n - j ≤ m ∧ i = .int .i64 j ∧ dv = .bool d ∧ v = .slice (some ⟨g, 0, none⟩) k c ∧ Hid (PutSt w ⟨tg, tno, tnn, tnc, teo, ten, tec, ta, tb, tc, td⟩ wr g k c qs us ∧ PutIs o t ls us j d ∧ k ≤ j + d.toNat))
  case atStart => exact ⟨0, false, _, 0, 0, [], [], Nat.zero_le _, by omega, rfl, rfl, rfl, HS.out, ⟨fun _ out rest k hi hk => by
    by_cases e : k = 0
    · rw [hk e]; exact hi
    · exact ins_any e hi, (fun e => by cases e)⟩, by simp⟩
  case round =>
    obtain ⟨j, d, g, kk, cc, qs, us, hj, hjr, rfl, rfl, rfl, hO⟩ := hrel
    have HB : Hid (kk ≤ n + 1) := by
      have h : kk ≤ n + 1 := by
        have h1 := hO.out.2.2
        have h2 : d.toNat ≤ 1 := by cases d <;> simp
        omega
      exact h
    by_cases h0 : j < n
    · obtain ⟨bk, off, p, s, rfl, hpj, hsj, hat0, hel0, hblt0⟩ := H.out.1.elem h0
      have hat := hat0.below hO.out.1.bel
      have hel := hel0.below hblt0 hO.out.1.bel
      have hblt := Nat.lt_of_lt_of_le hblt0 hO.out.1.bel.size
      have hjn : (j : Int) < (n : Int) := by omega
      have hj0 : (0 : Int) ≤ (j : Int) := by omega
      obtain ⟨pg, no, nn, nc, eo, en, ec, pa, pb, pc, pd⟩ := p
      have HE : Hid (TermAt w ⟨pg, no, nn, nc, eo, en, ec, pa, pb, pc, pd⟩ s ∧ ElemAt w bk (off + j * 7) ⟨pg, no, nn, nc, eo, en, ec, pa, pb, pc, pd⟩ ∧ bk < w.heap.size) := ⟨hat0, hel0, hblt0⟩
      have E3 : ∀ m : Mn.Wd wr, m.w.cell? ⟨bk, off + j * 7 + 3, none⟩ = some (.int .i64 pa) := fun m => (hel.wd hblt m).c3
      have E4 : ∀ m : Mn.Wd wr, m.w.cell? ⟨bk, off + j * 7 + 3 + 1, none⟩ = some (.int .i64 pb) := fun m => (hel.wd hblt m).c4
      have E5 : ∀ m : Mn.Wd wr, m.w.cell? ⟨bk, off + j * 7 + 3 + 2, none⟩ = some (.int .i64 pc) := fun m => (hel.wd hblt m).c5
      have E6 : ∀ m : Mn.Wd wr, m.w.cell? ⟨bk, off + j * 7 + 3 + 3, none⟩ = some (.int .i64 pd) := fun m => (hel.wd hblt m).c6
      have F3 : ∀ m : Mn.Wd wr, m.w.cell? ⟨w.heap.size, 3, none⟩ = some (.int .i64 ta) := fun m => (hO.out.1.box.wd m).el.2.2.2.1
      have F4 : ∀ m : Mn.Wd wr, m.w.cell? ⟨w.heap.size, 4, none⟩ = some (.int .i64 tb) := fun m => (hO.out.1.box.wd m).el.2.2.2.2.1
      have F5 : ∀ m : Mn.Wd wr, m.w.cell? ⟨w.heap.size, 5, none⟩ = some (.int .i64 tc) := fun m => (hO.out.1.box.wd m).el.2.2.2.2.2.1
      have F6 : ∀ m : Mn.Wd wr, m.w.cell? ⟨w.heap.size, 6, none⟩ = some (.int .i64 td) := fun m => (hO.out.1.box.wd m).el.2.2.2.2.2.2
      have wne : Nonempty (Mn.Wd wr) := ⟨⟨_, Below.refl _ _⟩⟩
      obtain ⟨K, hK⟩ := CmpM.ex o s.m t.m
      have hC : Mn.CmpIs o pa pb pc pd ta tb tc td K := by
        have h := hK
        rw [hat.mo, H.out.2.1.mo] at h
        exact h
      have HJ : Hid (j < n ∧ n - j ≤ _ ∧ ls[j]? = some s ∧ TermAt wr ⟨pg, no, nn, nc, eo, en, ec, pa, pb, pc, pd⟩ s ∧ ElemAt wr bk (off + j * 7) ⟨pg, no, nn, nc, eo, en, ec, pa, pb, pc, pd⟩ ∧ bk < wr.heap.size ∧ MayT s ∧ CmpM o s.m t.m K ∧ Mn.CmpIs o pa pb pc pd ta tb tc td K) := ⟨h0, hjr, hsj, hat, hel, hblt, H.out.2.2.2.2.1 s (List.mem_of_getElem? hsj), hK, hC⟩
      clear hpj hsj hat hel hblt hj hjr h0 hK hC hat0 hel0 hblt0
      go_wp2_with fail
      refine Mn.region_wd (by kernel_rfl) (by kernel_rfl) ?_
      repeat (go_big_quiet_step ((go_at_call 40; exact Mn.wd_of (Mn.rcmp_val _ _ _ _ _ _ _ _ _ _ _ HJ.out.2.2.2.2.2.2.2.2))))
      refine wpQuiet_nil ?_
      intro _ hw
      obtain ⟨nq, hq⟩ := hw
      subst hq
      obtain ⟨W, hW⟩ : ∃ W, W = nq.w := ⟨_, rfl⟩
      have HW : Hid (PutSt w ⟨tg, tno, tnn, tnc, teo, ten, tec, ta, tb, tc, td⟩ W g kk cc qs us ∧ TermAt W ⟨pg, no, nn, nc, eo, en, ec, pa, pb, pc, pd⟩ s ∧ ElemAt W bk (off + j * 7) ⟨pg, no, nn, nc, eo, en, ec, pa, pb, pc, pd⟩ ∧ bk < W.heap.size ∧ TermAt W ⟨tg, tno, tnn, tnc, teo, ten, tec, ta, tb, tc, td⟩ t) := by
        rw [hW]
        exact ⟨hO.out.1.below nq.h, HJ.out.2.2.2.1.below nq.h, HJ.out.2.2.2.2.1.below HJ.out.2.2.2.2.2.1 nq.h, Nat.lt_of_lt_of_le HJ.out.2.2.2.2.2.1 nq.h.size, H.out.2.1.below (chain hO.out.1.bel nq.h)⟩
      rw [← hW]
      clear hW nq wne E3 E4 E5 E6 F3 F4 F5 F6
      rcases HJ.out.2.2.2.2.2.2.2.1.spec HJ.out.2.2.2.2.2.2.1.m H.out.2.2.2.2.2.1.m H.out.2.2.2.1 with ⟨hK1, hu⟩ | ⟨hK1, hu⟩ | ⟨hK1, hu⟩
      all_goals subst hK1
      · cases d with
        | true => exact ((hO.out.2.1.after HJ.out.2.2.1).irr hu H.out.2.2.2.1).elim
        | false =>
          have HI : Hid (PutIs o t ls (us ++ [s]) (j + 1) false) := hO.out.2.1.up HJ.out.2.2.1 hu H.out.2.2.2.1
          clear hu
          obtain ⟨e0, e1, e2, e3, e4, e5, e6⟩ := HW.out.2.2.1
          dsimp only at e0 e1 e2 e3 e4 e5 e6
          go_wp2_with (at_builtin; refine wpList_append_put _ rfl _ _ _ rfl (w.heap.size + 1) 49 i0 _ 7 88 Tryz.underlying23 hi0 hz0 hz1 hz2 rfl (by omega) zero39 _ kk (tcells qs) rfl (HW.out.1.below (bel1 W (.cells #[.bool pg, .slice no nn nc, .slice eo en ec, .int .i64 pa, .int .i64 pb, .int .i64 pc, .int .i64 pd] 49))).own' ⟨W.heap.size, 0, none⟩ 1 1 (TP.cs (⟨pg, no, nn, nc, eo, en, ec, pa, pb, pc, pd⟩ : TP)) rfl rfl (World.news_of_block (heap_alloc_new W _)) (TP.cs_one (⟨pg, no, nn, nc, eo, en, ec, pa, pb, pc, pd⟩ : TP)) (TP.cs_clean (⟨pg, no, nn, nc, eo, en, ec, pa, pb, pc, pd⟩ : TP)) (by omega) (by have := HB.out; have := H.out.2.2.1; unfold maxLen; omega) (by have := HB.out; have := H.out.2.2.1; omega) (by have := HW.out.1.size; rw [World.size_alloc]; omega) ?_)
          intro g4 c4 w4 o4 k4
          have H4 : Hid (PutSt w ⟨tg, tno, tnn, tnc, teo, ten, tec, ta, tb, tc, td⟩ w4 g4 (kk + 1) c4 (qs ++ [(⟨pg, no, nn, nc, eo, en, ec, pa, pb, pc, pd⟩ : TP)]) (us ++ [s])) := (HW.out.1.below (bel1 W (.cells #[.bool pg, .slice no nn nc, .slice eo en ec, .int .i64 pa, .int .i64 pb, .int .i64 pc, .int .i64 pd] 49))).step (HW.out.2.1.below (bel1 W (.cells #[.bool pg, .slice no nn nc, .slice eo en ec, .int .i64 pa, .int .i64 pb, .int .i64 pc, .int .i64 pd] 49))) o4 k4
          clear o4 k4
          clear e0 e1 e2 e3 e4 e5 e6
          go_wp2
          go_roundg (n - (j + 1))
          case measure => have := HJ.out.1; have := HJ.out.2.1; omega
          case rel => exact ⟨j + 1, false, g4, kk + 1, c4, _, _, by have := HJ.out.1; omega, Nat.le_refl _, by go_num, rfl, rfl, H4.out, HI.out, by have := hO.out.2.2; simp at this ⊢; omega⟩
      · cases d with
        | true => exact (by have h := hO.out.2.1.after HJ.out.2.2.1; rw [hu] at h; exact (h.self H.out.2.2.2.1).elim)
        | false =>
          have HU : Hid (s.m = t.m) := hu
          clear hu
          obtain ⟨e0, e1, e2, e3, e4, e5, e6⟩ := HW.out.2.2.1
          obtain ⟨f0, f1, f2, f3, f4, f5, f6⟩ := HW.out.1.box.el
          dsimp only at e0 e1 e2 f0 f1 f2
          have hZ : Below W.heap.size W (W.alloc (.cells #[.bool false, .slice none 0 0, .slice none 0 0] 45)) := bel1 _ _
          obtain ⟨g0, g1, g2, _, _, _, _⟩ := HW.out.2.2.1.below HW.out.2.2.2.1 hZ
          obtain ⟨h0, h1, h2, _, _, _, _⟩ := (HW.out.1.box.below hZ).el
          dsimp only at g0 g1 g2 h0 h1 h2
          clear e3 e4 e5 e6 f3 f4 f5 f6 hZ
          go_upto_region 8 with fail
          go_cut [12, 13] from 32 to 43 (fun s12 s13 wx => ∃ X xg xo xn xc xeo xen xec x k, s12 = .pointer (some ⟨X, 0, none⟩) ∧ s13 = .int .i64 k ∧ Hid (RBox wx X xg xo xn xc xeo xen xec ∧ RatAt wx xo xn xc xeo xen xec x ∧ x.neg = xg ∧ AddOut s.c t.c x k ∧ Below W.heap.size W wx))
          case first =>
            have hd : Below W.heap.size W W.drew := (Below.refl _ _).drew
            go_region_with (go_at_call 94; refine (rradd_r pg no nn nc eo en ec tg tno tnn tnc teo ten tec s.c t.c _ (HW.out.2.1.rat.below (by first | exact (Below.refl _ _).drew | exact ((Below.refl _ _).alloc (Nat.le_refl _) _).drew)) (HW.out.2.2.2.2.rat.below (by first | exact (Below.refl _ _).drew | exact ((Below.refl _ _).alloc (Nat.le_refl _) _).drew)) HW.out.2.1.neg HW.out.2.2.2.2.neg).mono ?_; rintro e w3 ⟨xg, xo, xn, xc, xeo, xen, xec, x, k, rfl, q1, q2, q3, q4⟩; try (have bz := RBox.below (W := (W.alloc (.cells #[.bool false, .slice none 0 0, .slice none 0 0] 45)).drew) (RBox.new W false none 0 0 none 0 0) q4; have z0 := bz.c0; have z1 := bz.c1; have z2 := bz.c2; have y0 := bz.f 0; have y1 := bz.f 1; have y2 := bz.f 2))
            all_goals
              go_wp2_with fail
              go_meet
              first
                | exact ⟨_, xg, xo, xn, xc, xeo, xen, xec, x, k, rfl, rfl, RBox.new w3 _ _ _ _ _ _ _, q2.below ((Below.refl _ _).alloc (Nat.le_refl _) _), q1, q3, (chain (Below.refl W.heap.size W).drew q4).alloc (chain (Below.refl W.heap.size W).drew q4).size _⟩
                | exact ⟨_, xg, xo, xn, xc, xeo, xen, xec, x, k, rfl, rfl, bz.set xg xo xn xc xeo xen xec, q2.setR bz _ _ _, q1, q3, below_set (chain ((Below.refl W.heap.size W).alloc (Nat.le_refl _) _).drew q4) (Nat.le_refl _) _ _ _⟩
          case rest =>
            rename World => wx
            obtain ⟨X, xg, xo, xn, xc, xeo, xen, xec, x, k, rfl, rfl, hX⟩ := hcut
            have HV : Hid (PutSt w ⟨tg, tno, tnn, tnc, teo, ten, tec, ta, tb, tc, td⟩ wx g kk cc qs us ∧ TermAt wx ⟨xg, xo, xn, xc, xeo, xen, xec, ta, tb, tc, td⟩ ⟨x, t.m⟩) := ⟨HW.out.1.below hX.out.2.2.2.2, ⟨hX.out.2.1, hX.out.2.2.1, H.out.2.1.mo⟩⟩
            have x0 := hX.out.1.c0
            have x1 := hX.out.1.c1
            have x2 := hX.out.1.c2
            clear e0 e1 e2 f0 f1 f2 g0 g1 g2 h0 h1 h2
            by_cases hk : k = 0
            · subst hk
              have HI : Hid (PutIs o t ls (us ++ [⟨x, t.m⟩]) (j + 1) true) := hO.out.2.1.same HJ.out.2.2.1 HU.out H.out.2.2.2.1 H.out.2.2.2.2.2.2 hX.out.2.2.2.1
              obtain ⟨_, _, _, f3, f4, f5, f6⟩ := HV.out.1.box.el
              dsimp only at f3 f4 f5 f6
              go_wp2_with (at_builtin; refine wpList_append_put _ rfl _ _ _ rfl (w.heap.size + 1) 49 i0 _ 7 88 Tryz.underlying23 hi0 hz0 hz1 hz2 rfl (by omega) zero39 _ kk (tcells qs) rfl (HV.out.1.below (bel1 wx (.cells #[.bool xg, .slice xo xn xc, .slice xeo xen xec, .int .i64 ta, .int .i64 tb, .int .i64 tc, .int .i64 td] 49))).own' ⟨wx.heap.size, 0, none⟩ 1 1 (TP.cs (⟨xg, xo, xn, xc, xeo, xen, xec, ta, tb, tc, td⟩ : TP)) rfl rfl (World.news_of_block (heap_alloc_new wx _)) (TP.cs_one (⟨xg, xo, xn, xc, xeo, xen, xec, ta, tb, tc, td⟩ : TP)) (TP.cs_clean (⟨xg, xo, xn, xc, xeo, xen, xec, ta, tb, tc, td⟩ : TP)) (by omega) (by have := HB.out; have := H.out.2.2.1; unfold maxLen; omega) (by have := HB.out; have := H.out.2.2.1; omega) (by have := HV.out.1.size; rw [World.size_alloc]; omega) ?_)
              intro g4 c4 w4 o4 k4
              have H4 : Hid (PutSt w ⟨tg, tno, tnn, tnc, teo, ten, tec, ta, tb, tc, td⟩ w4 g4 (kk + 1) c4 (qs ++ [(⟨xg, xo, xn, xc, xeo, xen, xec, ta, tb, tc, td⟩ : TP)]) (us ++ [⟨x, t.m⟩])) := (HV.out.1.below (bel1 wx (.cells #[.bool xg, .slice xo xn xc, .slice xeo xen xec, .int .i64 ta, .int .i64 tb, .int .i64 tc, .int .i64 td] 49))).step (HV.out.2.below (bel1 wx (.cells #[.bool xg, .slice xo xn xc, .slice xeo xen xec, .int .i64 ta, .int .i64 tb, .int .i64 tc, .int .i64 td] 49))) o4 k4
              clear o4 k4
              clear x0 x1 x2 f3 f4 f5 f6
              go_wp2
              go_roundg (n - (j + 1))
              case measure => have := HJ.out.1; have := HJ.out.2.1; omega
              case rel => exact ⟨j + 1, true, g4, kk + 1, c4, _, _, by have := HJ.out.1; omega, Nat.le_refl _, by go_num, rfl, rfl, H4.out, HI.out, by have := hO.out.2.2; simp at this ⊢; omega⟩
            · have HK : Hid (k ≠ 0) := hk
              go_wp2_with fail
              go_ret2
              refine ⟨none, 0, 0, k, rfl, fun _ => ⟨rfl, rfl, rfl⟩, [], [], fun e => absurd e HK.out, hO.out.2.1.bad HJ.out.2.2.1 HU.out H.out.2.2.2.1 hX.out.2.2.2.1 HK.out _, HV.out.1.bel⟩
      · cases d with
        | true =>
          have HI : Hid (PutIs o t ls (us ++ [s]) (j + 1) true) := hO.out.2.1.on HJ.out.2.2.1
          clear hu
          obtain ⟨e0, e1, e2, e3, e4, e5, e6⟩ := HW.out.2.2.1
          dsimp only at e0 e1 e2 e3 e4 e5 e6
          go_wp2_with (at_builtin; refine wpList_append_put _ rfl _ _ _ rfl (w.heap.size + 1) 49 i0 _ 7 88 Tryz.underlying23 hi0 hz0 hz1 hz2 rfl (by omega) zero39 _ kk (tcells qs) rfl (HW.out.1.below (bel1 W (.cells #[.bool pg, .slice no nn nc, .slice eo en ec, .int .i64 pa, .int .i64 pb, .int .i64 pc, .int .i64 pd] 49))).own' ⟨W.heap.size, 0, none⟩ 1 1 (TP.cs (⟨pg, no, nn, nc, eo, en, ec, pa, pb, pc, pd⟩ : TP)) rfl rfl (World.news_of_block (heap_alloc_new W _)) (TP.cs_one (⟨pg, no, nn, nc, eo, en, ec, pa, pb, pc, pd⟩ : TP)) (TP.cs_clean (⟨pg, no, nn, nc, eo, en, ec, pa, pb, pc, pd⟩ : TP)) (by omega) (by have := HB.out; have := H.out.2.2.1; unfold maxLen; omega) (by have := HB.out; have := H.out.2.2.1; omega) (by have := HW.out.1.size; rw [World.size_alloc]; omega) ?_)
          intro g4 c4 w4 o4 k4
          have H4 : Hid (PutSt w ⟨tg, tno, tnn, tnc, teo, ten, tec, ta, tb, tc, td⟩ w4 g4 (kk + 1) c4 (qs ++ [(⟨pg, no, nn, nc, eo, en, ec, pa, pb, pc, pd⟩ : TP)]) (us ++ [s])) := (HW.out.1.below (bel1 W (.cells #[.bool pg, .slice no nn nc, .slice eo en ec, .int .i64 pa, .int .i64 pb, .int .i64 pc, .int .i64 pd] 49))).step (HW.out.2.1.below (bel1 W (.cells #[.bool pg, .slice no nn nc, .slice eo en ec, .int .i64 pa, .int .i64 pb, .int .i64 pc, .int .i64 pd] 49))) o4 k4
          clear o4 k4
          clear e0 e1 e2 e3 e4 e5 e6
          go_wp2
          go_roundg (n - (j + 1))
          case measure => have := HJ.out.1; have := HJ.out.2.1; omega
          case rel => exact ⟨j + 1, true, g4, kk + 1, c4, _, _, by have := HJ.out.1; omega, Nat.le_refl _, by go_num, rfl, rfl, H4.out, HI.out, by have := hO.out.2.2; simp at this ⊢; omega⟩
        | false =>
          have HI : Hid (PutIs o t ls (us ++ [t] ++ [s]) (j + 1) true) := hO.out.2.1.down HJ.out.2.2.1 hu H.out.2.2.2.1 H.out.2.2.2.2.2.2
          clear hu
          obtain ⟨f0, f1, f2, f3, f4, f5, f6⟩ := HW.out.1.box.el
          dsimp only at f0 f1 f2 f3 f4 f5 f6
          go_wp2_with (at_builtin; refine wpList_append_put _ rfl _ _ _ rfl (w.heap.size + 1) 49 i0 _ 7 88 Tryz.underlying23 hi0 hz0 hz1 hz2 rfl (by omega) zero39 _ kk (tcells qs) rfl (HW.out.1.below (bel1 W (.cells #[.bool tg, .slice tno tnn tnc, .slice teo ten tec, .int .i64 ta, .int .i64 tb, .int .i64 tc, .int .i64 td] 49))).own' ⟨W.heap.size, 0, none⟩ 1 1 (TP.cs (⟨tg, tno, tnn, tnc, teo, ten, tec, ta, tb, tc, td⟩ : TP)) rfl rfl (World.news_of_block (heap_alloc_new W _)) (TP.cs_one (⟨tg, tno, tnn, tnc, teo, ten, tec, ta, tb, tc, td⟩ : TP)) (TP.cs_clean (⟨tg, tno, tnn, tnc, teo, ten, tec, ta, tb, tc, td⟩ : TP)) (by omega) (by have := HB.out; have := H.out.2.2.1; unfold maxLen; omega) (by have := HB.out; have := H.out.2.2.1; omega) (by have := HW.out.1.size; rw [World.size_alloc]; omega) ?_)
          intro g4 c4 w4 o4 k4
          have H4 : Hid (PutSt w ⟨tg, tno, tnn, tnc, teo, ten, tec, ta, tb, tc, td⟩ w4 g4 (kk + 1) c4 (qs ++ [(⟨tg, tno, tnn, tnc, teo, ten, tec, ta, tb, tc, td⟩ : TP)]) (us ++ [t])) := (HW.out.1.below (bel1 W (.cells #[.bool tg, .slice tno tnn tnc, .slice teo ten tec, .int .i64 ta, .int .i64 tb, .int .i64 tc, .int .i64 td] 49))).step (HW.out.2.2.2.2.below (bel1 W (.cells #[.bool tg, .slice tno tnn tnc, .slice teo ten tec, .int .i64 ta, .int .i64 tb, .int .i64 tc, .int .i64 td] 49))) o4 k4
          clear o4 k4
          clear f0 f1 f2 f3 f4 f5 f6
          have HP4 : Hid (TermAt w4 ⟨pg, no, nn, nc, eo, en, ec, pa, pb, pc, pd⟩ s ∧ ElemAt w4 bk (off + j * 7) ⟨pg, no, nn, nc, eo, en, ec, pa, pb, pc, pd⟩) := ⟨HE.out.1.below H4.out.bel, HE.out.2.1.below HE.out.2.2 H4.out.bel⟩
          obtain ⟨e0, e1, e2, e3, e4, e5, e6⟩ := HP4.out.2
          dsimp only at e0 e1 e2 e3 e4 e5 e6
          go_wp2_with (at_builtin; refine wpList_append_put _ rfl _ _ _ rfl (w.heap.size + 1) 49 i0 _ 7 88 Tryz.underlying23 hi0 hz0 hz1 hz2 rfl (by omega) zero39 _ (kk + 1) (tcells (qs ++ [(⟨tg, tno, tnn, tnc, teo, ten, tec, ta, tb, tc, td⟩ : TP)])) rfl (H4.out.below (bel1 w4 (.cells #[.bool pg, .slice no nn nc, .slice eo en ec, .int .i64 pa, .int .i64 pb, .int .i64 pc, .int .i64 pd] 49))).own' ⟨w4.heap.size, 0, none⟩ 1 1 (TP.cs (⟨pg, no, nn, nc, eo, en, ec, pa, pb, pc, pd⟩ : TP)) rfl rfl (World.news_of_block (heap_alloc_new w4 _)) (TP.cs_one (⟨pg, no, nn, nc, eo, en, ec, pa, pb, pc, pd⟩ : TP)) (TP.cs_clean (⟨pg, no, nn, nc, eo, en, ec, pa, pb, pc, pd⟩ : TP)) (by omega) (by have := HB.out; have := H.out.2.2.1; unfold maxLen; omega) (by have := HB.out; have := H.out.2.2.1; omega) (by have := H4.out.size; rw [World.size_alloc]; omega) ?_)
          intro g5 c5 w5 o5 k5
          have H5 : Hid (PutSt w ⟨tg, tno, tnn, tnc, teo, ten, tec, ta, tb, tc, td⟩ w5 g5 ((kk + 1) + 1) c5 ((qs ++ [(⟨tg, tno, tnn, tnc, teo, ten, tec, ta, tb, tc, td⟩ : TP)]) ++ [(⟨pg, no, nn, nc, eo, en, ec, pa, pb, pc, pd⟩ : TP)]) (us ++ [t] ++ [s])) := (H4.out.below (bel1 w4 (.cells #[.bool pg, .slice no nn nc, .slice eo en ec, .int .i64 pa, .int .i64 pb, .int .i64 pc, .int .i64 pd] 49))).step (HP4.out.1.below (bel1 w4 (.cells #[.bool pg, .slice no nn nc, .slice eo en ec, .int .i64 pa, .int .i64 pb, .int .i64 pc, .int .i64 pd] 49))) o5 k5
          clear o5 k5
          clear e0 e1 e2 e3 e4 e5 e6
          go_wp2
          go_roundg (n - (j + 1))
          case measure => have := HJ.out.1; have := HJ.out.2.1; omega
          case rel => exact ⟨j + 1, true, g5, kk + 1 + 1, c5, _, _, by have := HJ.out.1; omega, Nat.le_refl _, by go_num, rfl, rfl, H5.out, HI.out, by have := hO.out.2.2; simp at this ⊢; omega⟩
    · have hjn : j = n := by omega
      subst hjn
      have hlen : ls.length ≤ j := by rw [H.out.1.len]; exact Nat.le_refl _
      clear hj hjr h0
      cases d with
      | true =>
        have HI : Hid (Ins o t ls us 0) := hO.out.2.1.end1 hlen
        have HQ : Hid (PolyAt wr (some ⟨g, 0, none⟩) kk cc qs us ∧ kk ≤ j + 1) := poly_of hO.out.1.own hO.out.1.len (by have := hO.out.2.2; simpa using this)
        clear hlen
        go_wp2_with fail
        go_ret2
        exact ⟨_, _, _, 0, qs, us, rfl, fun e => absurd rfl e, fun _ => HQ.out, HI.out, hO.out.1.bel⟩
      | false =>
        have HI : Hid (Ins o t ls (us ++ [t]) 0) := hO.out.2.1.end0 hlen
        clear hlen
        obtain ⟨f0, f1, f2, f3, f4, f5, f6⟩ := hO.out.1.box.el
        dsimp only at f0 f1 f2 f3 f4 f5 f6
        go_wp2_with (at_builtin; refine wpList_append_put _ rfl _ _ _ rfl (w.heap.size + 1) 49 i0 _ 7 88 Tryz.underlying23 hi0 hz0 hz1 hz2 rfl (by omega) zero39 _ kk (tcells qs) rfl (hO.out.1.below (bel1 wr (.cells #[.bool tg, .slice tno tnn tnc, .slice teo ten tec, .int .i64 ta, .int .i64 tb, .int .i64 tc, .int .i64 td] 49))).own' ⟨wr.heap.size, 0, none⟩ 1 1 (TP.cs (⟨tg, tno, tnn, tnc, teo, ten, tec, ta, tb, tc, td⟩ : TP)) rfl rfl (World.news_of_block (heap_alloc_new wr _)) (TP.cs_one (⟨tg, tno, tnn, tnc, teo, ten, tec, ta, tb, tc, td⟩ : TP)) (TP.cs_clean (⟨tg, tno, tnn, tnc, teo, ten, tec, ta, tb, tc, td⟩ : TP)) (by omega) (by have := HB.out; have := H.out.2.2.1; unfold maxLen; omega) (by have := HB.out; have := H.out.2.2.1; omega) (by have := hO.out.1.size; rw [World.size_alloc]; omega) ?_)
        intro g4 c4 w4 o4 k4
        have H4 : Hid (PutSt w ⟨tg, tno, tnn, tnc, teo, ten, tec, ta, tb, tc, td⟩ w4 g4 (kk + 1) c4 (qs ++ [(⟨tg, tno, tnn, tnc, teo, ten, tec, ta, tb, tc, td⟩ : TP)]) (us ++ [t])) := (hO.out.1.below (bel1 wr (.cells #[.bool tg, .slice tno tnn tnc, .slice teo ten tec, .int .i64 ta, .int .i64 tb, .int .i64 tc, .int .i64 td] 49))).step ((H.out.2.1.below hO.out.1.bel).below (bel1 wr (.cells #[.bool tg, .slice tno tnn tnc, .slice teo ten tec, .int .i64 ta, .int .i64 tb, .int .i64 tc, .int .i64 td] 49))) o4 k4
        clear o4 k4
        have HQ : Hid (PolyAt w4 (some ⟨g4, 0, none⟩) (kk + 1) c4 (qs ++ [(⟨tg, tno, tnn, tnc, teo, ten, tec, ta, tb, tc, td⟩ : TP)]) (us ++ [t]) ∧ kk + 1 ≤ j + 1) := poly_of H4.out.own H4.out.len (by have := hO.out.2.2; simp at this ⊢; omega)
        clear f0 f1 f2 f3 f4 f5 f6
        go_wp2_with fail
        go_ret2
        exact ⟨_, _, _, 0, _, _, rfl, fun e => absurd rfl e, fun _ => HQ.out, HI.out, H4.out.bel⟩
end Go.Proofs.YtnedghhcidohnaaGreat

/-! Same: of numbers, terms and polynomials; the program's and the reference's. -/
namespace Go.Proofs.YtnedghhcidohnaaGreat
open Go.RowKit

theorem eq_of {p q : TP} {s t : TL} {w w' : World} (hs : TermAt w p s) (ht : TermAt w' q t) (b : Bool) (hb : b = Mn.eqB p.a p.b p.c p.d q.a q.b q.c q.d) : b = true ↔ s.m = t.m := by
  rw [hb, Mn.eqB_iff, hs.mo, ht.mo]
  simp
theorem TL.ext2 {s t : TL} (h : s.c = t.c) (g : s.m = t.m) : s = t := by cases s; cases t; simp_all

theorem drop_ne {A : Type} {l m : List A} {j : Nat} {a b : A} (ha : l[j]? = some a) (hb : m[j]? = some b) (h : a ≠ b) : l ≠ m := by
  rintro rfl
  rw [ha] at hb
  injection hb with hb
  exact h hb
theorem all_eq {A : Type} {l m : List A} (hl : l.length = m.length) (h : ∀ i, i < l.length → l[i]? = m[i]?) : l = m := by
  apply List.ext_getElem? 
  intro i
  by_cases hi : i < l.length
  · exact h i hi
  · rw [List.getElem?_eq_none (by omega), List.getElem?_eq_none (by omega)]

set_option maxRecDepth 100000 in
set_option maxHeartbeats 8000000 in
/-- The reference's Same. -/
theorem rsame_b (lo : Option Addr) (n cap : Nat) (ps : List TP) (ls : List TL) (mo : Option Addr) (m mcap : Nat) (qs : List TP) (ms : List TL) (w : World) (h : PolyAt w lo n cap ps ls) (g : PolyAt w mo m mcap qs ms) (b : Bool) (hb : b = true ↔ ls = ms) :
    Calls Tryz.prog 18 #[.slice lo n cap, .slice mo m mcap] w fun e w' => e = .returned (.bool b) ∧ Below w.heap.size w w' := by
  have hn := h.most'
  have hm := g.most'
  have H : Hid (PolyAt w lo n cap ps ls ∧ PolyAt w mo m mcap qs ms ∧ (b = true ↔ ls = ms)) := ⟨h, g, hb⟩
  clear h g hb
  by_cases hnm : n = m
  · subst hnm
    go_enter Tryz.func18, Tryz.ntmps18
    go_wp2_with fail
    go_loopg [5] n (fun k i wr => ∃ j : Nat, j ≤ n ∧ n - j ≤ k ∧ i = .int .i64 j ∧ Hid (Below w.heap.size w wr ∧ ∀ i, i < j → ls[i]? = ms[i]?))
    case atStart => exact ⟨0, Nat.zero_le _, by omega, rfl, Below.refl _ _, fun i hi => absurd hi (by omega)⟩
    case round =>
      obtain ⟨j, hj, hjr, rfl, hO⟩ := hrel
      by_cases h0 : j < n
      · obtain ⟨bk, off, p, s, rfl, hpj, hsj, hat, hel, hblt⟩ := (H.out.1.below hO.out.1).elem h0
        obtain ⟨bk2, off2, q, t, rfl, hqj, htj, hqat, hqel, hqlt⟩ := (H.out.2.1.below hO.out.1).elem h0
        have hjn : (j : Int) < (n : Int) := by omega
        have hj0 : (0 : Int) ≤ (j : Int) := by omega
        obtain ⟨g, no, nn, nc, eo, en, ec, a0, a1, a2, a3⟩ := p
        obtain ⟨g', no', nn', nc', eo', en', ec', b0, b1, b2, b3⟩ := q
        have E0 : ∀ m : Mn.Wd wr, m.w.cell? ⟨bk, off + j * 7, none⟩ = some (.bool g) := fun m => (hel.wd hblt m).c0
        have E1 : ∀ m : Mn.Wd wr, m.w.cell? ⟨bk, off + j * 7 + 1, none⟩ = some (.slice no nn nc) := fun m => (hel.wd hblt m).c1
        have E2 : ∀ m : Mn.Wd wr, m.w.cell? ⟨bk, off + j * 7 + 2, none⟩ = some (.slice eo en ec) := fun m => (hel.wd hblt m).c2
        have E3 : ∀ m : Mn.Wd wr, m.w.cell? ⟨bk, off + j * 7 + 3, none⟩ = some (.int .i64 a0) := fun m => (hel.wd hblt m).c3
        have E4 : ∀ m : Mn.Wd wr, m.w.cell? ⟨bk, off + j * 7 + 3 + 1, none⟩ = some (.int .i64 a1) := fun m => (hel.wd hblt m).c4
        have E5 : ∀ m : Mn.Wd wr, m.w.cell? ⟨bk, off + j * 7 + 3 + 2, none⟩ = some (.int .i64 a2) := fun m => (hel.wd hblt m).c5
        have E6 : ∀ m : Mn.Wd wr, m.w.cell? ⟨bk, off + j * 7 + 3 + 3, none⟩ = some (.int .i64 a3) := fun m => (hel.wd hblt m).c6
        have F0 : ∀ m : Mn.Wd wr, m.w.cell? ⟨bk2, off2 + j * 7, none⟩ = some (.bool g') := fun m => (hqel.wd hqlt m).c0
        have F1 : ∀ m : Mn.Wd wr, m.w.cell? ⟨bk2, off2 + j * 7 + 1, none⟩ = some (.slice no' nn' nc') := fun m => (hqel.wd hqlt m).c1
        have F2 : ∀ m : Mn.Wd wr, m.w.cell? ⟨bk2, off2 + j * 7 + 2, none⟩ = some (.slice eo' en' ec') := fun m => (hqel.wd hqlt m).c2
        have F3 : ∀ m : Mn.Wd wr, m.w.cell? ⟨bk2, off2 + j * 7 + 3, none⟩ = some (.int .i64 b0) := fun m => (hqel.wd hqlt m).c3
        have F4 : ∀ m : Mn.Wd wr, m.w.cell? ⟨bk2, off2 + j * 7 + 3 + 1, none⟩ = some (.int .i64 b1) := fun m => (hqel.wd hqlt m).c4
        have F5 : ∀ m : Mn.Wd wr, m.w.cell? ⟨bk2, off2 + j * 7 + 3 + 2, none⟩ = some (.int .i64 b2) := fun m => (hqel.wd hqlt m).c5
        have F6 : ∀ m : Mn.Wd wr, m.w.cell? ⟨bk2, off2 + j * 7 + 3 + 3, none⟩ = some (.int .i64 b3) := fun m => (hqel.wd hqlt m).c6
        have wne : Nonempty (Mn.Wd wr) := ⟨⟨_, Below.refl _ _⟩⟩
        obtain ⟨x, hx⟩ : ∃ x, x = Mn.eqB a0 a1 a2 a3 b0 b1 b2 b3 := ⟨_, rfl⟩
        have hxi := eq_of hat hqat x hx
        have hev : ∀ W, (Op.equalIn 10000 47 (.agg #[.int .i64 a0, .int .i64 a1, .int .i64 a2, .int .i64 a3]) (.agg #[.int .i64 b0, .int .i64 b1, .int .i64 b2, .int .i64 b3])).run Tryz.prog W = .ok x W := fun W => Mn.eq_val a0 a1 a2 a3 b0 b1 b2 b3 x hx W
        have HJ : Hid (j < n ∧ n - j ≤ _ ∧ ls[j]? = some s ∧ ms[j]? = some t ∧ TermAt wr ⟨g, no, nn, nc, eo, en, ec, a0, a1, a2, a3⟩ s ∧ TermAt wr ⟨g', no', nn', nc', eo', en', ec', b0, b1, b2, b3⟩ t ∧ (x = true ↔ s.m = t.m)) := ⟨h0, hjr, hsj, htj, hat, hqat, hxi⟩
        clear hpj hsj hat hblt hqj htj hqat hqel hqlt hj hjr h0 hel hx hxi
        cases x with
        | false =>
          have hbf : b = false := isFalse H.out.2.2 (drop_ne HJ.out.2.2.1 HJ.out.2.2.2.1 fun e => by have := HJ.out.2.2.2.2.2.2.2 (by rw [e]); cases this)
          subst hbf
          go_wp2_with fail
          refine Mn.region_wd (by kernel_rfl) (by kernel_rfl) ?_
          repeat (go_big_quiet_step (fail))
          refine wpQuiet_nil ?_
          intro _ hw
          obtain ⟨nq, hq⟩ := hw
          subst hq
          have B4 : Hid (Below w.heap.size w nq.w) := chain hO.out.1 nq.h
          clear wne E0 E1 E2 E3 E4 E5 E6 F0 F1 F2 F3 F4 F5 F6 hev
          go_wp2
          go_ret
          exact ⟨rfl, B4.out⟩
        | true =>
          have HM : Hid (s.m = t.m) := HJ.out.2.2.2.2.2.2.1 rfl
          by_cases hc : s.c = t.c
          · have HS : Hid (s.c = t.c) := hc
            clear hc
            go_wp2_with fail
            refine Mn.region_wd (by kernel_rfl) (by kernel_rfl) ?_
            repeat (go_big_quiet_step ((go_at_call 35; exact Mn.wd_of (rsame_r _ _ _ _ _ _ _ _ _ _ _ _ _ _ s.c t.c _ (HJ.out.2.2.2.2.1.rat.below (Mn.Wd.h _)) (HJ.out.2.2.2.2.2.1.rat.below (Mn.Wd.h _)) HJ.out.2.2.2.2.1.neg HJ.out.2.2.2.2.2.1.neg true (yes_iff HS.out)))))
            refine wpQuiet_nil ?_
            intro _ hw
            obtain ⟨nq, hq⟩ := hw
            subst hq
            have B4 : Hid (Below w.heap.size w nq.w) := chain hO.out.1 nq.h
            clear wne E0 E1 E2 E3 E4 E5 E6 F0 F1 F2 F3 F4 F5 F6 hev
            go_wp2
            go_roundg (n - (j + 1))
            case measure => have := HJ.out.1; have := HJ.out.2.1; omega
            case rel =>
              refine ⟨j + 1, by have := HJ.out.1; omega, Nat.le_refl _, by go_num, B4.out, fun i hi => ?_⟩
              by_cases hij : i = j
              · subst hij; rw [HJ.out.2.2.1, HJ.out.2.2.2.1, TL.ext2 HS.out HM.out]
              · exact hO.out.2 i (by omega)
          · have hbf : b = false := isFalse H.out.2.2 (drop_ne HJ.out.2.2.1 HJ.out.2.2.2.1 fun e => hc (by rw [e]))
            subst hbf
            have HS : Hid (¬ s.c = t.c) := hc
            clear hc
            go_wp2_with fail
            refine Mn.region_wd (by kernel_rfl) (by kernel_rfl) ?_
            repeat (go_big_quiet_step ((go_at_call 35; exact Mn.wd_of (rsame_r _ _ _ _ _ _ _ _ _ _ _ _ _ _ s.c t.c _ (HJ.out.2.2.2.2.1.rat.below (Mn.Wd.h _)) (HJ.out.2.2.2.2.2.1.rat.below (Mn.Wd.h _)) HJ.out.2.2.2.2.1.neg HJ.out.2.2.2.2.2.1.neg false (no_iff HS.out)))))
            refine wpQuiet_nil ?_
            intro _ hw
            obtain ⟨nq, hq⟩ := hw
            subst hq
            have B4 : Hid (Below w.heap.size w nq.w) := chain hO.out.1 nq.h
            clear wne E0 E1 E2 E3 E4 E5 E6 F0 F1 F2 F3 F4 F5 F6 hev
            go_wp2
            go_ret
            exact ⟨rfl, B4.out⟩
      · have hjn : j = n := by omega
        have hbt : b = true := H.out.2.2.2 (all_eq (by rw [H.out.1.len, H.out.2.1.len]) (fun i hi => hO.out.2 i (by rw [H.out.1.len] at hi; omega)))
        subst hbt
        subst hjn
        clear hj hjr h0
        go_wp2
        go_ret
        exact ⟨rfl, hO.out.1⟩
  · have hbf : b = false := isFalse H.out.2.2 fun e => hnm (by rw [← H.out.1.len, ← H.out.2.1.len, e])
    subst hbf
    have hne : ((n : Int) == (m : Int)) = false := by rw [beq_eq_false_iff_ne]; omega
    have hne' : ¬ (n : Int) = (m : Int) := by omega
    go_enter Tryz.func18, Tryz.ntmps18
    go_wp2
    go_ret
    exact ⟨rfl, Below.refl _ _⟩
end Go.Proofs.YtnedghhcidohnaaGreat
