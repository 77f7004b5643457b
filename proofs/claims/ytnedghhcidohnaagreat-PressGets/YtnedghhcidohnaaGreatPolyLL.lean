/-
  A row of polynomials, filled in place.
-/
import Derived.Below
import Derived.BigQuiet
import Derived.Deep.DrawnRows
import Derived.Deep.Draws
import Derived.Deep.QuietTactic
import Derived.Deep.RegionHeld3
import Derived.Deep.RegionWith
import Derived.Handy
import Derived.Laws.AppendOwnNone
import Derived.Laws.EntriesVeiled
import Derived.Laws.Rows
import Derived.Lib.AppendZeros
import Derived.MapViews
import Derived.Maps.OwnSet
import Derived.Maps.RangeWalk
import Derived.Test.YtnedghhcidohnaaGreatRows
import Derived.WalkKit
import Derived.WalkLawsBesides
import Derived.WalkSmall
import Derived.WalkSpells
import Derived.Test.YtnedghhcidohnaaGreatJQ1
import Derived.Test.YtnedghhcidohnaaGreatLD1
namespace Go.Proofs.YtnedghhcidohnaaGreat
open Go.RowKit

/-- A block of slices. -/
def SlB (w : World) (g : Nat) : Prop := ∃ cs : Array Value, w.heap[g]? = some (.cells cs 23 (0, 0)) ∧ ∀ u ∈ cs.toList, ∃ a b c, u = .slice a b c
theorem SlB.clean {w : World} {g : Nat} (h : SlB w g) : CleanB w 23 g := by
  obtain ⟨cs, h1, h2⟩ := h
  exact ⟨cs, (0, 0), h1, fun u hu z => by obtain ⟨a, b, c, rfl⟩ := h2 u hu; simp⟩
theorem PolyAt.slg {w w' : World} {g : Nat} {lo : Option Addr} {n cap : Nat} {ps : List TP} {ls : List TL} (h : PolyAt w lo n cap ps ls) (hg : w.grownBy w' (some g)) (hs : SlB w g) : PolyAt w' lo n cap ps ls := by
  have hcl : ∀ k, some g = some k → CleanB w 23 k := fun k hk => by cases hk; exact hs.clean
  obtain ⟨b, off, h1, h2⟩ := h.at'
  refine ⟨h.num, h.fits, h.most, h.bare, b, off, h1, h2.len, fun hp => Nat.lt_of_lt_of_le (h2.lt hp) hg.size, fun i p hp j v hv => ?_, fun i p t hp ht => (h2.each i p t hp ht).grown hg hcl⟩
  have hlt : b < w.heap.size := h2.lt (by have := (List.getElem?_eq_some_iff.1 hp).1; omega)
  have hc := h2.cells i p hp
  have hne : some b ≠ some g := by
    intro e
    injection e with e
    subst e
    obtain ⟨cs, g1, g2⟩ := hs
    have h0 := hc 0 (.bool p.neg) rfl
    rw [cell_of_row w b _ cs 23 (0, 0) g1] at h0
    obtain ⟨a, x, y, e⟩ := g2 _ (by simpa using Array.mem_of_getElem? h0)
    cases e
  exact (World.cell?_of_block (a := ⟨b, off + i * 7 + j, none⟩) (hg.block b hlt hne)).trans (hc j v hv)

theorem TimesL.len {t : TL} : ∀ {p out : List TL} {k : Int}, TimesL t p out k → out.length ≤ p.length
  | [], _, _, h => by rw [h.1]; simp
  | x :: p, out, k, h => by
    obtain ⟨c, j, h1, h2, h3⟩ := h
    by_cases e : j = 0
    · obtain ⟨m, i, a1, a2, a3⟩ := h3 e
      by_cases f : i = 0
      · obtain ⟨r, c1, c2, c3⟩ := a3 f
        have := TimesL.len c1
        by_cases z : k = 0
        · rw [c3 z]; simpa using this
        · rw [c2 z]; simp
      · rw [(a2 f).1]; simp
    · rw [(h2 e).1]; simp
theorem TimT.len {t : TL} {p out : List TL} {k : Int} (h : TimT p t out k) : out.length ≤ p.length := by
  by_cases e : t.c.top = 0
  · rw [(h.zero e).1]; simp
  · exact (h.all e).len

/-- The rows so far. -/
structure MuSt (w1 wr : World) (n : Nat) (p q : List TL) (j : Nat) (lss : List (List TL)) : Prop where
  bel : Below w1.heap.size w1 wr
  row : ∃ cs : Array Value, wr.heap[w1.heap.size]? = some (.cells cs 23 (0, 0)) ∧ cs.size = n ∧ ∀ i, i < n → ∃ po pn pc ps l, cs[i]? = some (.slice po pn pc) ∧ PolyAt wr po pn pc ps l ∧ (i < j → lss[i]? = some l)
  len : lss.length = j
  small : lss.flatten.length ≤ j * p.length
  may : ∀ s ∈ lss.flatten, MayT s
  ok : ∀ rest k, ManyL p (q.drop j) rest k → (k ≠ 0 → rest = []) → ManyL p q (if k = 0 then lss.flatten ++ rest else []) k

theorem MuSt.below {w1 wr w' : World} {n : Nat} {p q : List TL} {j : Nat} {lss : List (List TL)} (h : MuSt w1 wr n p q j lss) (hb : Below wr.heap.size wr w') : MuSt w1 w' n p q j lss := by
  obtain ⟨cs, h1, h2, h3⟩ := h.row
  exact ⟨chain h.bel hb, ⟨cs, (hb.block _ (Array.getElem?_eq_some_iff.1 h1).1).trans h1, h2, fun i hi => let ⟨po, pn, pc, ps, l, a, b, c⟩ := h3 i hi; ⟨po, pn, pc, ps, l, a, b.below hb, c⟩⟩, h.len, h.small, h.may, h.ok⟩
theorem MuSt.slb {w1 wr : World} {n : Nat} {p q : List TL} {j : Nat} {lss : List (List TL)} (h : MuSt w1 wr n p q j lss) : SlB wr w1.heap.size := by
  obtain ⟨cs, h1, h2, h3⟩ := h.row
  refine ⟨cs, h1, fun u hu => ?_⟩
  obtain ⟨i, hi, rfl⟩ := List.mem_iff_getElem.1 hu
  obtain ⟨po, pn, pc, ps, l, a, _⟩ := h3 i (by rw [← h2]; simpa using hi)
  rw [Array.getElem?_eq_getElem (by simpa using hi)] at a
  injection a with a
  exact ⟨po, pn, pc, by rw [← a]; simp⟩
theorem set_grown (W : World) (B k : Nat) (v : Value) : W.grownBy (W.setCell ⟨B, k, none⟩ v) (some B) :=
  ⟨rfl, rfl, rfl, by simp [World.setCell], fun j hj hne => Below.heap_setCell W ⟨B, k, none⟩ v j (fun e => hne (by rw [e]))⟩
theorem MuSt.set {w1 wr : World} {n : Nat} {p q : List TL} {j : Nat} {lss : List (List TL)} (h : MuSt w1 wr n p q j lss) (hj : j < n) {po : Option Addr} {pn pc : Nat} {ps : List TP} {l : List TL} {x : TL} (hl : PolyAt wr po pn pc ps l) (hx : q[j]? = some x) (hp : ∀ s ∈ p, MayT s) (hxm : MayT x) (ht : TimT p x l 0) :
    MuSt w1 (wr.setCell ⟨w1.heap.size, j, none⟩ (.slice po pn pc)) n p q (j + 1) (lss ++ [l]) := by
  have hs := h.slb
  obtain ⟨cs, h1, h2, h3⟩ := h.row
  have hg := set_grown wr w1.heap.size j (.slice po pn pc)
  refine ⟨h.bel.grown hg h.bel.size (fun k hk => by cases hk; exact Nat.le_refl _), ⟨_, set_cells h1 j (.slice po pn pc), by simp [h2], fun i hi => ?_⟩, by simp [h.len], ?_, ?_, fun rest k hr hk => ?_⟩
  · by_cases e : i = j
    · subst e
      exact ⟨po, pn, pc, ps, l, by rw [Array.getElem?_setIfInBounds_self_of_lt (by rw [h2]; exact hi)], hl.slg hg hs, fun _ => by rw [List.getElem?_append_right (by rw [h.len]; exact Nat.le_refl _), h.len]; simp⟩
    · obtain ⟨po', pn', pc', ps', l', a, b, c⟩ := h3 i hi
      exact ⟨po', pn', pc', ps', l', by rw [Array.getElem?_setIfInBounds_ne (Ne.symm e)]; exact a, b.slg hg hs, fun hlt => by rw [List.getElem?_append_left (by rw [h.len]; omega)]; exact c (by omega)⟩
  · rw [List.flatten_append, List.length_append]
    have h5 := ht.len
    have h6 := h.small
    have e : ([l] : List (List TL)).flatten = l := by simp
    rw [e, Nat.add_mul, Nat.one_mul]
    omega
  · intro s hs'
    rw [List.flatten_append, List.mem_append] at hs'
    rcases hs' with hs' | hs'
    · exact h.may s hs'
    · exact ht.may hxm hp s (by simpa using hs')
  · have h4 := h.ok (if k = 0 then l ++ rest else []) k (by
      rw [drop_at2 q j x hx]
      exact ⟨l, 0, ht, fun e => absurd rfl e, fun _ => ⟨rest, hr, fun e => by rw [if_neg e], fun e => by rw [if_pos e]⟩⟩) (fun e => by rw [if_neg e])
    by_cases e : k = 0
    · subst e
      simpa using h4
    · rw [if_neg e] at h4 ⊢
      exact h4
theorem MuSt.list {w1 wr : World} {n : Nat} {p q : List TL} {lss : List (List TL)} (h : MuSt w1 wr n p q n lss) (hn : (n : Int) ≤ 9223372036854775807) : ListAt wr (some ⟨w1.heap.size, 0, none⟩) n lss := by
  obtain ⟨cs, h1, h2, h3⟩ := h.row
  refine ⟨h.len, hn, fun i hi => ?_⟩
  obtain ⟨po, pn, pc, ps, l, a, b, c⟩ := h3 i hi
  exact ⟨_, 0, po, pn, pc, ps, l, rfl, by rw [cell_of_row wr _ _ cs 23 (0, 0) h1, Nat.zero_add]; exact a, c hi, b, (Array.getElem?_eq_some_iff.1 h1).1⟩
end Go.Proofs.YtnedghhcidohnaaGreat
