/-
  The reference's GetList of layer 11.
-/
import Derived.Test.YtnedghhcidohnaaGreatPressDa
import Derived.Test.YtnedghhcidohnaaGreatKB1
namespace Go.Proofs.YtnedghhcidohnaaGreat
open Go.RowKit

/-- A polynomial whose terms' block is known. -/
structure PolyC (w : World) (lo : Option Addr) (n cap : Nat) (ps : List TP) (ls : List TL) : Prop where
  at' : PolyAt w lo n cap ps ls
  blk : ∀ a, lo = some a → CleanB w 49 a.block
theorem PolyC.grown {w w' : World} {lo : Option Addr} {n cap : Nat} {ps : List TP} {ls : List TL} {row : Option Nat} (h : PolyC w lo n cap ps ls) (hg : w.grownBy w' row) (hs : ∀ g, row = some g → CleanB w 23 g) : PolyC w' lo n cap ps ls := by
  have hne : ∀ a, lo = some a → some a.block ≠ row := by
    intro a ha e
    obtain ⟨cur, fz, h1, _⟩ := h.blk a ha
    obtain ⟨cur', fz', h2, _⟩ := hs a.block e.symm
    rw [h1] at h2
    injection h2 with h2
    injection h2 with _ h3
    cases h3
  refine ⟨?_, fun a ha => (h.blk a ha).kept (hg.block _ (h.blk a ha).lt (hne a ha))⟩
  obtain ⟨b, off, h1, h2⟩ := h.at'.at'
  refine ⟨h.at'.num, h.at'.fits, h.at'.most, h.at'.bare, b, off, h1, h2.len, fun hp => Nat.lt_of_lt_of_le (h2.lt hp) hg.size, fun i p hp j v hv => ?_, fun i p t hp ht => (h2.each i p t hp ht).grown hg hs⟩
  have hn : 0 < n := by have := (List.getElem?_eq_some_iff.1 hp).1; have := h.at'.num; omega
  have hlt : b < w.heap.size := h2.lt (by have := h.at'.num; omega)
  have hc := h2.cells i p hp
  exact (World.cell?_of_block (a := ⟨b, off + i * 7 + j, none⟩) (hg.block b hlt (hne _ (h1 hn)))).trans (hc j v hv)
theorem PolyC.below {w w' : World} {lo : Option Addr} {n cap : Nat} {ps : List TP} {ls : List TL} (h : PolyC w lo n cap ps ls) (hb : Below w.heap.size w w') : PolyC w' lo n cap ps ls :=
  ⟨h.at'.below hb, fun a ha => (h.blk a ha).kept (hb.block _ (h.blk a ha).lt)⟩

/-- A row of polynomials of one's own. -/
structure PolysOwn (w : World) (base : Nat) (v : Value) (cs : List Value) (lss : List (List TL)) : Prop where
  own : OwnS w base 23 1 v lss.length cs
  len : cs.length = lss.length
  each : ∀ (i : Nat) l, lss[i]? = some l → ∃ po pn pc ps, cs[i]? = some (.slice po pn pc) ∧ PolyC w po pn pc ps l
theorem PolysOwn.below {w w' : World} {base : Nat} {v : Value} {cs : List Value} {lss : List (List TL)} (h : PolysOwn w base v cs lss) (hb : Below w.heap.size w w') : PolysOwn w' base v cs lss :=
  ⟨h.own.below hb, h.len, fun i l hl => let ⟨po, pn, pc, ps, a, b⟩ := h.each i l hl; ⟨po, pn, pc, ps, a, b.below hb⟩⟩
theorem PolysOwn.made (w : World) (base : Nat) (hb : base ≤ w.heap.size) : PolysOwn (w.alloc (.cells #[] 23)) base (.slice (some ⟨w.heap.size, 0, none⟩) 0 0) [] [] :=
  ⟨OwnS.made w 23 1 hb, rfl, fun i l hl => by simp at hl⟩
theorem PolysOwn.put {w w' : World} {base : Nat} {v v' : Value} {cs : List Value} {lss : List (List TL)} (h : PolysOwn w base v cs lss) {po : Option Addr} {pn pc : Nat} {ps : List TP} {l : List TL} (hl : PolyC w po pn pc ps l)
    (ho : OwnS w' base 23 1 v' (lss.length + 1) (cs ++ [.slice po pn pc])) (hg : w.grownBy w' v.ownBlock) : PolysOwn w' base v' (cs ++ [.slice po pn pc]) (lss ++ [l]) := by
  refine ⟨by rw [List.length_append]; exact ho, by simp [h.len], fun i m hm => ?_⟩
  by_cases hi : i < lss.length
  · rw [List.getElem?_append_left hi] at hm
    obtain ⟨a, b, c, d, e, f⟩ := h.each i m hm
    exact ⟨a, b, c, d, by rw [List.getElem?_append_left (by rw [h.len]; exact hi)]; exact e, f.grown hg h.own.clean⟩
  · rw [List.getElem?_append_right (by omega)] at hm
    have h0 : i - lss.length = 0 := by have := (List.getElem?_eq_some_iff.1 hm).1; simp at this; omega
    rw [h0] at hm
    simp at hm
    subst hm
    exact ⟨po, pn, pc, ps, by rw [List.getElem?_append_right (by rw [h.len]; omega), h.len, h0]; rfl, hl.grown hg h.own.clean⟩
theorem PolysOwn.list {w : World} {base : Nat} {v : Value} {cs : List Value} {lss : List (List TL)} (h : PolysOwn w base v cs lss) (hn : (lss.length : Int) ≤ 9223372036854775807) : ∃ lo cap, v = .slice lo lss.length cap ∧ ListAt w lo lss.length lss := by
  rcases h.own.row.2 with ⟨h1, h2⟩ | ⟨g, cap, cur, h1, h2, h3, h4, h5, _⟩
  · exact ⟨none, 0, by rw [h1, h2], rfl, hn, fun i hi => absurd hi (by omega)⟩
  · subst h1
    refine ⟨_, cap, rfl, rfl, hn, fun i hi => ?_⟩
    obtain ⟨po, pn, pc, ps, e, f⟩ := h.each i _ (List.getElem?_eq_getElem hi)
    refine ⟨g, 0, po, pn, pc, ps, _, rfl, ?_, List.getElem?_eq_getElem hi, f.at', (h.own.row.lt g rfl).2⟩
    have := h.own.row.cells (g := g) rfl i _ e
    rw [← Nat.zero_add i, Addr.add_mid] at this
    simpa using this
theorem info23 : (Tryz.prog.info? 23).map (fun i => (i.zero, i.size, i.bytes)) = some (some (.slice none 0 0), 1, 24) := by kernel_rfl
theorem zero23 : ∀ u ∈ (Value.slice none 0 0).cells.toList, Clean u := by
  intro u hu z
  simp [Value.cells] at hu
  subst hu
  simp
theorem sl_clean (po : Option Addr) (pn pc : Nat) : ∀ u ∈ [Value.slice po pn pc], Clean u := by
  intro u hu z
  simp at hu
  subst hu
  simp
theorem sl_one (po : Option Addr) (pn pc : Nat) : ∀ u ∈ [Value.slice po pn pc], u.oneCell' = true := by
  intro u hu
  simp at hu
  subst hu
  rfl
end Go.Proofs.YtnedghhcidohnaaGreat
