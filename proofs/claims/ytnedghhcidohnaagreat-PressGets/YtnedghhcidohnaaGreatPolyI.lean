/-
  likeTerms: the map of the sums of like terms.
-/
import Derived.Deep.DrawnRows
import Derived.Deep.RegionHeld3
import Derived.MapViews
import Derived.Maps.OwnSet
import Derived.Maps.RangeWalk
import Derived.Test.YtnedghhcidohnaaGreatJQ1
namespace Go.Proofs.YtnedghhcidohnaaGreat
open Go.RowKit Go.Maps

theorem drop_at2 {A : Type} (l : List A) (i : Nat) (a : A) (h : l[i]? = some a) : l.drop i = a :: l.drop (i + 1) := by
  obtain ⟨hl, rfl⟩ := List.getElem?_eq_some_iff.1 h
  exact List.drop_eq_getElem_cons hl

theorem zero35 (w : World) : (zeroValue 45).run Tryz.prog w = .ok (.agg #[.bool false, .slice none 0 0, .slice none 0 0]) w := by kernel_rfl

/-- A map's block holds no limbs. -/
theorem RowAt.grownMap {w w' : World} {b : Nat} {es : Array MapEntry} {cl : Nat} {ao : Option Addr} {n cap : Nat} {xs : List Int} (h : RowAt w ao n cap xs) (hg : w.grownBy w' (some b)) (hm : w.heap[b]? = some (.map es cl)) : RowAt w' ao n cap xs := by
  refine ⟨h.len, h.limbs, h.fits, h.most, h.bare, fun hne => ?_⟩
  obtain ⟨b1, off, e1, hlt, hcc⟩ := h.cells hne
  have hbr : some b1 ≠ some b := by
    intro e
    injection e with e
    subst e
    have := hcc 0 (List.length_pos_iff.2 hne)
    simp [World.cell?, hm] at this
  exact ⟨b1, off, e1, Nat.lt_of_lt_of_le hlt hg.size, fun j hj => (World.cell?_of_block (a := ⟨b1, off + j, none⟩) (hg.block b1 hlt hbr)).trans (hcc j hj)⟩
theorem Acc.step0 {t : TL} {l : List TL} {f g : Mo → Option RatL} {k : Int} (hf : f t.m = none) (h : Acc l (upd f t.m t.c) g k) : Acc (t :: l) f g k := ⟨fun _ => h, fun r hr => by rw [hf] at hr; cases hr⟩
theorem Acc.step1 {t : TL} {l : List TL} {f g : Mo → Option RatL} {k : Int} {r x : RatL} (hf : f t.m = some r) (hx : AddOut r t.c x 0) (h : Acc l (upd f t.m x) g k) : Acc (t :: l) f g k :=
  ⟨(fun e => by rw [hf] at e; cases e), fun s hs => by rw [hf] at hs; injection hs with hs; subst hs; exact ⟨x, 0, hx, fun _ => h, fun e => absurd rfl e⟩⟩
theorem Acc.stop {t : TL} {l : List TL} {f g : Mo → Option RatL} {k : Int} {r x : RatL} (hf : f t.m = some r) (hx : AddOut r t.c x k) (hk : k ≠ 0) : Acc (t :: l) f g k :=
  ⟨(fun e => by rw [hf] at e; cases e), fun s hs => by rw [hf] at hs; injection hs with hs; subst hs; exact ⟨x, k, hx, fun e => absurd e hk, fun _ => rfl⟩⟩

end Go.Proofs.YtnedghhcidohnaaGreat
