/-
  octet.GetNat: the reader's natural, its panics recovered.
-/
import Derived.Test.YtnedghhcidohnaaGreatOctH
import Derived.Deep.RegionHeld
namespace Go.Proofs.YtnedghhcidohnaaGreat
open Go.RowKit

theorem row_set {W : World} {ao : Option Addr} {n cap : Nat} {xs : List Int} {B : Nat} (h : RowAt W ao n cap xs) (hf : Fresh (B + 1) ao) (v : Value) : RowAt (W.setCell ⟨B, 0, none⟩ v) ao n cap xs := by
  refine ⟨h.len, h.limbs, h.fits, h.most, h.bare, fun hne => ?_⟩
  obtain ⟨b, off, e, hlt, hc⟩ := h.cells hne
  have hb := hf _ e
  refine ⟨b, off, e, by simpa using hlt, fun j hj => ?_⟩
  rw [World.cell?_setCell_far _ _ _ _ (show (⟨B, 0, none⟩ : Addr).block ≠ (⟨b, off + j, none⟩ : Addr).block by simp at hb ⊢; omega)]
  exact hc j hj

end Go.Proofs.YtnedghhcidohnaaGreat
