/-
  The reference's Base of layer 4.
-/
import Derived.Test.YtghnmfkgpkikfaaGreatDoorJ3
import Derived.Test.YtghnmfkgpkikfaaGreatDoorTextMath
import Derived.Test.YtghnmfkgpkikfaaGreatDoorCollect
import Derived.Deep.AppendLies
namespace Go.Proofs.YtghnmfkgpkikfaaGreatDoor
open Go.RowKit

theorem RowAt.grown {W W' : World} {g : Nat} {ao : Option Addr} {n cap : Nat} {xs : List Int} (h : RowAt W ao n cap xs) (hg : W.grownBy W' (some g)) (hr : ∀ p, ao = some p → xs ≠ [] → p.block ≠ g) : RowAt W' ao n cap xs := by
  refine ⟨h.len, h.limbs, h.fits, h.most, h.bare, fun hne => ?_⟩
  obtain ⟨b, off, rfl, hlt, hc⟩ := h.cells hne
  have hb : W'.heap[b]? = W.heap[b]? := hg.block b hlt fun e => hr _ rfl hne (by cases e; rfl)
  exact ⟨b, off, rfl, Nat.lt_of_lt_of_le hlt hg.size, fun j hj => (World.cell?_of_block (a := ⟨b, off + j, none⟩) hb).trans (hc j hj)⟩

set_option maxRecDepth 100000 in
set_option maxHeartbeats 2000000 in
theorem rbase_any (ao : Option Addr) (na ca : Nat) (xs : List Int) (b : Int) (w : World) (ha : RowAt w ao na ca xs) (hb0 : 0 ≤ b) (hb1 : b < BB) :
    Calls Tryz.prog 12 #[.slice ao na ca, .int .u64 b] w fun e w' => ∃ ro m c l, e = .returned (.slice ro m c) ∧ RowAt w' ro m c l ∧ BaseOut xs b l ∧ Below w.heap.size w w' := by
  obtain ⟨i0, hi, hz0, hz1, hz2⟩ := info_parts Tryz.info24
  have hbl : Below w.heap.size w (w.alloc (Obj.cells #[] 24)) := (Below.refl _ w).alloc (Nat.le_refl _) _
  have HA : Hid (RowAt (w.alloc (Obj.cells #[] 24)) ao na ca xs ∧ 0 ≤ b ∧ b < BB ∧ Below w.heap.size w (w.alloc (Obj.cells #[] 24)) ∧ OwnR (w.alloc (Obj.cells #[] 24)) w.heap.size w.heap.size 0 0 []) := ⟨ha.below hbl, hb0, hb1, hbl, OwnR.nil w⟩
  have HF : Hid (∀ p, ao = some p → xs ≠ [] → p.block ≠ w.heap.size) := fun p hp hne => by
    obtain ⟨b', off', e', hlt, _⟩ := ha.cells hne
    rw [hp] at e'
    cases e'
    show b' ≠ w.heap.size
    omega
  clear ha hbl hb1
  by_cases hm : May xs
  · have HM : Hid (May xs) := hm
    clear hm
    by_cases hb : b < 2
    · have HB : Hid (b < 2) := hb
      go_enter Tryz.func12, Tryz.ntmps12
      go_wp2_with fail
      refine (rmay_val _ _ _ xs _ HA.out.1 true (yes_iff HM.out)).mono ?_
      rintro e w1 ⟨rfl, rfl⟩
      go_wp2_with fail
      go_ret
      exact ⟨_, 0, 0, [], rfl, HA.out.2.2.2.2.row (by intro x hx; simp at hx), ⟨fun _ => rfl, fun _ h => absurd HB.out (Int.not_lt.2 h)⟩, HA.out.2.2.2.1⟩
    · have HB : Hid (2 ≤ b) := Int.not_lt.1 hb
      go_enter Tryz.func12, Tryz.ntmps12
      go_wp2_with fail
      refine (rmay_val _ _ _ xs _ HA.out.1 true (yes_iff HM.out)).mono ?_
      rintro e w1 ⟨rfl, rfl⟩
      go_wp2_with fail
      go_loopg [0, 5] ((val xs).toNat) (fun k s0 s5 wr => ∃ (qo : Option Addr) (qn qc g c : Nat) (q pre : List Int), s0 = .slice qo qn qc ∧ s5 = .slice (some ⟨g, 0, none⟩) pre.length c ∧ (val q).toNat ≤ k ∧ Hid (RowAt wr qo qn qc q ∧ May q ∧ (∀ p, qo = some p → q ≠ [] → p.block ≠ g) ∧ OwnR wr w.heap.size g pre.length c pre ∧ Digs b pre ∧ (∀ ms, Dig b ms (val q) → Dig b (pre ++ ms) (val xs)) ∧ Below w.heap.size w wr))
      case atStart => exact ⟨ao, na, ca, w.heap.size, 0, xs, [], rfl, rfl, Nat.le_refl _, HA.out.1, HM.out, HF.out, HA.out.2.2.2.2, fun d hd => by simp at hd, fun ms h => by simpa using h, HA.out.2.2.2.1⟩
      case round =>
        obtain ⟨qo, qn, qc, g, c, q, pre, rfl, rfl, hk, hr⟩ := hrel
        have hlen := hr.out.1.len
        by_cases hq0 : qn = 0
        · have hq : q = [] := List.length_eq_zero_iff.1 (hlen.trans hq0)
          have hdg : Dig b pre (val xs) := by
            have := hr.out.2.2.2.2.2.1 [] (by rw [hq]; exact Dig.nil b)
            simpa using this
          have HD : Hid (Dig b pre (val xs)) := hdg
          have HR : Hid (RowAt wr (some ⟨g, 0, none⟩) pre.length c pre) := hr.out.2.2.2.1.row (fun x hx => ⟨(hr.out.2.2.2.2.1 x hx).1, by have := (hr.out.2.2.2.2.1 x hx).2; have := HA.out.2.2.1; omega⟩)
          subst hq0
          clear hlen hq hk hdg
          go_wp2_with fail
          go_ret
          exact ⟨_, _, _, pre, rfl, HR.out, ⟨fun h => absurd ⟨HM.out, HB.out⟩ h, fun _ _ => HD.out⟩, hr.out.2.2.2.2.2.2⟩
        · have hq1 : (0 : Int) < (qn : Int) := by omega
          have HL : Hid (q.length = qn) := hlen
          clear hlen
          go_wp2_with fail
          refine (rqsmall_any qo qn qc q b wr hr.out.1 HA.out.2.1 HA.out.2.2.1).mono ?_
          rintro e w1 ⟨ro, rn, rc, r, d, kk, rfl, g1, g2, g3, g4⟩
          have hvq : 0 < val q := by
            have := val_zero hr.out.1.limbs hr.out.2.1 HL.out
            have := (val_bd hr.out.1.limbs).1
            omega
          obtain ⟨hk0, hnum, hd⟩ := g2.is_fine hr.out.2.1 (by have := HB.out; omega)
          have hd0 : 0 ≤ d := by rw [hd]; exact Int.emod_nonneg _ (by have := HB.out; omega)
          have hd1 : d < b := by rw [hd]; exact Int.emod_lt_of_pos _ (by have := HB.out; omega)
          have hgl := hr.out.2.2.2.1.lt
          have hown1 := hr.out.2.2.2.1.below g4
          have hplen : pre.length ≤ 1000 := by
            obtain ⟨ms, hms⟩ := dig_ex (b := b) HB.out (val q).toNat
            have hvr : ((val q).toNat : Int) = val q := by omega
            rw [hvr] at hms
            have := few_digits HB.out HA.out.1.limbs HM.out _ (hr.out.2.2.2.2.2.1 ms hms)
            simp at this
            omega
          have hdig : ∀ ms, Dig b ms (val r) → Dig b ((pre ++ [d]) ++ ms) (val xs) := by
            intro ms hms
            rw [hnum.val] at hms
            have e : d + b * (val q / b) = val q := by rw [hd]; exact Int.emod_add_mul_ediv _ _
            have hc := Dig.cons (d := d) hms hd0 hd1 (by rw [e]; exact hvq)
            rw [e] at hc
            have := hr.out.2.2.2.2.2.1 _ hc
            simpa using this
          have hqb : val q / b < val q := Int.ediv_lt_self_of_pos_of_ne_one hvq (by have := HB.out; omega)
          have hmr : May r := hnum.may.2 (by have := May.lt hr.out.1.limbs hr.out.2.1; omega)
          have H1 : Hid (RowAt w1 ro rn rc r ∧ May r ∧ Fresh wr.heap.size ro ∧ OwnR w1 w.heap.size g pre.length c pre ∧ Digs b (pre ++ [d]) ∧ (∀ ms, Dig b ms (val r) → Dig b ((pre ++ [d]) ++ ms) (val xs)) ∧ Below w.heap.size w w1 ∧ g < wr.heap.size ∧ w.heap.size ≤ g ∧ wr.heap.size ≤ w1.heap.size ∧ (val r).toNat < (val q).toNat) := ⟨g1, hmr, g3, hown1, fun x hx => by
              rcases List.mem_append.1 hx with h | h
              · exact hr.out.2.2.2.2.1 x h
              · simp at h; subst h; exact ⟨hd0, hd1⟩, hdig, chain hr.out.2.2.2.2.2.2 g4, hgl.2, hgl.1, g4.size, by have h9 := hnum.val; have h8 := (val_bd hnum.limbs).1; omega⟩
          clear g1 g2 g3 g4 hk0 hnum hd hd0 hd1 hgl hown1 hdig hqb hmr hvq HL
          go_wp2_with (at_builtin; refine wpList_append_lies _ rfl (.tmp 28) (.tmp 30) 22 rfl w.heap.size 24 i0 (.int .u64 0) 1 8 Tryz.underlying22 hi hz0 hz1 hz2 rfl (by decide) _ pre.length (pre.map (Value.int .u64)) rfl (H1.out.2.2.2.1.alloc _) ⟨w1.heap.size, 0, none⟩ 1 1 [.int .u64 d] rfl rfl (cell_one_new _ _ _) (by simp [Value.oneCell']) (by omega) (by unfold maxLen; omega) (by omega) (by have := H1.out.2.2.2.2.2.2.1.size; simp; omega) (w1.heap.size + 1) (by simp) ?_)
          intro gg cc w3 hown hgrow hat hlt3
          have hgrow' : (w1.alloc (Obj.cells #[Value.int IntKind.u64 d] 24)).grownBy w3 (some g) := hgrow
          have hat' : gg = g ∨ gg = w1.heap.size + 1 := by
            rcases hat with h | h
            · left; simp [Value.ownBlock] at h; exact h.symm
            · exact .inr h
          have hrow3 : RowAt w3 ro rn rc r := (H1.out.1.below ((Below.refl _ w1).alloc (Nat.le_refl _) _)).grown hgrow' (fun p hp hne => by have := H1.out.2.2.1 p hp; have := H1.out.2.2.2.2.2.2.2.1; omega)
          have hfr3 : ∀ p, ro = some p → r ≠ [] → p.block ≠ gg := fun p hp hne => by
            obtain ⟨b', off', e', hlt, _⟩ := H1.out.1.cells hne
            have h9 := H1.out.2.2.1 p hp
            have h8 := H1.out.2.2.2.2.2.2.2.1
            rw [hp] at e'
            cases e'
            have h7 : b' < w1.heap.size := hlt
            show b' ≠ gg
            have h6 : wr.heap.size ≤ b' := h9
            omega
          have hb3 : Below w.heap.size w w3 := (H1.out.2.2.2.2.2.2.1.alloc H1.out.2.2.2.2.2.2.1.size _).grown hgrow' (by have := H1.out.2.2.2.2.2.2.1.size; simp; omega) (fun k e => by cases e; exact H1.out.2.2.2.2.2.2.2.2.1)
          have H3 : Hid (RowAt w3 ro rn rc r ∧ May r ∧ (∀ p, ro = some p → r ≠ [] → p.block ≠ gg) ∧ OwnR w3 w.heap.size gg (pre ++ [d]).length cc (pre ++ [d]) ∧ Digs b (pre ++ [d]) ∧ (∀ ms, Dig b ms (val r) → Dig b ((pre ++ [d]) ++ ms) (val xs)) ∧ Below w.heap.size w w3) := ⟨hrow3, H1.out.2.1, hfr3, by unfold OwnR; rw [List.map_append, List.length_append]; exact hown, H1.out.2.2.2.2.1, H1.out.2.2.2.2.2.1, hb3⟩
          have HLT : Hid ((val r).toNat < (val q).toNat) := H1.out.2.2.2.2.2.2.2.2.2.2
          clear hown hgrow hgrow' hat hat' hrow3 hfr3 hb3 hlt3 H1
          go_wp2_with fail
          go_roundg ((val r).toNat)
          case measure => have := HLT.out; omega
          case rel => exact ⟨ro, rn, rc, gg, cc, r, pre ++ [d], rfl, by rw [List.length_append]; rfl, Nat.le_refl _, H3.out⟩
  · have HM : Hid (¬ May xs) := hm
    clear hm
    go_enter Tryz.func12, Tryz.ntmps12
    go_wp2_with fail
    refine (rmay_val _ _ _ xs _ HA.out.1 false (no_iff HM.out)).mono ?_
    rintro e w1 ⟨rfl, rfl⟩
    go_wp2_with fail
    go_ret
    exact ⟨_, 0, 0, [], rfl, HA.out.2.2.2.2.row (by intro x hx; simp at hx), ⟨fun _ => rfl, fun h => absurd h HM.out⟩, HA.out.2.2.2.1⟩

end Go.Proofs.YtghnmfkgpkikfaaGreatDoor
