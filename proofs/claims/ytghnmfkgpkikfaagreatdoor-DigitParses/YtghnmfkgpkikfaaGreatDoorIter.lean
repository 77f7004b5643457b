/-
  The iterator of digits: digit.digits, and what a loop over it must keep.
-/
import Derived.Test.YtghnmfkgpkikfaaGreatDoorJ2
import Derived.Test.YtghnmfkgpkikfaaGreatDoorTextMath
import Derived.RangeFuncNested
import Derived.RangeFuncBound
import Derived.RangeFuncCalls
import Derived.RangeFuncLeaves
import Derived.RangeFuncBox
import Derived.Shelf.Abstract
import Derived.Shelf.RegionOpen
import Derived.WalkKit
import Derived.OwnWalkIn
import Derived.TacticsInMore
import Derived.LoopNIn
import Derived.LoopIn
import Derived.Maps.AppendAt
namespace Go.Proofs.YtghnmfkgpkikfaaGreatDoor
open Go.RowKit Go.Shelf

attribute [local go_sem] Oper.semAt_some

/-- The block k is the body's own: the variable's box, or what its slice lies in. -/
def Kin (Bx : Nat) (W : World) (k : Nat) : Prop := k = Bx ∨ ∃ v, W.cell? ⟨Bx, 0, none⟩ = some v ∧ v.ownBlock = some k

/-- What a body that collects into the variable at Bx keeps. -/
structure KeepsRows (Bx : Nat) (W W' : World) : Prop where
  size : W.heap.size ≤ W'.heap.size
  same : ∀ (k : Nat) (o : Obj), W.heap[k]? = some o → o.isCells = true → ¬ Kin Bx W k → W'.heap[k]? = some o
  kin : ∀ k, Kin Bx W' k → Kin Bx W k ∨ W.heap.size ≤ k
  lt : (∀ k, Kin Bx W k → k < W.heap.size) → ∀ k, Kin Bx W' k → k < W'.heap.size

theorem KeepsRows.trans {Bx : Nat} {A B C : World} (h : KeepsRows Bx A B) (k : KeepsRows Bx B C) : KeepsRows Bx A C := by
  refine ⟨Nat.le_trans h.size k.size, fun i o hi ho hk => ?_, fun i hi => ?_, fun hl i hi => k.lt (h.lt hl) i hi⟩
  · have h1 := h.same i o hi ho hk
    refine k.same i o h1 ho fun hb => ?_
    rcases h.kin i hb with hh | hh
    · exact hk hh
    · have := (Array.getElem?_eq_some_iff.1 hi).1
      omega
  · rcases k.kin i hi with hh | hh
    · exact h.kin i hh
    · exact .inr (Nat.le_trans h.size hh)

theorem cell_block_same {W W' : World} {b : Nat} (h : W'.heap[b]? = W.heap[b]?) : W'.cell? ⟨b, 0, none⟩ = W.cell? ⟨b, 0, none⟩ := World.cell?_of_block (a := ⟨b, 0, none⟩) h

theorem Kin.same {Bx : Nat} {W W' : World} (h : W'.cell? ⟨Bx, 0, none⟩ = W.cell? ⟨Bx, 0, none⟩) {k : Nat} (hk : Kin Bx W' k) : Kin Bx W k := by
  rcases hk with rfl | ⟨v, hv, hb⟩
  · exact .inl rfl
  · exact .inr ⟨v, h ▸ hv, hb⟩

theorem keepsRows_b {Bx : Nat} {w : World} (hB : Bx < w.heap.size) (W : World) (l : Nat) (o o' : Obj) (hl : w.heap.size ≤ l) (h : W.heap[l]? = some o) (hc : o.isCells = false) (_ : o.isWalk = false) : KeepsRows Bx W (W.putObj l o') := by
  have hcell : (W.putObj l o').cell? ⟨Bx, 0, none⟩ = W.cell? ⟨Bx, 0, none⟩ := cell_block_same (World.putObj_heap_other (by omega))
  refine ⟨by simp, fun k o1 hk ho hkin => ?_, fun k hk => .inl (hk.same hcell), fun hlt k hk => by simpa using hlt k (hk.same hcell)⟩
  have hne : k ≠ l := by
    rintro rfl
    rw [h] at hk
    cases hk
    rw [hc] at ho
    cases ho
  exact (World.putObj_heap_other hne).trans hk

/-- The value of a row that a slice shows: what is left to be taken off. -/
def shownAt (W : World) : Value → Nat
  | .slice (some a) n _ => (val ((List.range n).map fun j => match W.cell? ⟨a.block, a.off + j, none⟩ with | some (.int .u64 x) => x | _ => 0)).toNat
  | _ => 0

theorem shownAt_row {W : World} {ao : Option Addr} {n cap : Nat} {xs : List Int} (h : RowAt W ao n cap xs) : shownAt W (.slice ao n cap) = (val xs).toNat := by
  have hl := h.len
  by_cases hx : xs = []
  · subst hx
    simp at hl
    subst hl
    cases ao with
    | none => rfl
    | some a => simp [shownAt]
  · obtain ⟨b, off, rfl, hlt, hc⟩ := h.cells hx
    simp only [shownAt]
    congr 2
    apply List.ext_getElem
    · simp [hl]
    · intro j h1 h2
      simp only [List.getElem_map, List.getElem_range]
      rw [hc j h2]
      simp [h2]

/-- A row lies on where the body keeps its word. -/
theorem RowAt.keeps {Bx : Nat} {W W' : World} {ao : Option Addr} {n cap : Nat} {xs : List Int} (h : RowAt W ao n cap xs) (hk : KeepsRows Bx W W') (hf : ∀ p, ao = some p → xs ≠ [] → ¬ Kin Bx W p.block) : RowAt W' ao n cap xs := by
  refine ⟨h.len, h.limbs, h.fits, h.most, h.bare, fun hne => ?_⟩
  obtain ⟨b, off, rfl, hlt, hc⟩ := h.cells hne
  have h0 := hc 0 (List.length_pos_iff.2 hne)
  have hcells : ∃ o : Obj, W.heap[b]? = some o ∧ o.isCells = true := by
    unfold World.cell? at h0
    cases ho : W.heap[b]? with
    | none => simp [ho] at h0
    | some o => exact ⟨o, rfl, by cases o <;> simp_all [Obj.isCells]⟩
  obtain ⟨o, ho, hoc⟩ := hcells
  have hs := hk.same b o ho hoc (hf _ rfl hne)
  exact ⟨b, off, rfl, (Array.getElem?_eq_some_iff.1 hs).1, fun j hj => (World.cell?_of_block (a := ⟨b, off + j, none⟩) (hs.trans ho.symm)).trans (hc j hj)⟩

/-- A digit to the base b. -/
abbrev Digit (b : Int) := { x : Int // 0 ≤ x ∧ x < b }

set_option maxRecDepth 100000 in
set_option maxHeartbeats 2000000 in
theorem digits1_in (n : Nat) (b : Int) (hb2 : 2 ≤ b) (hbB : b < BB) (l Ba Bb Bx N : Nat) (ao : Option Addr) (na ca : Nat) (xs : List Int) (hm : May xs) (J Jx : List (Digit b) → World → Prop) (W0 : World)
    (hJ : AbidesFrom W0.heap.size J)
    (hN : ∀ L, Dig b L (val xs) → L.length ≤ N)
    (hY : ∀ pre x W, J pre W → pre.length < N → YieldAt Fence.wide (n - 1) Tryz.prog l #[.int .u64 x.1] W fun e W' =>
      (e = .returned (.bool true) ∧ J (pre ++ [x]) W' ∧ KeepsRows Bx W W') ∨ (e = .returned (.bool false) ∧ Jx (pre ++ [x]) W'))
    (hkb : ¬ Kin Bx W0 Bb) (hca : W0.cell? ⟨Ba, 0, none⟩ = some (.slice ao na ca)) (hcb : W0.cell? ⟨Bb, 0, none⟩ = some (.int .u64 b)) (hr : RowAt W0 ao na ca xs)
    (hf : ∀ p, ao = some p → xs ≠ [] → ¬ Kin Bx W0 p.block) (hBx : Bx < W0.heap.size) (hl : ∀ k, Kin Bx W0 k → k < W0.heap.size) (h0 : J [] W0) :
    CallsIn Fence.wide n Tryz.prog 46 #[.func (.yield l) #[] #[], .pointer (some ⟨Ba, 0, none⟩), .pointer (some ⟨Bb, 0, none⟩)] W0 fun e W' => (∃ v, e = .returned v) ∧
      ((∃ ys, Dig b (ys.map Subtype.val) (val xs) ∧ J ys W') ∨ (∃ pre, True ∧ Jx pre W')) := by
  have HN : Hid _ := hN
  have HJ : Hid _ := hJ
  have HY : Hid _ := hY
  have HR : Hid (RowAt W0 ao na ca xs ∧ May xs ∧ (∀ p, ao = some p → xs ≠ [] → ¬ Kin Bx W0 p.block) ∧ Bx < W0.heap.size ∧ (∀ k, Kin Bx W0 k → k < W0.heap.size) ∧ ¬ Kin Bx W0 Bb ∧ W0.cell? ⟨Bb, 0, none⟩ = some (.int .u64 b)) := ⟨hr, hm, hf, hBx, hl, hkb, hcb⟩
  have H0 : Hid (J [] W0) := h0
  clear hN hJ hY hr hm hf hBx hl h0 hkb hcb
  refine callsIn_of_wp Tryz.func46 rfl trivial ?_ rfl
  simp only [Tryz.ntmps46, List.size_toArray, List.length_cons, List.length_nil, Nat.reduceAdd, Nat.reduceSub, Array.replicate_succ, Array.replicate_zero, List.push_toArray, List.append_toArray, List.nil_append, List.cons_append]
  gi_wp2
  gi_loopw [4] (fun s wr => ∃ (pre : List (Digit b)) (qo : Option Addr) (qn qc : Nat) (q : List Int), s = .slice qo qn qc ∧ Hid (RowAt wr qo qn qc q ∧ May q ∧ (∀ p, qo = some p → q ≠ [] → ¬ Kin Bx wr p.block) ∧ Bx < wr.heap.size ∧ (∀ k, Kin Bx wr k → k < wr.heap.size)
      ∧ ¬ Kin Bx wr Bb ∧ wr.cell? ⟨Bb, 0, none⟩ = some (.int .u64 b) ∧ (∀ ms, Dig b ms (val q) → Dig b (pre.map Subtype.val ++ ms) (val xs)) ∧ J pre wr))
    (fun s wr => shownAt wr s)
  case atStart =>
    exact ⟨[], ao, na, ca, xs, rfl, ⟨HR.out.1, HR.out.2.1, HR.out.2.2.1, HR.out.2.2.2.1, HR.out.2.2.2.2.1, HR.out.2.2.2.2.2.1, HR.out.2.2.2.2.2.2, fun ms h => by simpa using h, H0.out⟩⟩
  case round =>
    clear HR H0 hca
    obtain ⟨pre, qo, qn, qc, q, rfl, hrel⟩ := hrel
    have hlen := hrel.out.1.len
    by_cases hq0 : qn = 0
    · subst hq0
      have hq : q = [] := List.length_eq_zero_iff.1 hlen
      subst hq
      clear hlen
      gi_wp2
      go_end0
      exact ⟨⟨_, rfl⟩, .inl ⟨pre, by simpa using hrel.out.2.2.2.2.2.2.2.1 [] (Dig.nil b), hrel.out.2.2.2.2.2.2.2.2⟩⟩
    · have hq1 : (0 : Int) < (qn : Int) := by omega
      have hcb1 : wr.cell? ⟨Bb, 0, none⟩ = some (.int .u64 b) := hrel.out.2.2.2.2.2.2.1
      have hC : Calls Tryz.prog 47 #[.slice qo qn qc, .int .u64 b] wr _ := qsmall_any qo qn qc q b wr hrel.out.1 (by omega) hbB
      have HC : Hid (∀ u : Unit, Calls Tryz.prog 47 #[.slice qo qn qc, .int .u64 b] wr _) := fun _ => hC
      have HL : Hid (q.length = qn) := hlen
      clear hC hlen
      gi_wp2_with fail
      refine ⟨trivial, fun h => (by cases h), ?_⟩
      refine (callsIn_wide.2 (HC.out ())).mono ?_
      rintro e w1 ⟨ro, rn, rc, r, d, k, rfl, g1, g2, g3, g4⟩
      have hvq : 0 < val q := by
        have := val_zero hrel.out.1.limbs hrel.out.2.1 HL.out
        have := (val_bd hrel.out.1.limbs).1
        omega
      obtain ⟨hk0, hnum, hd⟩ := g2.is_fine hrel.out.2.1 (by omega)
      have hd0 : 0 ≤ d := by rw [hd]; exact Int.emod_nonneg _ (by omega)
      have hd1 : d < b := by rw [hd]; exact Int.emod_lt_of_pos _ (by omega)
      have hJ1 : J pre w1 := HJ.out pre wr w1 none hrel.out.2.2.2.2.2.2.2.2 ⟨g3.os, g3.tape, g3.output, g3.size, fun k hk _ => g3.block k hk⟩ (fun r e => by cases e)
      have hcx : w1.cell? ⟨Bx, 0, none⟩ = wr.cell? ⟨Bx, 0, none⟩ := g3.cell (p := ⟨Bx, 0, none⟩) hrel.out.2.2.2.1
      have hlt1 : ∀ k, Kin Bx w1 k → k < wr.heap.size := fun k hk => hrel.out.2.2.2.2.1 k (hk.same hcx)
      have hbs : Bb < wr.heap.size := by
        rcases Nat.lt_or_ge Bb wr.heap.size with h | h
        · exact h
        · simp [World.cell?, Array.getElem?_eq_none h] at hcb1
      have hcb2 : w1.cell? ⟨Bb, 0, none⟩ = some (.int .u64 b) := (g3.cell (p := ⟨Bb, 0, none⟩) hbs).trans hcb1
      have hkb1 : ¬ Kin Bx w1 Bb := fun h => hrel.out.2.2.2.2.2.1 (h.same hcx)
      have HBB : Hid (Bb < wr.heap.size ∧ w1.cell? ⟨Bb, 0, none⟩ = some (.int .u64 b) ∧ ¬ Kin Bx w1 Bb) := ⟨hbs, hcb2, hkb1⟩
      have hdig : ∀ ms, Dig b ms (val r) → Dig b ((pre ++ [(⟨d, hd0, hd1⟩ : Digit b)]).map Subtype.val ++ ms) (val xs) := by
        intro ms hms
        have hv : val r = val q / b := hnum.val
        rw [hv] at hms
        have e : d + b * (val q / b) = val q := by rw [hd]; exact Int.emod_add_mul_ediv _ _
        have hc := Dig.cons (d := d) hms hd0 hd1 (by rw [e]; exact hvq)
        rw [e] at hc
        have := hrel.out.2.2.2.2.2.2.2.1 _ hc
        simpa using this
      have hplen : pre.length < N := by
        obtain ⟨ms, hms⟩ := dig_ex hb2 (val r).toNat
        have hvr : ((val r).toNat : Int) = val r := by
          have := (val_bd hnum.limbs).1
          omega
        rw [hvr] at hms
        have := HN.out _ (hdig ms hms)
        simp at this
        omega
      obtain ⟨fn, tmps, assign, body, hy, hR⟩ := HY.out pre ⟨d, hd0, hd1⟩ w1 hJ1 hplen
      have HF : Hid (RowAt w1 ro rn rc r ∧ Fresh wr.heap.size ro ∧ Num r (val q / b) ∧ Below wr.heap.size wr w1) := ⟨g1, g4, hnum, g3⟩
      have HH : Hid _ := hlt1
      have HD : Hid _ := hdig
      have hqb : val q / b < val q := Int.ediv_lt_self_of_pos_of_ne_one hvq (by omega)
      have HQ : Hid (val q / b < val q ∧ 0 < val q) := ⟨hqb, hvq⟩
      clear g1 g2 g3 g4 hnum hlt1 hdig hk0 hqb hvq hd hJ1 hplen hcx hbs hcb2 hkb1 hcb1
      dsimp only at hy
      gi_wp2
      refine ⟨fun h => (by cases h), hR.mono ?_⟩
      rintro e w2 (⟨rfl, hJ2, hk2⟩ | ⟨rfl, hJx2⟩)
      · have hnk : ∀ p, ro = some p → r ≠ [] → ¬ Kin Bx w1 p.block := fun p hp _ hk => by
          have h1 := HH.out _ hk
          have h2 := HF.out.2.1 p hp
          omega
        have hr2 : RowAt w2 ro rn rc r := HF.out.1.keeps hk2 hnk
        have H2 : Hid (RowAt w2 ro rn rc r) := hr2
        have hl1 : ∀ k, Kin Bx w1 k → k < w1.heap.size := fun k hk => Nat.lt_of_lt_of_le (HH.out k hk) HF.out.2.2.2.size
        have HK : Hid (KeepsRows Bx w1 w2 ∧ (∀ p, ro = some p → r ≠ [] → ¬ Kin Bx w1 p.block) ∧ (∀ k, Kin Bx w1 k → k < w1.heap.size) ∧ J (pre ++ [⟨d, hd0, hd1⟩]) w2)   := ⟨hk2, hnk, hl1, hJ2⟩
        clear hk2 hnk hl1 hJ2 hr2
        gi_wp2
        go_roundw
        case rel =>
          refine ⟨pre ++ [⟨d, hd0, hd1⟩], ro, rn, rc, r, rfl, ⟨H2.out, ?_, ?_, ?_, HK.out.1.lt HK.out.2.2.1, ?_, ?_, HD.out, HK.out.2.2.2⟩⟩
          · refine HF.out.2.2.1.may.2 ?_
            have := May.lt hrel.out.1.limbs hrel.out.2.1
            have := HQ.out.1
            omega
          · intro p hp hne hk
            rcases HK.out.1.kin _ hk with h | h
            · exact HK.out.2.1 p hp hne h
            · obtain ⟨b', off', e', hlt, _⟩ := HF.out.1.cells hne
              rw [hp] at e'
              cases e'
              exact Nat.not_lt.2 h hlt
          · exact Nat.lt_of_lt_of_le (Nat.lt_of_lt_of_le hrel.out.2.2.2.1 HF.out.2.2.2.size) HK.out.1.size
          · intro hk
            rcases HK.out.1.kin _ hk with h | h
            · exact HBB.out.2.2 h
            · have := HBB.out.1
              have := HF.out.2.2.2.size
              omega
          · have h1 := HBB.out.2.1
            obtain ⟨o, ho, hoc⟩ : ∃ o : Obj, w1.heap[Bb]? = some o ∧ o.isCells = true := by
              unfold World.cell? at h1
              cases ho : w1.heap[Bb]? with
              | none => simp [ho] at h1
              | some o => exact ⟨o, rfl, by cases o <;> simp_all [Obj.isCells]⟩
            have h2 := HK.out.1.same Bb o ho hoc HBB.out.2.2
            exact (cell_block_same (h2.trans ho.symm)).trans h1
        case measure =>
          rw [shownAt_row H2.out, shownAt_row hrel.out.1, HF.out.2.2.1.val]
          have := HQ.out
          omega
      · gi_wp2
        refine bodyPost_ret (results_none rfl _ _ _) rfl ?_
        exact ⟨⟨_, rfl⟩, .inr ⟨_, trivial, hJx2⟩⟩

end Go.Proofs.YtghnmfkgpkikfaaGreatDoor
