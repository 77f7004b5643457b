/-
  The iterator of slices.Backward.
-/
import Derived.Test.YtmmbgfbliekkgaaOctI
import Derived.RangeFuncNested
import Derived.RangeFuncBound
import Derived.RangeFuncCalls
import Derived.RangeFuncLeaves
import Derived.RangeFuncBox
import Derived.Shelf.Abstract
import Derived.Shelf.RegionOpen
import Derived.WalkKit
import Derived.OwnWalkIn
import Derived.TacticsInMore
import Derived.LoopNIn
import Derived.LoopIn
import Derived.Maps.AppendAt
namespace Go.Proofs.Ytmmbgfbliekkgaa
open Go.RowKit Go.Shelf

attribute [local go_sem] Oper.semAt_some

theorem cell_block_same {W W' : World} {b : Nat} (h : W'.heap[b]? = W.heap[b]?) : W'.cell? ⟨b, 0, none⟩ = W.cell? ⟨b, 0, none⟩ := World.cell?_of_block (a := ⟨b, 0, none⟩) h

/-- slices.Backward hands back its iterator. -/
theorem back_any (ao : Option Addr) (n cap : Nat) (w : World) :
    Calls Try.prog 31 #[.slice ao n cap] w fun e w' => e = .returned (.func (.func 49) #[] #[.pointer (some ⟨w.heap.size, 0, none⟩)]) ∧ w' = w.alloc (.cells #[.slice ao n cap] 24) := by
  go_enter Try.func31, Try.ntmps31
  go_wp2
  go_ret
  exact ⟨rfl, rfl⟩

/-- What the body keeps for the iterator: what lay below n₀, and the block Bs. -/
def KeepsB (n₀ Bs : Nat) (W W' : World) : Prop := Below n₀ W W' ∧ W'.heap[Bs]? = W.heap[Bs]?

theorem KeepsB.trans {n₀ Bs : Nat} {A B C : World} (h : KeepsB n₀ Bs A B) (k : KeepsB n₀ Bs B C) : KeepsB n₀ Bs A C := ⟨h.1.trans k.1, k.2.trans h.2⟩
theorem keepsB_b {n₀ Bs : Nat} {w : World} (hn : n₀ ≤ w.heap.size) (hB : Bs < w.heap.size) (W : World) (l : Nat) (o o' : Obj) (hl : w.heap.size ≤ l) (h : W.heap[l]? = some o) (hc : o.isCells = false) (hw : o.isWalk = false) : KeepsB n₀ Bs W (W.putObj l o') :=
  ⟨belowK_b hn W l o o' hl h hc hw, World.putObj_heap_other (by omega)⟩

/-- A limb. -/
abbrev Lmb := { x : Int // 0 ≤ x ∧ x < BB }
/-- A place, and the limb there. -/
abbrev Placed := Int × Lmb

set_option maxRecDepth 100000 in
set_option maxHeartbeats 2000000 in
theorem back1_in (n : Nat) (l Bs n₀ : Nat) (ao : Option Addr) (nl cl : Nat) (ls : List Int) (J Jx : List (Placed) → World → Prop) (hd : Limbs ls) (hlen : ls.length ≤ 1000000)
    (hY : ∀ pre x W, J pre W → pre.length < ls.length → YieldAt Fence.wide (n - 1) Try.prog l #[.int .i64 x.1, .int .u64 x.2.1] W fun e W' =>
      (e = .returned (.bool true) ∧ J (pre ++ [x]) W' ∧ KeepsB n₀ Bs W W') ∨ (e = .returned (.bool false) ∧ Jx (pre ++ [x]) W'))
    (W0 : World) (hBs : W0.cell? ⟨Bs, 0, none⟩ = some (.slice ao nl cl)) (hr : RowAt W0 ao nl cl ls) (hbel : ∀ p, ao = some p → ls ≠ [] → p.block < n₀) (h0 : J [] W0) :
    CallsIn Fence.wide n Try.prog 49 #[.func (.yield l) #[] #[], .pointer (some ⟨Bs, 0, none⟩)] W0 fun e W' => (∃ v, e = .returned v) ∧
      ((∃ ys : List (Placed), ys.map (fun x => x.2.1) = ls.reverse ∧ J ys W') ∨ (∃ pre : List (Placed), pre.map (fun x => x.2.1) <+: ls.reverse ∧ Jx pre W')) := by
  have HY : Hid _ := hY
  have HR : Hid (RowAt W0 ao nl cl ls ∧ Limbs ls ∧ (∀ p, ao = some p → ls ≠ [] → p.block < n₀)) := ⟨hr, hd, hbel⟩
  have H0 : Hid (J [] W0) := h0
  have hl := hr.len
  have hnl : nl ≤ 1000000 := by omega
  have HL : Hid (ls.length = nl) := hl
  clear hY hr hd hbel h0 hl hlen
  refine callsIn_of_wp Try.func49 rfl trivial ?_ rfl
  simp only [Try.ntmps49, List.size_toArray, List.length_cons, List.length_nil, Nat.reduceAdd, Nat.reduceSub, Array.replicate_succ, Array.replicate_zero, List.push_toArray, List.append_toArray, List.nil_append, List.cons_append]
  gi_wp2
  gi_loopw [3] (fun s wr => ∃ (pre : List (Placed)) (i : Int), s = .int .i64 i ∧ i + (pre.length : Int) = (nl : Int) - 1 ∧ -1 ≤ i ∧ Hid (pre.map (fun x => x.2.1) = (ls.drop (i + 1).toNat).reverse ∧ Below n₀ W0 wr ∧ wr.cell? ⟨Bs, 0, none⟩ = some (.slice ao nl cl) ∧ J pre wr))
    (fun s _ => (intOf s + 1).toNat)
  case atStart =>
    refine ⟨[], (nl : Int) - 1, rfl, by simp, by omega, ⟨?_, Below.refl _ _, hBs, H0.out⟩⟩
    rw [List.drop_of_length_le (by have := HL.out; omega)]
    rfl
  case round =>
    obtain ⟨pre, i, rfl, hi, hi1, hrel⟩ := hrel
    by_cases h : i = -1
    · subst h
      have he : pre.map (fun x => x.2.1) = ls.reverse := by
        have := hrel.out.1
        simpa using this
      have HE : Hid (pre.map (fun x => x.2.1) = ls.reverse) := he
      clear he
      gi_wp2
      go_end0
      exact ⟨⟨_, rfl⟩, .inl ⟨pre, HE.out, hrel.out.2.2.2⟩⟩
    · obtain ⟨k, rfl⟩ : ∃ k : Nat, i = k := ⟨i.toNat, by omega⟩
      have hkl : k < nl := by omega
      have hkl' : (k : Int) < (nl : Int) := by omega
      have hne : ls ≠ [] := by intro e; have := HL.out; rw [e] at this; simp at this; omega
      obtain ⟨g, off, rfl, hlt, hc⟩ := HR.out.1.cells hne
      have hgb : g < n₀ := HR.out.2.2 _ rfl hne
      have hck : wr.cell? ⟨g, off + k, none⟩ = some (.int .u64 (ls.getD k 0)) := (hrel.out.2.1.cell (p := ⟨g, off + k, none⟩) hgb).trans (hc k (by have := HL.out; omega))
      have hcs := hrel.out.2.2.1
      obtain ⟨x, hx⟩ : ∃ x, x = ls.getD k 0 := ⟨_, rfl⟩
      rw [← hx] at hck
      have hxm : x ∈ ls := by
        rw [hx, List.getD_eq_getElem?_getD, List.getElem?_eq_getElem (by have := HL.out; omega)]
        exact List.getElem_mem _
      have hxd := HR.out.2.1 x hxm
      have hdrop : ((pre ++ [(((k : Int), ⟨x, hxd⟩) : Placed)]).map fun x => x.2.1) = (ls.drop k).reverse := by
        have h1 := hrel.out.1
        rw [show ((k : Int) + 1).toNat = k + 1 by omega] at h1
        have hkk : k < ls.length := by have h9 := HL.out; rw [h9]; exact hkl
        have e2 : ls.drop k = ls[k] :: ls.drop (k + 1) := List.drop_eq_getElem_cons hkk
        rw [List.map_append, h1, e2, List.reverse_cons]
        simp [hx, hkk]
      obtain ⟨fn, tmps, assign, body, hy, hR⟩ := HY.out pre ((k : Int), ⟨x, hxd⟩) wr hrel.out.2.2.2 (by have := HL.out; omega)
      have HD : Hid _ := hdrop
      clear hdrop hc hx hxm
      dsimp only at hy
      gi_wp2
      refine ⟨fun h => (by cases h), hR.mono ?_⟩
      rintro e w2 (⟨rfl, hJ2, hk2⟩ | ⟨rfl, hJx2⟩)
      · have HK : Hid (Below n₀ W0 w2 ∧ w2.cell? ⟨Bs, 0, none⟩ = some (.slice (some ⟨g, off, none⟩) nl cl) ∧ J (pre ++ [((k : Int), ⟨x, hxd⟩)]) w2) := ⟨hrel.out.2.1.trans hk2.1, (cell_block_same hk2.2).trans hrel.out.2.2.1, hJ2⟩
        clear hk2 hJ2
        gi_wp2
        go_roundw
        case rel =>
          refine ⟨pre ++ [((k : Int), ⟨x, hxd⟩)], (k : Int) - 1, rfl, by simp; omega, by omega, ⟨?_, HK.out.1, HK.out.2.1, HK.out.2.2⟩⟩
          rw [show ((k : Int) - 1 + 1).toNat = k by omega]
          exact HD.out
        case measure => simp [intOf]
      · gi_wp2
        refine bodyPost_ret (results_none rfl _ _ _) rfl ?_
        exact ⟨⟨_, rfl⟩, .inr ⟨pre ++ [((k : Int), ⟨x, hxd⟩)], by rw [HD.out]; exact ⟨(ls.take k).reverse, by rw [← List.reverse_append, List.take_append_drop]⟩, hJx2⟩⟩

theorem back_stops (n : Nat) (Bs n₀ : Nat) (ao : Option Addr) (nl cl : Nat) (ls : List Int) (hd : Limbs ls) (hlen : ls.length ≤ 1000000) (w : World) (hBs : Bs < w.heap.size) (hc : w.cell? ⟨Bs, 0, none⟩ = some (.slice ao nl cl)) (hr : RowAt w ao nl cl ls) (hbel : ∀ p, ao = some p → ls ≠ [] → p.block < n₀) :
    SeqStopsK Fence.wide n Try.prog 49 #[.pointer (some ⟨Bs, 0, none⟩)] (fun x : Placed => #[Value.int .i64 x.1, .int .u64 x.2.1]) (KeepsB n₀ Bs) (fun ys => ys.map (fun x => x.2.1) = ls.reverse) (fun pre => pre.map (fun x => x.2.1) <+: ls.reverse) ls.length w := fun l J Jx W hW _ _ hY h0 =>
  back1_in n l Bs n₀ ao nl cl ls J Jx hd hlen hY W ((hW.cell (p := ⟨Bs, 0, none⟩) hBs).trans hc) (hr.below hW) hbel h0

end Go.Proofs.Ytmmbgfbliekkgaa
