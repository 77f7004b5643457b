/-
  The frames in turn: as lists; guard.inTurn, and its iterator.
-/
import Derived.Test.YtfpiepephljmgaaDoorNoneWalk
import Derived.RangeFuncNested
import Derived.RangeFuncBound
import Derived.RangeFuncCalls
import Derived.RangeFuncLeaves
import Derived.RangeFuncBox
import Derived.Shelf.Abstract
import Derived.Shelf.RegionOpen
import Derived.WalkKit
import Derived.OwnWalkIn
import Derived.TacticsInMore
import Derived.LoopNIn
import Derived.LoopIn
import Derived.Maps.AppendAt
namespace Go.Proofs.YtfpiepephljmgaaDoor
open Go.RowKit Go.Shelf

attribute [local go_sem] Oper.semAt_some

/-- The frames in turn, each with the bytes behind it. -/
def turnL : Nat → Nat → Nat → List UInt8 → List (Frm × List UInt8)
  | 0, _, _, _ => []
  | n + 1, q, e, s =>
    match firstL s with
    | .error _ => []
    | .ok (f, r) => if f.epoch = e ∧ f.seq = q then (f, r) :: turnL n (q + 1) e r else []

theorem first_less {s : List UInt8} {f : Frm} {r : List UInt8} (h : firstL s = .ok (f, r)) : r.length + 24 + f.text.length = s.length := by
  have h1 := (first_one s f r h).1
  have h2 := congrArg List.length h1
  rw [List.length_append, putF_length] at h2
  omega

theorem turnL_fuel : ∀ (n m q e : Nat) (s : List UInt8), s.length ≤ n → s.length ≤ m → turnL n q e s = turnL m q e s
  | 0, 0, _, _, _, _, _ => rfl
  | 0, m + 1, q, e, s, h, _ => by
    have hs : s = [] := List.length_eq_zero_iff.1 (by omega)
    subst hs
    rfl
  | n + 1, 0, q, e, s, _, h => by
    have hs : s = [] := List.length_eq_zero_iff.1 (by omega)
    subst hs
    rfl
  | n + 1, m + 1, q, e, s, hn, hm => by
    simp only [turnL]
    split
    · rfl
    · rename_i f r hf
      have := first_less hf
      rw [turnL_fuel n m (q + 1) e r (by omega) (by omega)]

/-- All frames in turn. -/
def allL (q e : Nat) (s : List UInt8) : List (Frm × List UInt8) := turnL s.length q e s

theorem allL_err {q e : Nat} {s : List UInt8} {k : Int} (h : firstL s = .error k) : allL q e s = [] := by
  rw [allL, turnL_fuel s.length (s.length + 1) q e s (Nat.le_refl _) (by omega)]
  simp only [turnL, h]
theorem allL_no {q e : Nat} {s : List UInt8} {f : Frm} {r : List UInt8} (h : firstL s = .ok (f, r)) (hn : ¬ (f.epoch = e ∧ f.seq = q)) : allL q e s = [] := by
  rw [allL, turnL_fuel s.length (s.length + 1) q e s (Nat.le_refl _) (by omega)]
  simp only [turnL, h, if_neg hn]
theorem allL_yes {q e : Nat} {s : List UInt8} {f : Frm} {r : List UInt8} (h : firstL s = .ok (f, r)) (h1 : f.epoch = e) (h2 : f.seq = q) : allL q e s = (f, r) :: allL (q + 1) e r := by
  have := first_less h
  rw [allL, turnL_fuel s.length (s.length + 1) q e s (Nat.le_refl _) (by omega)]
  simp only [turnL, h, if_pos (And.intro h1 h2)]
  rw [turnL_fuel s.length r.length (q + 1) e r (by omega) (Nat.le_refl _)]
  rfl

theorem allL_len : ∀ (n q e : Nat) (s : List UInt8), (turnL n q e s).length * 24 ≤ s.length
  | 0, _, _, _ => by simp [turnL]
  | n + 1, q, e, s => by
    simp only [turnL]
    split
    · simp
    · rename_i f r hf
      have := first_less hf
      split
      · have := allL_len n (q + 1) e r
        rw [List.length_cons]
        omega
      · simp

theorem cell_block_same {W W' : World} {b : Nat} (h : W'.heap[b]? = W.heap[b]?) : W'.cell? ⟨b, 0, none⟩ = W.cell? ⟨b, 0, none⟩ := World.cell?_of_block (a := ⟨b, 0, none⟩) h

/-- guard.inTurn hands back its iterator. -/
theorem turn_any (s : List UInt8) (e : Int) (w : World) :
    Calls Tryd.prog 26 #[.string (str s), .int .u64 e] w fun v w' => v = .returned (.func (.func 27) #[] #[.pointer (some ⟨w.heap.size, 0, none⟩), .pointer (some ⟨w.heap.size + 1, 0, none⟩)]) ∧
      w' = (w.alloc (.cells #[.string (str s)] 9)).alloc (.cells #[.int .u64 e] 22) := by
  go_enter Tryd.func26, Tryd.ntmps26
  go_wp2
  go_ret
  exact ⟨rfl, rfl⟩

/-- What the body keeps for the iterator: what lay below n₀, and the block Be. -/
def KeepsB (n₀ Be : Nat) (W W' : World) : Prop := Below n₀ W W' ∧ W'.heap[Be]? = W.heap[Be]?

theorem KeepsB.trans {n₀ Be : Nat} {A B C : World} (h : KeepsB n₀ Be A B) (k : KeepsB n₀ Be B C) : KeepsB n₀ Be A C := ⟨h.1.trans k.1, k.2.trans h.2⟩
theorem keepsB_b {n₀ Be : Nat} {w : World} (hn : n₀ ≤ w.heap.size) (hB : Be < w.heap.size) (W : World) (l : Nat) (o o' : Obj) (hl : w.heap.size ≤ l) (h : W.heap[l]? = some o) (hc : o.isCells = false) (hw : o.isWalk = false) : KeepsB n₀ Be W (W.putObj l o') :=
  ⟨belowK_b hn W l o o' hl h hc hw, World.putObj_heap_other (by omega)⟩

/-- How long a text is. -/
def lenOf : Value → Nat
  | .string T => T.size
  | _ => 0

/-- What the loop holds. -/
structure Turning2 (s : List UInt8) (ep Be n₀ : Nat) (W0 : World) (pre : List (Frm × List UInt8)) (left : List UInt8) (q : Nat) (wr : World) : Prop where
  sofar : pre ++ allL q ep left = allL 1 ep s
  next : q = pre.length + 1
  short : left.length ≤ s.length
  bel : Below n₀ W0 wr
  box : wr.cell? ⟨Be, 0, none⟩ = some (.int .u64 ep)
  lt : Be < wr.heap.size
  tab : Tab wr

set_option maxRecDepth 100000 in
set_option maxHeartbeats 4000000 in
theorem turn1_in (n l Bs Be n₀ : Nat) (s : List UInt8) (ep : Nat) (hep : ep < 18446744073709551616) (hl : s.length ≤ 100000) (J Jx : List (Frm × List UInt8) → World → Prop) (W0 : World)
    (hJ : AbidesFrom W0.heap.size J)
    (hY : ∀ pre x W, J pre W → pre.length < 100000 → YieldAt Fence.wide (n - 1) Tryd.prog l #[x.1.v, .string (str x.2)] W fun e W' =>
      (e = .returned (.bool true) ∧ J (pre ++ [x]) W' ∧ KeepsB n₀ Be W W') ∨ (e = .returned (.bool false) ∧ Jx (pre ++ [x]) W'))
    (hBs : W0.cell? ⟨Bs, 0, none⟩ = some (.string (str s))) (hBe : W0.cell? ⟨Be, 0, none⟩ = some (.int .u64 ep)) (hlt : Be < W0.heap.size) (hT : Tab W0) (hn0 : 0 < n₀) (hn1 : n₀ ≤ W0.heap.size) (h0 : J [] W0) :
    CallsIn Fence.wide n Tryd.prog 27 #[.func (.yield l) #[] #[], .pointer (some ⟨Bs, 0, none⟩), .pointer (some ⟨Be, 0, none⟩)] W0 fun e W' => (∃ v, e = .returned v) ∧
      ((∃ ys : List (Frm × List UInt8), ys = allL 1 ep s ∧ J ys W') ∨ (∃ pre : List (Frm × List UInt8), True ∧ Jx pre W')) := by
  have HY : Hid _ := hY
  have HJ : Hid _ := hJ
  have H0 : Hid (Turning2 s ep Be n₀ W0 [] s 1 W0 ∧ J [] W0) := ⟨⟨rfl, rfl, Nat.le_refl _, Below.refl _ _, hBe, hlt, hT⟩, h0⟩
  have HN : Hid (0 < n₀ ∧ n₀ ≤ W0.heap.size ∧ ep < 18446744073709551616 ∧ s.length ≤ 100000) := ⟨hn0, hn1, hep, hl⟩
  clear hY hJ h0 hBe hlt hT hn0 hn1 hep hl
  refine callsIn_of_wp Tryd.func27 rfl trivial ?_ rfl
  simp only [Tryd.ntmps27, List.size_toArray, List.length_cons, List.length_nil, Nat.reduceAdd, Nat.reduceSub, Array.replicate_succ, Array.replicate_zero, List.push_toArray, List.append_toArray, List.nil_append, List.cons_append]
  gi_wp2
  gi_loopw [4, 5] (fun s4 s5 wr => ∃ (pre : List (Frm × List UInt8)) (left : List UInt8) (q : Nat), s4 = .string (str left) ∧ s5 = .int .u64 (q : Int) ∧ Hid (Turning2 s ep Be n₀ W0 pre left q wr ∧ J pre wr))
    (fun s4 _ _ => lenOf s4)
  case atStart =>
    exact ⟨[], s, 1, rfl, rfl, H0.out⟩
  case round =>
    clear H0 hBs
    obtain ⟨pre, left, q, rfl, rfl, hrel⟩ := hrel
    have hlen : left.length ≤ 100000 := Nat.le_trans hrel.out.1.short HN.out.2.2.2
    have HL : Hid (left.length ≤ 100000) := hlen
    clear hlen
    gi_wp2_with fail
    refine ⟨trivial, fun h => (by cases h), ?_⟩
    refine (callsIn_wide.2 (first_any left wr hrel.out.1.tab HL.out)).mono ?_
    rintro e w1 ⟨rfl, b1⟩
    have hbe1 : w1.cell? ⟨Be, 0, none⟩ = some (.int .u64 ep) := (b1.cell (p := ⟨Be, 0, none⟩) hrel.out.1.lt).trans hrel.out.1.box
    have hq : (q : Int) ≤ 200000 := by
      have h1 := hrel.out.1.next
      have h2 := congrArg List.length hrel.out.1.sofar
      have h3 := allL_len s.length 1 ep s
      have h4 := HN.out.2.2.2
      rw [List.length_append, allL, allL] at h2
      omega
    cases hf : firstL left with
    | error k =>
      have hk := (first_err left k hf).1
      have hk1 : ¬ k = 0 := hk
      have HE : Hid (pre = allL 1 ep s ∧ J pre (w1.alloc (.cells #[.int .u64 0, .int .u64 0, .string (str [])] 24))) := by
        have h1 := hrel.out.1.sofar
        rw [allL_err hf, List.append_nil] at h1
        have b2 : Below wr.heap.size wr (w1.alloc (.cells #[.int .u64 0, .int .u64 0, .string (str [])] 24)) := b1.alloc b1.size _
        exact ⟨h1, HJ.out pre wr _ none hrel.out.2 ⟨b2.os, b2.tape, b2.output, b2.size, fun k hk _ => b2.block k hk⟩ (fun r e => by cases e)⟩
      simp only [told]
      clear hk hf hrel b1
      gi_wp2_with (refine wpListIn_skip rfl rfl ?_)
      refine bodyPost_ret (results_none rfl _ _ _) rfl ?_
      exact ⟨⟨_, rfl⟩, .inl ⟨pre, HE.out.1, HE.out.2⟩⟩
    | ok fr =>
      obtain ⟨⟨x, y, t⟩, r⟩ := fr
      have b2 : Below wr.heap.size wr (w1.alloc (.cells #[.int .u64 (x : Int), .int .u64 (y : Int), .string (str t)] 24)) := b1.alloc b1.size _
      have hJ2 : J pre (w1.alloc (.cells #[.int .u64 (x : Int), .int .u64 (y : Int), .string (str t)] 24)) :=
        HJ.out pre wr _ none hrel.out.2 ⟨b2.os, b2.tape, b2.output, b2.size, fun k hk _ => b2.block k hk⟩ (fun r e => by cases e)
      have hbe2 : (w1.alloc (.cells #[.int .u64 (x : Int), .int .u64 (y : Int), .string (str t)] 24)).cell? ⟨Be, 0, none⟩ = some (.int .u64 ep) := (b2.cell (p := ⟨Be, 0, none⟩) hrel.out.1.lt).trans hrel.out.1.box
      have hbx := FBox.new w1 (x : Int) (y : Int) (str t)
      have c0 := hbx.c0
      have c1 := hbx.c1
      have c2 := hbx.c2
      simp only [told, Frm.v]
      by_cases hey : ep = y
      · by_cases hqx : q = x
        · subst hey
          subst hqx
          have hall := allL_yes (q := q) (e := ep) hf rfl rfl
          have hpl : pre.length < 100000 := by
            have h2 := congrArg List.length hrel.out.1.sofar
            have h3 := allL_len s.length 1 ep s
            have h4 := HN.out.2.2.2
            rw [hall, List.length_append, List.length_cons, allL, allL] at h2
            omega
          obtain ⟨fn, tmps, assign, body, hy', hR⟩ := HY.out pre (⟨q, ep, t⟩, r) _ hJ2 hpl
          have HB : Hid (allL q ep left = (⟨q, ep, t⟩, r) :: allL (q + 1) ep r ∧ r.length + 24 + t.length = left.length ∧ Below wr.heap.size wr (w1.alloc (.cells #[.int .u64 (q : Int), .int .u64 (ep : Int), .string (str t)] 24))) := ⟨hall, first_less hf, b2⟩
          clear hf hall hJ2 b1 b2 hbx hbe1
          dsimp only [Frm.v] at hy'
          gi_wp2
          refine ⟨fun h => (by cases h), hR.mono ?_⟩
          rintro e w2 (⟨rfl, hJ3, hk3⟩ | ⟨rfl, hJx3⟩)
          · have HK : Hid (Turning2 s ep Be n₀ W0 (pre ++ [(⟨q, ep, t⟩, r)]) r (q + 1) w2 ∧ J (pre ++ [(⟨q, ep, t⟩, r)]) w2 ∧ lenOf (.string (str r)) < lenOf (.string (str left))) := by
              have h1 := hrel.out.1
              have hb := h1.bel.trans (HB.out.2.2.mono (Nat.le_trans HN.out.2.1 h1.bel.size))
              have hh : Turning2 s ep Be n₀ W0 (pre ++ [(⟨q, ep, t⟩, r)]) r (q + 1) w2 := by
                refine ⟨?_, ?_, ?_, hb.trans hk3.1, (cell_block_same hk3.2).trans hbe2, Nat.lt_of_lt_of_le (Nat.lt_of_lt_of_le h1.lt HB.out.2.2.size) hk3.1.size, (h1.tab.below HB.out.2.2 h1.tab.pos).below hk3.1 HN.out.1⟩
                · have := h1.sofar
                  rw [HB.out.1] at this
                  rw [← this]
                  simp
                · rw [List.length_append, h1.next]; rfl
                · have := HB.out.2.1
                  have := h1.short
                  omega
              refine ⟨hh, hJ3, ?_⟩
              have := HB.out.2.1
              simp only [lenOf, str_size]
              omega
            clear hk3 hJ3
            gi_wp2
            go_roundw
            case rel => exact ⟨pre ++ [(⟨q, ep, t⟩, r)], r, q + 1, rfl, by go_num, ⟨HK.out.1, HK.out.2.1⟩⟩
            case measure => exact HK.out.2.2
          · gi_wp2
            refine bodyPost_ret (results_none rfl _ _ _) rfl ?_
            exact ⟨⟨_, rfl⟩, .inr ⟨pre ++ [(⟨q, ep, t⟩, r)], trivial, hJx3⟩⟩
        · subst hey
          have e2 : ¬ (x : Int) = (q : Int) := by omega
          have e3 : ((x : Int) != (q : Int)) = true := by rw [bne_iff_ne]; exact e2
          have HE : Hid (pre = allL 1 ep s ∧ J pre (w1.alloc (.cells #[.int .u64 (x : Int), .int .u64 (ep : Int), .string (str t)] 24))) := by
            have h1 := hrel.out.1.sofar
            rw [allL_no hf (fun h => hqx h.2.symm), List.append_nil] at h1
            exact ⟨h1, hJ2⟩
          clear hf hrel hJ2 b1 b2 hbx hqx hbe1
          gi_wp2_with (refine wpListIn_skip rfl rfl ?_)
          refine bodyPost_ret (results_none rfl _ _ _) rfl ?_
          exact ⟨⟨_, rfl⟩, .inl ⟨pre, HE.out.1, HE.out.2⟩⟩
      · have e1 : ¬ (y : Int) = (ep : Int) := by omega
        have HE : Hid (pre = allL 1 ep s ∧ J pre (w1.alloc (.cells #[.int .u64 (x : Int), .int .u64 (y : Int), .string (str t)] 24))) := by
          have h1 := hrel.out.1.sofar
          rw [allL_no hf (fun h => hey h.1.symm), List.append_nil] at h1
          exact ⟨h1, hJ2⟩
        clear hf hrel hJ2 b1 b2 hbx hey hbe1
        gi_wp2_with (refine wpListIn_skip rfl rfl ?_)
        refine bodyPost_ret (results_none rfl _ _ _) rfl ?_
        exact ⟨⟨_, rfl⟩, .inl ⟨pre, HE.out.1, HE.out.2⟩⟩

/-- The iterator's contract. -/
theorem turn_stops (n Bs Be n₀ : Nat) (s : List UInt8) (ep : Nat) (hep : ep < 18446744073709551616) (hl : s.length ≤ 100000) (w : World) (hBs : Bs < w.heap.size) (hBe : Be < w.heap.size)
    (hcs : w.cell? ⟨Bs, 0, none⟩ = some (.string (str s))) (hce : w.cell? ⟨Be, 0, none⟩ = some (.int .u64 ep)) (hT : Tab w) (hn0 : 0 < n₀) (hn1 : n₀ ≤ w.heap.size) :
    SeqStopsK Fence.wide n Tryd.prog 27 #[.pointer (some ⟨Bs, 0, none⟩), .pointer (some ⟨Be, 0, none⟩)] (fun x : Frm × List UInt8 => #[x.1.v, Value.string (str x.2)]) (KeepsB n₀ Be) (fun ys => ys = allL 1 ep s) (fun _ => True) 100000 w := fun l J Jx W hW hJ _ hY h0 =>
  turn1_in n l Bs Be n₀ s ep hep hl J Jx W hJ hY ((hW.cell (p := ⟨Bs, 0, none⟩) hBs).trans hcs) ((hW.cell (p := ⟨Be, 0, none⟩) hBe).trans hce) (Nat.lt_of_lt_of_le hBe hW.size) (hT.below hW hT.pos) hn0 (Nat.le_trans hn1 hW.size) h0
end Go.Proofs.YtfpiepephljmgaaDoor
