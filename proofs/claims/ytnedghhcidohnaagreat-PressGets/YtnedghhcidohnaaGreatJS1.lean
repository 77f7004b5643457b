/-
  Joined: OctJ · OctK · OctN · OctAA.
-/
import Derived.Test.YtnedghhcidohnaaGreatOctI
import Derived.RangeFuncNested
import Derived.RangeFuncBound
import Derived.RangeFuncCalls
import Derived.RangeFuncLeaves
import Derived.RangeFuncBox
import Derived.Shelf.Abstract
import Derived.WalkKit
import Derived.OwnWalkIn
import Derived.TacticsInMore
import Derived.LoopNIn
import Derived.LoopIn
import Derived.Maps.AppendAt
import Derived.Test.YtnedghhcidohnaaGreatJL1

/-! The iterator of slices.Backward. -/
namespace Go.Proofs.YtnedghhcidohnaaGreat
open Go.RowKit Go.Shelf

attribute [local go_sem] Oper.semAt_some

theorem cell_block_same {W W' : World} {b : Nat} (h : W'.heap[b]? = W.heap[b]?) : W'.cell? ⟨b, 0, none⟩ = W.cell? ⟨b, 0, none⟩ := World.cell?_of_block (a := ⟨b, 0, none⟩) h

/-- slices.Backward hands back its iterator. -/
theorem back_any (ao : Option Addr) (n cap : Nat) (w : World) :
    Calls Tryz.prog 102 #[.slice ao n cap] w fun e w' => e = .returned (.func (.func 126) #[] #[.pointer (some ⟨w.heap.size, 0, none⟩)]) ∧ w' = w.alloc (.cells #[.slice ao n cap] 43) := by
  go_enter Tryz.func102, Tryz.ntmps102
  go_wp2
  go_ret
  exact ⟨rfl, rfl⟩

/-- What the body keeps for the iterator: what lay below n₀, and the block Bs. -/
def KeepsB (n₀ Bs : Nat) (W W' : World) : Prop := Below n₀ W W' ∧ W'.heap[Bs]? = W.heap[Bs]?

theorem KeepsB.trans {n₀ Bs : Nat} {A B C : World} (h : KeepsB n₀ Bs A B) (k : KeepsB n₀ Bs B C) : KeepsB n₀ Bs A C := ⟨h.1.trans k.1, k.2.trans h.2⟩
theorem keepsB_b {n₀ Bs : Nat} {w : World} (hn : n₀ ≤ w.heap.size) (hB : Bs < w.heap.size) (W : World) (l : Nat) (o o' : Obj) (hl : w.heap.size ≤ l) (h : W.heap[l]? = some o) (hc : o.isCells = false) (hw : o.isWalk = false) : KeepsB n₀ Bs W (W.putObj l o') :=
  ⟨belowK_b hn W l o o' hl h hc hw, World.putObj_heap_other (by omega)⟩

/-- A limb. -/
abbrev Lmb := { x : Int // 0 ≤ x ∧ x < BB }
/-- A place, and the limb there. -/
abbrev Placed := Int × Lmb

set_option maxRecDepth 100000 in
set_option maxHeartbeats 2000000 in
theorem back1_in (n : Nat) (l Bs n₀ : Nat) (ao : Option Addr) (nl cl : Nat) (ls : List Int) (J Jx : List (Placed) → World → Prop) (hd : Limbs ls) (hlen : ls.length ≤ 1000000)
    (hY : ∀ pre x W, J pre W → pre.length < ls.length → YieldAt Fence.wide (n - 1) Tryz.prog l #[.int .i64 x.1, .int .u64 x.2.1] W fun e W' =>
      (e = .returned (.bool true) ∧ J (pre ++ [x]) W' ∧ KeepsB n₀ Bs W W') ∨ (e = .returned (.bool false) ∧ Jx (pre ++ [x]) W'))
    (W0 : World) (hBs : W0.cell? ⟨Bs, 0, none⟩ = some (.slice ao nl cl)) (hr : RowAt W0 ao nl cl ls) (hbel : ∀ p, ao = some p → ls ≠ [] → p.block < n₀) (h0 : J [] W0) :
    CallsIn Fence.wide n Tryz.prog 126 #[.func (.yield l) #[] #[], .pointer (some ⟨Bs, 0, none⟩)] W0 fun e W' => (∃ v, e = .returned v) ∧
      ((∃ ys : List (Placed), ys.map (fun x => x.2.1) = ls.reverse ∧ J ys W') ∨ (∃ pre : List (Placed), pre.map (fun x => x.2.1) <+: ls.reverse ∧ Jx pre W')) := by
  have HY : Hid _ := hY
  have HR : Hid (RowAt W0 ao nl cl ls ∧ Limbs ls ∧ (∀ p, ao = some p → ls ≠ [] → p.block < n₀)) := ⟨hr, hd, hbel⟩
  have H0 : Hid (J [] W0) := h0
  have hl := hr.len
  have hnl : nl ≤ 1000000 := by omega
  have HL : Hid (ls.length = nl) := hl
  clear hY hr hd hbel h0 hl hlen
  refine callsIn_of_wp Tryz.func126 rfl trivial ?_ rfl
  simp only [Tryz.ntmps126, List.size_toArray, List.length_cons, List.length_nil, Nat.reduceAdd, Nat.reduceSub, Array.replicate_succ, Array.replicate_zero, List.push_toArray, List.append_toArray, List.nil_append, List.cons_append]
  gi_wp2
  gi_loopw [3] (fun s wr => ∃ (pre : List (Placed)) (i : Int), s = .int .i64 i ∧ i + (pre.length : Int) = (nl : Int) - 1 ∧ -1 ≤ i ∧ Hid (pre.map (fun x => x.2.1) = (ls.drop (i + 1).toNat).reverse ∧ Below n₀ W0 wr ∧ wr.cell? ⟨Bs, 0, none⟩ = some (.slice ao nl cl) ∧ J pre wr))
    (fun s _ => (intOf s + 1).toNat)
  case atStart =>
    refine ⟨[], (nl : Int) - 1, rfl, by simp, by omega, ⟨?_, Below.refl _ _, hBs, H0.out⟩⟩
    rw [List.drop_of_length_le (by have := HL.out; omega)]
    rfl
  case round =>
    obtain ⟨pre, i, rfl, hi, hi1, hrel⟩ := hrel
    by_cases h : i = -1
    · subst h
      have he : pre.map (fun x => x.2.1) = ls.reverse := by
        have := hrel.out.1
        simpa using this
      have HE : Hid (pre.map (fun x => x.2.1) = ls.reverse) := he
      clear he
      gi_wp2
      go_end0
      exact ⟨⟨_, rfl⟩, .inl ⟨pre, HE.out, hrel.out.2.2.2⟩⟩
    · obtain ⟨k, rfl⟩ : ∃ k : Nat, i = k := ⟨i.toNat, by omega⟩
      have hkl : k < nl := by omega
      have hkl' : (k : Int) < (nl : Int) := by omega
      have hne : ls ≠ [] := by intro e; have := HL.out; rw [e] at this; simp at this; omega
      obtain ⟨g, off, rfl, hlt, hc⟩ := HR.out.1.cells hne
      have hgb : g < n₀ := HR.out.2.2 _ rfl hne
      have hck : wr.cell? ⟨g, off + k, none⟩ = some (.int .u64 (ls.getD k 0)) := (hrel.out.2.1.cell (p := ⟨g, off + k, none⟩) hgb).trans (hc k (by have := HL.out; omega))
      have hcs := hrel.out.2.2.1
      obtain ⟨x, hx⟩ : ∃ x, x = ls.getD k 0 := ⟨_, rfl⟩
      rw [← hx] at hck
      have hxm : x ∈ ls := by
        rw [hx, List.getD_eq_getElem?_getD, List.getElem?_eq_getElem (by have := HL.out; omega)]
        exact List.getElem_mem _
      have hxd := HR.out.2.1 x hxm
      have hdrop : ((pre ++ [(((k : Int), ⟨x, hxd⟩) : Placed)]).map fun x => x.2.1) = (ls.drop k).reverse := by
        have h1 := hrel.out.1
        rw [show ((k : Int) + 1).toNat = k + 1 by omega] at h1
        have hkk : k < ls.length := by have h9 := HL.out; rw [h9]; exact hkl
        have e2 : ls.drop k = ls[k] :: ls.drop (k + 1) := List.drop_eq_getElem_cons hkk
        rw [List.map_append, h1, e2, List.reverse_cons]
        simp [hx, hkk]
      obtain ⟨fn, tmps, assign, body, hy, hR⟩ := HY.out pre ((k : Int), ⟨x, hxd⟩) wr hrel.out.2.2.2 (by have := HL.out; omega)
      have HD : Hid _ := hdrop
      clear hdrop hc hx hxm
      dsimp only at hy
      gi_wp2
      refine ⟨fun h => (by cases h), hR.mono ?_⟩
      rintro e w2 (⟨rfl, hJ2, hk2⟩ | ⟨rfl, hJx2⟩)
      · have HK : Hid (Below n₀ W0 w2 ∧ w2.cell? ⟨Bs, 0, none⟩ = some (.slice (some ⟨g, off, none⟩) nl cl) ∧ J (pre ++ [((k : Int), ⟨x, hxd⟩)]) w2) := ⟨hrel.out.2.1.trans hk2.1, (cell_block_same hk2.2).trans hrel.out.2.2.1, hJ2⟩
        clear hk2 hJ2
        gi_wp2
        go_roundw
        case rel =>
          refine ⟨pre ++ [((k : Int), ⟨x, hxd⟩)], (k : Int) - 1, rfl, by simp; omega, by omega, ⟨?_, HK.out.1, HK.out.2.1, HK.out.2.2⟩⟩
          rw [show ((k : Int) - 1 + 1).toNat = k by omega]
          exact HD.out
        case measure => simp [intOf]
      · gi_wp2
        refine bodyPost_ret (results_none rfl _ _ _) rfl ?_
        exact ⟨⟨_, rfl⟩, .inr ⟨pre ++ [((k : Int), ⟨x, hxd⟩)], by rw [HD.out]; exact ⟨(ls.take k).reverse, by rw [← List.reverse_append, List.take_append_drop]⟩, hJx2⟩⟩

theorem back_stops (n : Nat) (Bs n₀ : Nat) (ao : Option Addr) (nl cl : Nat) (ls : List Int) (hd : Limbs ls) (hlen : ls.length ≤ 1000000) (w : World) (hBs : Bs < w.heap.size) (hc : w.cell? ⟨Bs, 0, none⟩ = some (.slice ao nl cl)) (hr : RowAt w ao nl cl ls) (hbel : ∀ p, ao = some p → ls ≠ [] → p.block < n₀) :
    SeqStopsK Fence.wide n Tryz.prog 126 #[.pointer (some ⟨Bs, 0, none⟩)] (fun x : Placed => #[Value.int .i64 x.1, .int .u64 x.2.1]) (KeepsB n₀ Bs) (fun ys => ys.map (fun x => x.2.1) = ls.reverse) (fun pre => pre.map (fun x => x.2.1) <+: ls.reverse) ls.length w := fun l J Jx W hW _ _ hY h0 =>
  back1_in n l Bs n₀ ao nl cl ls J Jx hd hlen hY W ((hW.cell (p := ⟨Bs, 0, none⟩) hBs).trans hc) (hr.below hW) hbel h0

end Go.Proofs.YtnedghhcidohnaaGreat

/-! octet.PutNat. -/
namespace Go.Proofs.YtnedghhcidohnaaGreat
open Go.RowKit Go.Shelf

attribute [local go_sem] Oper.semAt_some

/-- Limbs as bytes, one behind the other. -/
def limbB (l : List Int) : List UInt8 := (l.map fun x => lowB x.toNat 8).flatten
/-- A natural as bytes. -/
def putN (xs : List Int) : List UInt8 := putL xs.length ++ limbB xs.reverse

theorem limbB_snoc (l : List Int) (x : Int) : limbB (l ++ [x]) = limbB l ++ lowB x.toNat 8 := by simp [limbB]
theorem limbB_length (l : List Int) : (limbB l).length = 8 * l.length := by
  induction l with
  | nil => rfl
  | cons x l ih =>
    have : limbB (x :: l) = lowB x.toNat 8 ++ limbB l := by simp [limbB]
    rw [this, List.length_append, lowB_length, ih, List.length_cons]
    omega

theorem bx_other {W : World} {B C : Nat} {t : TypeId} {v u : Value} (h : Boxed W B t v) (hBC : B ≠ C) : Boxed (W.setCell ⟨C, 0, none⟩ u) B t v := (Below.heap_setCell W ⟨C, 0, none⟩ u B hBC).trans h
theorem ob_other {W : World} {base g n cap C : Nat} {xs : List UInt8} {u : Value} (h : OwnB W base g n cap xs) (hBC : g ≠ C) : OwnB (W.setCell ⟨C, 0, none⟩ u) base g n cap xs := h.block (Below.heap_setCell W ⟨C, 0, none⟩ u g hBC)

/-- What lies there while limbs are put. -/
structure PN (w : World) (B : Nat) (S : List UInt8) (pre : List Placed) (W : World) : Prop where
  row : ∃ g N c, Boxed W (B + 1) 58 (.slice (some ⟨g, 0, none⟩) N c) ∧ OwnB W w.heap.size g N c (S ++ limbB (pre.map fun x => x.2.1)) ∧ (g = B ∨ B + 3 ≤ g)
  bel : Below w.heap.size w W
  room : B + 3 ≤ W.heap.size

theorem pn_own (w : World) (B : Nat) (S : List UInt8) (H : Nat) (hH : w.heap.size ≤ H) : OwnFrom H (PN w B S) := by
  intro pre X Y row h hg hr
  obtain ⟨g, N, c, h1, h2, h3⟩ := h.row
  have hne : ∀ k o, X.heap[k]? = some o → o.isCells = true → some k ≠ row := fun k o hk ho e => by
    obtain ⟨_, o', ho', hc'⟩ := hr k e.symm
    rw [hk] at ho'
    cases ho'
    rw [ho] at hc'
    cases hc'
  refine ⟨⟨g, N, c, h1.kept hg (hne _ _ h1 rfl), ?_, h3⟩, h.bel.grown hg h.bel.size (fun k e => Nat.le_trans hH (hr k e).1), Nat.le_trans h.room hg.size⟩
  obtain ⟨a1, a2, a3, a4, cur, fz, hgg, a5⟩ := h2
  exact OwnB.block ⟨a1, a2, a3, a4, cur, fz, hgg, a5⟩ (hg.block g (Array.getElem?_eq_some_iff.1 hgg).1 (hne g _ hgg rfl))

theorem own_bytes (w : World) (s : List UInt8) (hs : s.length ≤ 1000000) (base : Nat) (hb : base ≤ w.heap.size) : OwnB (Lib.bytesWorld w 5 (str s)) base w.heap.size s.length (grownCap w s.length 0 5) s := by
  have hge := grownCap_ge w s.length 0 5
  have hcm : grownCap w s.length 0 5 ≤ maxLen := grownCap_le_maxLen w s.length 0 5 (by unfold maxLen; omega)
  have hsz : (Lib.bytesCells w 5 (str s)).size = grownCap w s.length 0 5 := by
    unfold Lib.bytesCells
    rw [str_size]
    simp [str]
    omega
  refine ⟨rfl, hb, hge, hcm, _, _, Lib.bytesWorld_at_new w 5 (str s), hsz, .inr (by rw [hsz]; exact Nat.le_refl _), ?_⟩
  unfold Lib.bytesCells
  simp only [Array.toList_append, str]
  rw [List.take_append_of_le_length (by simp)]
  simp
  rw [List.take_of_length_le (by simp)]
  rfl

set_option maxHeartbeats 1000000 in
theorem putNat_bad (ao : Option Addr) (n cap : Nat) (xs : List Int) (w : World) (h : RowAt w ao n cap xs) (hm : ¬ May xs) :
    Calls Tryz.prog 81 #[.slice ao n cap] w fun e w' => e = .returned (.tuple #[.string (str []), .int .i64 1]) ∧ Below w.heap.size w w' := by
  have H : Hid (RowAt w ao n cap xs ∧ ¬ May xs) := ⟨h, hm⟩
  clear h hm
  go_enter Tryz.func81, Tryz.ntmps81
  go_wp2_with fail
  refine (may_val _ _ _ _ _ H.out.1 false ⟨(fun e => by cases e), fun e => absurd e H.out.2⟩).mono ?_
  rintro e w1 ⟨rfl, rfl⟩
  go_wp2_with fail
  go_ret2
  exact ⟨rfl, Below.refl _ _⟩

set_option maxRecDepth 100000 in
set_option maxHeartbeats 4000000 in
theorem putNat_in (ao : Option Addr) (n cap : Nat) (xs : List Int) (w : World) (h : RowAt w ao n cap xs) (hm : May xs) :
    CallsIn Fence.wide 4 Tryz.prog 81 #[.slice ao n cap] w fun e w' => e = .returned (.tuple #[.string (str (putN xs)), .int .i64 0]) ∧ Below w.heap.size w w' := by
  have hlen := h.len
  have h8 : n ≤ 8 := by have := hm.1; omega
  have h8' : (n : Int) ≤ 8 := by omega
  have HA : Hid (RowAt w ao n cap xs ∧ May xs ∧ xs.length = n) := ⟨h, hm, hlen⟩
  obtain ⟨S, hS⟩ : ∃ S, S = putL n := ⟨_, rfl⟩
  have HS : Hid (S = putL n) := hS
  clear h hm hlen hS
  refine callsIn_of_wp_marks Tryz.func81 rfl trivial ?_ rfl
  simp only [Tryz.ntmps81, List.size_toArray, List.length_cons, List.length_nil, Nat.reduceAdd, Nat.reduceSub, Array.replicate_succ, Array.replicate_zero, List.push_toArray, List.append_toArray, List.nil_append, List.cons_append]
  gi_wp2_with fail
  refine ⟨trivial, ?_⟩
  refine (callsIn_wide.2 (may_val _ _ _ _ _ HA.out.1 true ⟨fun _ => HA.out.2.1, fun _ => rfl⟩)).mono ?_
  rintro e w0 ⟨rfl, rfl⟩
  gi_wp2_with fail
  refine ⟨trivial, ?_⟩
  refine (callsIn_wide.2 (put_s (n : Int) _ (by omega) (by unfold BB; omega))).mono ?_
  rw [Int.toNat_natCast, ← HS.out]
  rintro e w1 ⟨rfl, b1⟩
  have hS9 : S.length ≤ 9 := by
    rw [HS.out, putL_length]
    have := cntB_le n (by omega)
    omega
  have hcv := Lib.run_convert_string_bytes (P := Tryz.prog) w1 9 58 5 (str S) (u := .string) (by kernel_rfl) (by kernel_rfl) (by kernel_rfl)
  have hown := own_bytes w1 S (by omega) w.heap.size b1.size
  have hbel := below_bytes w1 5 (str S)
  have hsz := Lib.bytesWorld_size w1 5 (str S)
  rw [str_size] at hcv
  generalize Lib.bytesWorld w1 5 (str S) = W1 at hcv hown hbel hsz
  generalize grownCap w1 S.length 0 5 = cp at hcv hown
  have HW : Hid (OwnB W1 w.heap.size w1.heap.size S.length cp S ∧ Below w.heap.size w W1 ∧ w.heap.size ≤ w1.heap.size) := ⟨hown, chain b1 hbel, b1.size⟩
  clear hown hbel b1
  gi_wp2_with fail
  refine ⟨trivial, ?_⟩
  refine (callsIn_wide.2 (back_any _ _ _ _)).mono ?_
  rintro e w2 ⟨rfl, rfl⟩
  gi_wp2_with fail
  obtain ⟨B, hB⟩ : ∃ B, B = w1.heap.size := ⟨_, rfl⟩
  obtain ⟨W0, hW0⟩ : ∃ W0, (W1.alloc (Obj.cells #[Value.slice (some ⟨w1.heap.size, 0, none⟩) S.length cp] 58)).alloc (Obj.cells #[Value.slice ao n cap] 43) = W0 := ⟨_, rfl⟩
  have hF0 : W0.heap.size = w1.heap.size + 3 ∧ Boxed W0 (w1.heap.size + 1) 58 (.slice (some ⟨w1.heap.size, 0, none⟩) S.length cp) ∧ Boxed W0 (w1.heap.size + 2) 43 (.slice ao n cap) ∧ OwnB W0 w.heap.size w1.heap.size S.length cp S ∧ Below w.heap.size w W0 := by
    have a1 := (Boxed.new W1 58 (.slice (some ⟨w1.heap.size, 0, none⟩) S.length cp)).alloc (Obj.cells #[Value.slice ao n cap] 43)
    have a2 := Boxed.new (W1.alloc (Obj.cells #[Value.slice (some ⟨w1.heap.size, 0, none⟩) S.length cp] 58)) 43 (.slice ao n cap)
    rw [World.size_alloc, hsz] at a2
    rw [hsz] at a1
    rw [hW0] at a1 a2
    refine ⟨by rw [← hW0]; simp [hsz], a1, a2, by rw [← hW0]; exact (HW.out.1.alloc _).alloc _, ?_⟩
    rw [← hW0]
    exact (HW.out.2.1.alloc HW.out.2.1.size _).alloc (by simp; have := HW.out.2.1.size; omega) _
  rw [hW0]
  clear hW0 hcv hsz
  rw [← hB] at hF0 ⊢
  have hwB : w.heap.size ≤ B := by rw [hB]; exact HW.out.2.2
  clear hB HW
  obtain ⟨f0, f1, f2, f3, f4⟩ := hF0
  have hbel : ∀ p, ao = some p → xs ≠ [] → p.block < w.heap.size := fun p hp hne => by
    obtain ⟨b', off', e', hlt, _⟩ := HA.out.1.cells hne
    rw [hp] at e'
    cases e'
    exact hlt
  have hStops := back_stops 3 (B + 2) w.heap.size ao n cap xs HA.out.1.limbs (by have := HA.out.2.2; omega) W0 (by omega) f2.cell (HA.out.1.below f4) hbel
  have HSt : Hid _ := hStops
  have HF : Hid (Boxed W0 (B + 1) 58 (.slice (some ⟨B, 0, none⟩) S.length cp) ∧ OwnB W0 w.heap.size B S.length cp S ∧ Below w.heap.size w W0) := ⟨f1, f3, f4⟩
  clear hStops f1 f2 f3 f4 hbel
  refine wpIn_rangeFunc_ownG rfl (by omega) (gf := 126) (lb := #[.pointer (some ⟨B + 1 + 1, 0, none⟩)]) rfl trivial (enters_of Tryz.func126 (by kernel_rfl) rfl)
    HSt.out (fun h k => h.trans k) (keepsB_b (by omega) (by omega)) (Below.refl _ _) (fun _ => rfl)
    (PN w B S) (fun _ _ _ => False) (pn_own w B S _ (by omega)) (fun _ _ _ _ _ hs _ _ => hs)
    ⟨⟨B, S.length, cp, HF.out.1, by simpa [limbB] using HF.out.2.1, .inl rfl⟩, HF.out.2.2, by omega⟩
    (fun x => { tmps := #[.slice ao n cap, undef, .string { data := #[] }, .int .i64 0, .pointer (some ⟨B + 1, 0, none⟩), undef, .int .u64 x.2.1, .slice ao n cap, .bool true, .bool false, .slice ao n cap, .int .i64 n, .int .u64 n, .string (str S), .slice (some ⟨B, 0, none⟩) S.length cp, .slice ao n cap, .func (.func 126) #[] #[.pointer (some ⟨B + 1 + 1, 0, none⟩)], .int .i64 x.1, .int .u64 x.2.1, undef, undef, undef, undef, undef], defers := [] }) ?assign ?body ?done ?stop
  case assign =>
    intro l x W K hK
    gi_wp2
    exact hK
  case body =>
    rintro r pre x W hI hlt
    obtain ⟨g, N, c, i1, i2, i3⟩ := hI.row
    have hN : N = S.length + 8 * pre.length := by
      have := i2.1
      rw [List.length_append, limbB_length, List.length_map] at this
      exact this.symm
    have c1 : W.cell? ⟨B + 1, 0, none⟩ = some (.slice (some ⟨g, 0, none⟩) N c) := i1.cell
    have HI : Hid (PN w B S pre W ∧ Boxed W (B + 1) 58 (.slice (some ⟨g, 0, none⟩) N c) ∧ OwnB W w.heap.size g N c (S ++ limbB (pre.map fun x => x.2.1)) ∧ (g = B ∨ B + 3 ≤ g) ∧ N ≤ 1000) := ⟨hI, i1, i2, i3, by have := HA.out.2.2; omega⟩
    obtain ⟨d, hd⟩ : ∃ d, d = x.2.1 := ⟨_, rfl⟩
    have HD : Hid (d = x.2.1 ∧ 0 ≤ d ∧ d < BB) := ⟨hd, by rw [hd]; exact x.2.2.1, by rw [hd]; exact x.2.2.2⟩
    rw [← hd]
    clear hI i1 i2 i3 hN hd HSt HF
    gi_wp2_with fail
    refine ⟨trivial, ?_⟩
    refine (CallsIn.inRound r (callsIn_wide.2 (low_any w.heap.size g N c _ d 8 W HD.out.2.1 HD.out.2.2 (Nat.le_refl _) HI.out.2.2.2.2 HI.out.2.2.1 HI.out.1.bel.size))).mono ?_
    rintro e w1' ⟨g', c', rfl, hown, hgr, hkin⟩
    have hroom := HI.out.1.room
    have hgB : g ≠ B + 1 ∧ g ≠ B + 2 := by rcases HI.out.2.2.2.1 with e | e <;> omega
    have hg1 : g' = B ∨ B + 3 ≤ g' := by
      rcases hkin with e | e
      · rw [e]; exact HI.out.2.2.2.1
      · right; omega
    have hgB' : g' ≠ B + 1 := by rcases hg1 with e | e <;> omega
    have bT : Boxed w1' (B + 1) 58 (.slice (some ⟨g, 0, none⟩) N c) := HI.out.2.1.kept hgr (by intro e; cases e; exact hgB.1 rfl)
    have cT := bT.cell
    have fT := bT.frozen
    have hlow := HI.out.2.2.1.lt.1
    have hk : KeepsOthers W w1' := KeepsOthers.of_grownBy hgr (fun j o ej hj => by
      cases ej
      obtain ⟨_, _, _, _, cur, fz, hgg, _⟩ := HI.out.2.2.1
      rw [hgg] at hj
      cases hj
      rfl)
    have hb1 : Below w.heap.size W w1' := (Below.refl _ _).grown hgr HI.out.1.bel.size (fun j hj => by cases hj; exact hlow)
    have hpn : PN w B S (pre ++ [x]) (w1'.setCell ⟨B + 1, 0, none⟩ (.slice (some ⟨g', 0, none⟩) (N + 8) c')) := by
      refine ⟨⟨g', N + 8, c', bT.set _, ?_, hg1⟩, (HI.out.1.bel.trans hb1).setCell (by show w.heap.size ≤ B + 1; omega) _, Nat.le_trans hroom (Nat.le_trans hgr.size (KeepsWalks.setCell w1' _ _).size)⟩
      refine ob_other ?_ hgB'
      rw [List.map_append, List.map_cons, List.map_nil, limbB_snoc, ← List.append_assoc, ← HD.out.1]
      exact hown
    have hkb : KeepsB w.heap.size (B + 2) W (w1'.setCell ⟨B + 1, 0, none⟩ (.slice (some ⟨g', 0, none⟩) (N + 8) c')) :=
      ⟨hb1.setCell (by show w.heap.size ≤ B + 1; omega) _, (Below.heap_setCell w1' ⟨B + 1, 0, none⟩ _ (B + 2) (by show B + 2 ≠ B + 1; omega)).trans (hgr.block _ (by omega) (by intro e; cases e; exact hgB.2 rfl))⟩
    have HR : Hid (KeepsFrom W0.heap.size W (w1'.setCell ⟨B + 1, 0, none⟩ (.slice (some ⟨g', 0, none⟩) (N + 8) c')) ∧ KeepsB w.heap.size (B + 2) W (w1'.setCell ⟨B + 1, 0, none⟩ (.slice (some ⟨g', 0, none⟩) (N + 8) c')) ∧ PN w B S (pre ++ [x]) (w1'.setCell ⟨B + 1, 0, none⟩ (.slice (some ⟨g', 0, none⟩) (N + 8) c'))) := ⟨(hk.trans (KeepsOthers.setCell _ _ _)).from _, hkb, hpn⟩
    clear hroom hgB hg1 hgB' bT hlow hk hb1 hpn hkb hown hgr hkin HD HI c1
    gi_wp2
    exact HR.out
  case done =>
    rintro D ys W hD hSs hI hK
    obtain ⟨g, N, c, i1, i2, i3⟩ := hI.row
    rw [hSs] at i2
    have hcv := i2.string (P := Tryz.prog) 58 9 (by kernel_rfl) (by kernel_rfl) (by kernel_rfl)
    have c1 := i1.cell
    have HV : Hid (W.heap[D]? = some (.deferred (some [])) ∧ Below w.heap.size w W ∧ w.heap.size ≤ D ∧ S ++ limbB xs.reverse = putN xs) := ⟨hK, hI.bel, by omega, by rw [HS.out, ← HA.out.2.2]; rfl⟩
    clear hI i1 i2 i3 hK hSs HF HSt
    gi_wp2
    refine ⟨by simp, .inl ⟨_, _, rfl, run_takeDeferred HV.out.1, ?_⟩⟩
    exact ⟨_, results_tmp2 rfl _ _ _, by rw [← HV.out.2.2.2]; rfl, HV.out.2.1.trans (belowK_b (w := w) (Nat.le_refl _) W D _ _ HV.out.2.2.1 HV.out.1 rfl rfl)⟩
  case stop =>
    rintro D c pre W _ _ h _
    exact h.elim

theorem putNat_ok (ao : Option Addr) (n cap : Nat) (xs : List Int) (w : World) (h : RowAt w ao n cap xs) (hm : May xs) :
    Calls Tryz.prog 81 #[.slice ao n cap] w fun e w' => e = .returned (.tuple #[.string (str (putN xs)), .int .i64 0]) ∧ Below w.heap.size w w' := callsIn_wide.1 (putNat_in ao n cap xs w h hm)
end Go.Proofs.YtnedghhcidohnaaGreat

/-! What was put is got; beginnings of what was put are too short. -/
namespace Go.Proofs.YtnedghhcidohnaaGreat
open Go.RowKit

theorem low_first (n : Nat) (h : 0 < cntB n) : (lowB n (cntB n)).getD 0 0 ≠ 0 := by
  obtain ⟨k, hk⟩ : ∃ k, cntB n = k + 1 := ⟨cntB n - 1, by omega⟩
  have hlt := cntB_lt n
  have hge : 256 ^ k ≤ n := by
    rcases Nat.lt_or_ge n (256 ^ k) with h1 | h1
    · have := cntB_min n k h1
      omega
    · exact h1
  rw [hk] at hlt ⊢
  rw [lowB, List.getD_cons_zero]
  have h1 : n / 256 ^ k < 256 := by
    rw [Nat.div_lt_iff_lt_mul (Nat.pow_pos (by decide)), Nat.mul_comm, ← Nat.pow_succ]
    exact hlt
  have h2 : 0 < n / 256 ^ k := Nat.div_pos hge (Nat.pow_pos (by decide))
  intro e
  have := congrArg UInt8.toNat e
  simp at this
  omega

theorem numL_put (n : Nat) (h : n < 2 ^ 64) (r : List UInt8) : numL (putL n ++ r) = .ok (n, r) := by
  have h8 := cntB_le n h
  have e : (UInt8.ofNat (cntB n)).toNat = cntB n := byte_toNat h8
  have hl : (lowB n (cntB n)).length = cntB n := lowB_length _ _
  show numL (UInt8.ofNat (cntB n) :: (lowB n (cntB n) ++ r)) = _
  simp only [numL, e]
  rw [if_neg (by omega), if_neg (by rw [List.length_append, hl]; omega), if_neg, List.take_left' hl, List.drop_left' hl, join_put]
  rintro ⟨h1, h2⟩
  apply low_first n h1
  rw [List.getD_eq_getElem?_getD, List.getElem?_append_left (by omega)] at h2
  rw [List.getD_eq_getElem?_getD]
  exact h2

theorem numL_cut (n : Nat) (h : n < 2 ^ 64) (k : Nat) (hk : k < (putL n).length) : numL ((putL n).take k) = .error 60 := by
  have h8 := cntB_le n h
  have e : (UInt8.ofNat (cntB n)).toNat = cntB n := byte_toNat h8
  have hl : (lowB n (cntB n)).length = cntB n := lowB_length _ _
  rw [putL_length] at hk
  cases k with
  | zero => rfl
  | succ k =>
    show numL (UInt8.ofNat (cntB n) :: (lowB n (cntB n)).take k) = _
    simp only [numL, e]
    rw [if_neg (by omega), if_pos (by rw [List.length_take, hl]; omega)]

theorem take_split (a b : List UInt8) (k : Nat) : (a ++ b).take k = if k < a.length then a.take k else a ++ b.take (k - a.length) := by
  split
  · rename_i h
    rw [List.take_append_of_le_length (by omega)]
  · rename_i h
    rw [List.take_append, List.take_of_length_le (by omega)]

theorem textL_cut (s : List UInt8) (hs : s.length ≤ 800000) (k : Nat) (hk : k < (putT s).length) : textL ((putT s).take k) = .error 60 := by
  have h64 : s.length < 2 ^ 64 := by omega
  unfold putT at hk ⊢
  rw [List.length_append] at hk
  rw [take_split]
  unfold textL
  by_cases h : k < (putL s.length).length
  · rw [if_pos h, numL_cut s.length h64 k h]
  · rw [if_neg h, numL_put s.length h64]
    simp only
    rw [if_pos (by rw [List.length_take]; omega)]

theorem natL_cut (xs : List Int) (hx : xs.length ≤ 8) (k : Nat) (hk : k < (putN xs).length) : natL ((putN xs).take k) = .error 60 := by
  have h64 : xs.length < 2 ^ 64 := by omega
  unfold putN at hk ⊢
  rw [List.length_append, limbB_length, List.length_reverse] at hk
  rw [take_split]
  unfold natL
  by_cases h : k < (putL xs.length).length
  · rw [if_pos h, numL_cut xs.length h64 k h]
  · rw [if_neg h, numL_put xs.length h64]
    simp only
    rw [if_neg (by omega), if_pos (by rw [List.length_take, limbB_length, List.length_reverse]; omega)]

end Go.Proofs.YtnedghhcidohnaaGreat

/-! The reference's PutNat. -/
namespace Go.Proofs.YtnedghhcidohnaaGreat
open Go.RowKit

set_option maxHeartbeats 1000000 in
theorem rputNat_bad (ao : Option Addr) (n cap : Nat) (xs : List Int) (w : World) (h : RowAt w ao n cap xs) (hm : ¬ May xs) :
    Calls Tryz.prog 53 #[.slice ao n cap] w fun e w' => e = .returned (.tuple #[.string (str []), .int .i64 1]) ∧ Below w.heap.size w w' := by
  have H : Hid (RowAt w ao n cap xs ∧ ¬ May xs) := ⟨h, hm⟩
  clear h hm
  go_enter Tryz.func53, Tryz.ntmps53
  go_wp2_with fail
  refine (rmay_val _ _ _ _ _ H.out.1 false ⟨(fun e => by cases e), fun e => absurd e H.out.2⟩).mono ?_
  rintro e w1 ⟨rfl, rfl⟩
  go_wp2_with fail
  go_ret2
  exact ⟨rfl, Below.refl _ _⟩

set_option maxRecDepth 100000 in
set_option maxHeartbeats 4000000 in
theorem rputNat_ok (ao : Option Addr) (n cap : Nat) (xs : List Int) (w : World) (h : RowAt w ao n cap xs) (hm : May xs) :
    Calls Tryz.prog 53 #[.slice ao n cap] w fun e w' => e = .returned (.tuple #[.string (str (putN xs)), .int .i64 0]) ∧ Below w.heap.size w w' := by
  have hlen := h.len
  have h8 : n ≤ 8 := by have := hm.1; omega
  have h8' : (n : Int) ≤ 8 := by omega
  have HA : Hid (RowAt w ao n cap xs ∧ May xs ∧ xs.length = n) := ⟨h, hm, hlen⟩
  obtain ⟨S, hS⟩ : ∃ S, S = putL n := ⟨_, rfl⟩
  have HS : Hid (S = putL n) := hS
  have hS9 : S.length ≤ 9 := by rw [hS, putL_length]; have := cntB_le n (by omega); omega
  clear h hm hlen hS
  go_enter Tryz.func53, Tryz.ntmps53
  go_wp2_with fail
  refine (rmay_val _ _ _ _ _ HA.out.1 true ⟨fun _ => HA.out.2.1, fun _ => rfl⟩).mono ?_
  rintro e w0 ⟨rfl, rfl⟩
  go_wp2_with fail
  refine (rput_n n _ (by omega)).mono ?_
  rw [← HS.out]
  rintro e w1 ⟨rfl, b1⟩
  have H1 : Hid (Below w.heap.size w w1) := b1
  clear b1
  go_wp2_with fail
  go_loopg [4, 5] n (fun r s i wr => ∃ (j : Nat) (A : List UInt8), j ≤ n ∧ n - j ≤ r ∧ s = .string (str A) ∧ i = .int .i64 ((n : Int) - 1 - (j : Int)) ∧ A.length ≤ 9 + 8 * j ∧ Hid (A = S ++ limbB (xs.reverse.take j) ∧ Below w.heap.size w wr))
  case atStart => exact ⟨0, S, Nat.zero_le _, by omega, rfl, by go_num, by omega, by simp [limbB], H1.out⟩
  case round =>
    obtain ⟨j, A, hj, hjr, rfl, rfl, hA, hO⟩ := hrel
    by_cases h0 : j = n
    · subst h0
      have e0 : (j : Int) - 1 - (j : Int) = -1 := by omega
      rw [e0]
      have HE : Hid (A = putN xs ∧ Below w.heap.size w wr) := by
        refine ⟨?_, hO.out.2⟩
        rw [hO.out.1, List.take_of_length_le (by rw [List.length_reverse, HA.out.2.2]; exact Nat.le_refl _), HS.out, ← HA.out.2.2]
        rfl
      clear hO e0
      go_wp2_with fail
      go_ret2
      exact ⟨by rw [← HE.out.1]; rfl, HE.out.2⟩
    · obtain ⟨i, hi⟩ : ∃ i, n = i + 1 + j := ⟨n - 1 - j, by omega⟩
      have hij : (n : Int) - 1 - (j : Int) = (i : Int) := by omega
      rw [hij]
      have hil : (i : Int) < (n : Int) := by omega
      have hiN : i < n := by omega
      have hne : xs ≠ [] := by intro e; have := HA.out.2.2; rw [e] at this; simp at this; omega
      obtain ⟨b, off, rfl, hlt, hc⟩ := (HA.out.1.below hO.out.2).cells hne
      have hxi : i < xs.length := by rw [HA.out.2.2]; exact hiN
      have hci := hc i hxi
      obtain ⟨d, hd⟩ : ∃ d : Nat, (xs.getD i 0) = (d : Int) ∧ d < 18446744073709551616 := by
        have hm := HA.out.1.limbs (xs.getD i 0) (by rw [List.getD_eq_getElem?_getD, List.getElem?_eq_getElem hxi]; exact List.getElem_mem _)
        unfold BB at hm
        exact ⟨(xs.getD i 0).toNat, by omega, by omega⟩
      have hci2 : wr.cell? ⟨b, off + i, none⟩ = some (.int .u64 (d : Int)) := by rw [hci]; simp only [hd.1]
      have HD : Hid (d < 18446744073709551616 ∧ limbB (xs.reverse.take (j + 1)) = limbB (xs.reverse.take j) ++ lowB d 8 ∧ n = i + 1 + j) := by
        refine ⟨hd.2, ?_, hi⟩
        have hjl : j < xs.reverse.length := by rw [List.length_reverse, HA.out.2.2]; omega
        have e1 : xs.reverse[j] = (d : Int) := by
          rw [List.getElem_reverse, ← hd.1, List.getD_eq_getElem?_getD, List.getElem?_eq_getElem hxi]
          simp only [Option.getD_some]
          congr 1
          have := HA.out.2.2
          omega
        rw [take_nextY _ j hjl, limbB_snoc, e1, Int.toNat_natCast]
      have HK : Hid (0 ≤ n ∧ _) := ⟨Nat.zero_le _, hjr⟩
      have hA72 : ((str A).size : Int) ≤ 100 := by rw [str_size]; omega
      obtain ⟨T, hT⟩ : ∃ T, T = lowB d 8 := ⟨_, rfl⟩
      have hTs : (str T).size = 8 := by rw [str_size, hT, lowB_length]
      have hap : str A ++ str T = str (A ++ T) := str_append _ _
      have hsA : (str A).size = A.length := str_size A
      have HT : Hid (T = lowB d 8) := hT
      clear hd hci hc hi hij hjr hne hT h0 hj
      go_wp2_with fail
      refine (fixed_any d 8 _ HD.out.1 (by decide)).mono ?_
      rw [← HT.out]
      rintro e w2 ⟨rfl, b2⟩
      have H2 : Hid (Below w.heap.size w w2) := chain hO.out.2 b2
      clear b2 hci2
      go_wp2_with fail
      go_roundg (n - (j + 1))
      case measure => have := HD.out; have := HK.out; omega
      case rel =>
        refine ⟨j + 1, A ++ T, by have := HD.out; omega, Nat.le_refl _, rfl, ?_, ?_, ?_, H2.out⟩
        · congr 1
          have := HD.out
          omega
        · rw [List.length_append, HT.out, lowB_length]; omega
        · rw [HD.out.2.1, hO.out.1, HT.out, List.append_assoc]
end Go.Proofs.YtnedghhcidohnaaGreat
