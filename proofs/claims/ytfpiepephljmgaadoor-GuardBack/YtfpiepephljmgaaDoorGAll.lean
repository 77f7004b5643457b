/-
  guard.All.
-/
import Derived.Test.YtfpiepephljmgaaDoorGTrn
import Derived.RegionIn
namespace Go.Proofs.YtfpiepephljmgaaDoor
open Go.RowKit Go.Shelf

attribute [local go_sem] Oper.semAt_some

/-- A frame's cells. -/
def Frm.cs (f : Frm) : List Value := [.int .u64 (f.seq : Int), .int .u64 (f.epoch : Int), .string (str f.text)]
def flatC (l : List Frm) : List Value := (l.map Frm.cs).flatten

theorem flatC_snoc (l : List Frm) (f : Frm) : flatC (l ++ [f]) = flatC l ++ f.cs := by simp [flatC]
theorem flatC_length (l : List Frm) : (flatC l).length = l.length * 3 := by
  induction l with
  | nil => rfl
  | cons f l ih =>
    have : flatC (f :: l) = f.cs ++ flatC l := rfl
    rw [this, List.length_append, ih, List.length_cons]
    simp [Frm.cs]
    omega

/-- What is left behind frames. -/
def leftL (s : List UInt8) (l : List (Frm × List UInt8)) : List UInt8 := (l.map Prod.snd).getLastD s
theorem leftL_snoc (s : List UInt8) (l : List (Frm × List UInt8)) (x : Frm × List UInt8) : leftL s (l ++ [x]) = x.2 := by simp [leftL]

theorem leftL_cons (s : List UInt8) (x : Frm × List UInt8) (l : List (Frm × List UInt8)) : leftL s (x :: l) = leftL x.2 l := by
  simp only [leftL, List.map_cons, List.getLastD_cons]

theorem ownsRow_base {W : World} {b b' : Nat} {e : TypeId} {size k : Nat} {v : Value} {xs : List Value} (h : W.ownsRow b e size v k xs) (hb : b' ≤ b) : W.ownsRow b' e size v k xs := by
  refine ⟨h.1, ?_⟩
  rcases h.2 with hn | ⟨g, cap, cur, hv, hg, hr⟩
  · exact .inl hn
  · exact .inr ⟨g, cap, cur, hv, Nat.le_trans hb hg, hr⟩

theorem left_le : ∀ (n q e : Nat) (s : List UInt8), (leftL s (turnL n q e s)).length ≤ s.length
  | 0, _, _, _ => Nat.le_refl _
  | n + 1, q, e, s => by
    simp only [turnL]
    split
    · exact Nat.le_refl _
    · rename_i f r hf
      have h1 := first_less hf
      split
      · rw [leftL_cons]
        have := left_le n (q + 1) e r
        simp only at this ⊢
        omega
      · exact Nat.le_refl _

/-- What All's loop holds. -/
structure AllInv (w : World) (s : List UInt8) (pre : List (Frm × List UInt8)) (W : World) : Prop where
  row : ∃ v, Boxed W w.heap.size 35 v ∧ W.ownsRow (w.heap.size + 4) 24 3 v pre.length (flatC (pre.map Prod.fst)) ∧ True
  left : Boxed W (w.heap.size + 1) 9 (.string (str (leftL s pre)))
  bel : Below w.heap.size w W
  room : w.heap.size + 4 ≤ W.heap.size

theorem boxed_from {β : Type} (B c : Nat) (t : TypeId) (f : β → Value) : OwnFrom c (fun (x : β) W => Boxed W B t (f x)) := by
  intro x X Y row h hg hr
  refine h.kept hg (fun e => ?_)
  obtain ⟨_, o, ho, hc⟩ := hr B e.symm
  rw [show X.heap[B]? = _ from h] at ho; cases ho; cases hc

theorem room_from {β : Type} (c n : Nat) : OwnFrom c (fun (_ : β) W => n ≤ W.heap.size) := fun _ _ _ _ h hg _ => Nat.le_trans h hg.size

theorem allInv_own (w : World) (s : List UInt8) (c : Nat) (hc : w.heap.size ≤ c) : OwnFrom c (AllInv w s) := by
  intro pre X Y row h hg hr
  exact ⟨(Own.from (holdsRow_own (β := List (Frm × List UInt8)) (w.heap.size + 4) w.heap.size 35 24 3 (fun pre => pre.length) (fun pre => flatC (pre.map Prod.fst)) (fun _ _ => True)) c) pre X Y row h.row hg hr,
    boxed_from (w.heap.size + 1) c 9 (fun pre => .string (str (leftL s pre))) pre X Y row h.left hg hr,
    ownFrom_below (β := Unit) (Nat.le_refl _) hc () X Y row h.bel hg hr, Nat.le_trans h.room hg.size⟩

theorem cells_new (W : World) (a b c : Value) (t : TypeId) : ∀ j u, [a, b, c][j]? = some u → (W.alloc (.cells #[a, b, c] t)).cell? ((⟨W.heap.size, 0, none⟩ : Addr).add j) = some u := by
  intro j u h
  have hadd : (⟨W.heap.size, 0, none⟩ : Addr).add j = ⟨W.heap.size, j, none⟩ := by unfold Addr.add; split <;> simp_all
  rw [hadd, cell_of_row _ W.heap.size j #[a, b, c] t (0, 0) (heap_alloc_new W _)]
  simpa using h

/-- A round's step. -/
theorem all_step {w W w1 : World} {s : List UInt8} {pre : List (Frm × List UInt8)} {f : Frm} {r : List UInt8} {v v' : Value} {tmp : Obj} (hI : AllInv w s pre W)
    (hv : Boxed W w.heap.size 35 v) (hrow : W.ownsRow (w.heap.size + 4) 24 3 v pre.length (flatC (pre.map Prod.fst)))
    (hown' : w1.ownsRow (w.heap.size + 4) 24 3 v' (pre.length + 1) (flatC (pre.map Prod.fst) ++ f.cs)) (hgrow : (W.alloc tmp).grownBy w1 v.ownBlock) :
    Boxed w1 w.heap.size 35 v ∧ Boxed w1 (w.heap.size + 1) 9 (.string (str (leftL s pre))) ∧ Boxed (w1.setCell ⟨w.heap.size, 0, none⟩ v') (w.heap.size + 1) 9 (.string (str (leftL s pre))) ∧
      KeepsOthers W ((w1.setCell ⟨w.heap.size, 0, none⟩ v').setCell ⟨w.heap.size + 1, 0, none⟩ (.string (str r))) ∧
      KeepsB w.heap.size (w.heap.size + 3) W ((w1.setCell ⟨w.heap.size, 0, none⟩ v').setCell ⟨w.heap.size + 1, 0, none⟩ (.string (str r))) ∧
      AllInv w s (pre ++ [(f, r)]) ((w1.setCell ⟨w.heap.size, 0, none⟩ v').setCell ⟨w.heap.size + 1, 0, none⟩ (.string (str r))) := by
  have hr1 := hrow.alloc tmp
  have hb := hrow.lt
  have hlt : ∀ k, v.ownBlock = some k → w.heap.size + 4 ≤ k := fun k e => (hb k e).1
  have hv1 : Boxed w1 w.heap.size 35 v := (hv.alloc tmp).kept hgrow (fun e => by have := hlt _ e.symm; omega)
  have hl1 : Boxed w1 (w.heap.size + 1) 9 (.string (str (leftL s pre))) := (hI.left.alloc tmp).kept hgrow (fun e => by have := hlt _ e.symm; omega)
  have hl2 := hl1.other (B' := w.heap.size) (by omega) v'
  have hv2 := (hv1.set v').other (B' := w.heap.size + 1) (by omega) (.string (str r))
  have hl3 := hl2.set (.string (str r))
  have hne : ∀ c, c < w.heap.size + 4 → v'.ownBlock = none ∨ v'.ownBlock ≠ some c := fun c hc => .inr fun e => by have := (hown'.lt c e).1; omega
  have ho2 := (hown'.kept (grownBy_setCell' w1 w.heap.size v') (hne _ (by omega))).kept (grownBy_setCell' _ (w.heap.size + 1) (.string (str r))) (hne _ (by omega))
  have hsz : W.heap.size ≤ w1.heap.size := Nat.le_trans (by simp) hgrow.size
  have hsz2 : w1.heap.size ≤ ((w1.setCell ⟨w.heap.size, 0, none⟩ v').setCell ⟨w.heap.size + 1, 0, none⟩ (.string (str r))).heap.size := Nat.le_trans (KeepsWalks.setCell w1 _ _).size (KeepsWalks.setCell _ _ _).size
  have bW : Below w.heap.size W w1 := ((Below.refl _ W).alloc hI.bel.size tmp).grown hgrow (Nat.le_trans hI.bel.size (by simp)) (fun k e => by have := hlt k e; omega)
  have bW2 : Below w.heap.size W ((w1.setCell ⟨w.heap.size, 0, none⟩ v').setCell ⟨w.heap.size + 1, 0, none⟩ (.string (str r))) := (bW.setCell (Nat.le_refl _) _).setCell (by show w.heap.size ≤ w.heap.size + 1; omega) _
  have hk3 : ((w1.setCell ⟨w.heap.size, 0, none⟩ v').setCell ⟨w.heap.size + 1, 0, none⟩ (.string (str r))).heap[w.heap.size + 3]? = W.heap[w.heap.size + 3]? := by
    have hr := hI.room
    refine (Below.heap_setCell _ ⟨w.heap.size + 1, 0, none⟩ _ (w.heap.size + 3) (by show w.heap.size + 3 ≠ w.heap.size + 1; omega)).trans ?_
    refine (Below.heap_setCell w1 ⟨w.heap.size, 0, none⟩ _ (w.heap.size + 3) (by show w.heap.size + 3 ≠ w.heap.size; omega)).trans ?_
    refine (hgrow.block (w.heap.size + 3) (by simp; omega) (fun e => by have := hlt _ e.symm; omega)).trans ?_
    exact Below.heap_alloc W tmp _ (by omega)
  have hko : KeepsOthers W ((w1.setCell ⟨w.heap.size, 0, none⟩ v').setCell ⟨w.heap.size + 1, 0, none⟩ (.string (str r))) := by
    refine (((KeepsOthers.alloc W tmp).trans (KeepsOthers.of_grownBy hgrow fun j o ej hj => ?_)).trans (KeepsOthers.setCell _ _ _)).trans (KeepsOthers.setCell _ _ _)
    rcases hr1.2 with ⟨rfl, _⟩ | ⟨g, cap, cur, rfl, _, hgb, _⟩
    · simp [Value.ownBlock] at ej
    · obtain rfl : g = j := by simpa [Value.ownBlock] using ej
      rw [hgb] at hj
      cases hj
      rfl
  refine ⟨hv1, hl1, hl2, hko, ⟨bW2, hk3⟩, ⟨v', hv2, ?_, trivial⟩, ?_, hI.bel.trans bW2, Nat.le_trans hI.room (Nat.le_trans hsz hsz2)⟩
  · rw [List.map_append, List.map_cons, List.map_nil, flatC_snoc, List.length_append]
    exact ho2
  · rw [leftL_snoc]
    exact hl3

set_option maxRecDepth 100000 in
set_option maxHeartbeats 4000000 in
theorem all_in (s : List UInt8) (ep : Nat) (w : World) (hT : Tab w) (hep : ep < 18446744073709551616) (hl : s.length ≤ 100000) :
    CallsIn Fence.wide 3 Tryd.prog 15 #[.string (str s), .int .u64 ep] w fun e W' =>
      ∃ v, e = .returned (.tuple #[v, .int .i64 (((s.length : Int) - ((leftL s (allL 1 ep s)).length : Int)))]) ∧ W'.ownsRow w.heap.size 24 3 v (allL 1 ep s).length (flatC ((allL 1 ep s).map Prod.fst)) ∧ Below w.heap.size w W' := by
  have hsz := str_size s
  have HT : Hid (Tab w ∧ ep < 18446744073709551616 ∧ s.length ≤ 100000) := ⟨hT, hep, hl⟩
  clear hT hep hl
  refine callsIn_of_wp_marks Tryd.func15 rfl trivial ?_ rfl
  simp only [Tryd.ntmps15, List.size_toArray, List.length_cons, List.length_nil, Nat.reduceAdd, Nat.reduceSub, Array.replicate_succ, Array.replicate_zero, List.push_toArray, List.append_toArray, List.nil_append, List.cons_append]
  gi_wp2_with fail
  refine ⟨trivial, ?_⟩
  refine (callsIn_wide.2 (turn_any s ep _)).mono ?_
  rintro e w2 ⟨rfl, rfl⟩
  gi_wp2_with fail
  obtain ⟨W0, hW0⟩ : ∃ W0, ((((w.alloc (Obj.cells #[Value.slice none 0 0] 35)).alloc (Obj.cells #[Value.string (str s)] 9)).alloc (Obj.cells #[Value.string (str s)] 9)).alloc (Obj.cells #[Value.int IntKind.u64 ep] 22)) = W0 := ⟨_, rfl⟩
  have hF0 : W0.heap.size = w.heap.size + 4 ∧ Boxed W0 w.heap.size 35 (.slice none 0 0) ∧ Boxed W0 (w.heap.size + 1) 9 (.string (str s)) ∧ Boxed W0 (w.heap.size + 2) 9 (.string (str s)) ∧ Boxed W0 (w.heap.size + 3) 22 (.int .u64 ep) ∧ Below w.heap.size w W0 := by
    have a0 := (((Boxed.new w 35 (.slice none 0 0)).alloc (.cells #[.string (str s)] 9)).alloc (.cells #[.string (str s)] 9)).alloc (.cells #[.int .u64 ep] 22)
    have a1 := ((Boxed.new (w.alloc (.cells #[.slice none 0 0] 35)) 9 (.string (str s))).alloc (.cells #[.string (str s)] 9)).alloc (.cells #[.int .u64 ep] 22)
    have a2 := (Boxed.new ((w.alloc (.cells #[.slice none 0 0] 35)).alloc (.cells #[.string (str s)] 9)) 9 (.string (str s))).alloc (.cells #[.int .u64 ep] 22)
    have a3 := Boxed.new (((w.alloc (.cells #[.slice none 0 0] 35)).alloc (.cells #[.string (str s)] 9)).alloc (.cells #[.string (str s)] 9)) 22 (.int .u64 ep)
    simp only [World.size_alloc] at a1 a2 a3
    rw [← hW0]
    exact ⟨by simp, a0, a1, a2, a3, ((((Below.refl _ w).alloc (Nat.le_refl _) _).alloc (by simp) _).alloc (by simp; omega) _).alloc (by simp; omega) _⟩
  rw [hW0]
  clear hW0
  have HS : Hid _ := turn_stops 2 (w.heap.size + 2) (w.heap.size + 3) w.heap.size s ep HT.out.2.1 HT.out.2.2 W0 (by omega) (by omega) hF0.2.2.2.1.cell hF0.2.2.2.2.1.cell (HT.out.1.below hF0.2.2.2.2.2 HT.out.1.pos) HT.out.1.pos (by omega)
  have HF : Hid (AllInv w s [] W0 ∧ W0.heap.size = w.heap.size + 4) := ⟨⟨⟨_, hF0.2.1, World.ownsRow_nil _ _ _ _, trivial⟩, hF0.2.2.1, hF0.2.2.2.2.2, by omega⟩, hF0.1⟩
  have hs4 : W0.heap.size = w.heap.size + 4 := hF0.1
  obtain ⟨i0, hi, hz0, hz1, hz2⟩ := info_parts (show (Tryd.prog.info? 24).map (fun i => (i.zero, i.size, i.bytes)) = some (some (.agg #[.int .u64 0, .int .u64 0, .string ⟨#[]⟩]), 3, 32) by kernel_rfl)
  clear hF0
  refine wpIn_rangeFunc_ownH rfl (by omega) (gf := 27) (lb := #[.pointer (some ⟨w.heap.size + 2, 0, none⟩), .pointer (some ⟨w.heap.size + 3, 0, none⟩)]) rfl trivial (enters_of Tryd.func27 (by kernel_rfl) rfl)
    HS.out (fun h k => h.trans k) (keepsB_b (by omega) (by omega)) (Below.refl _ _) (fun _ => rfl)
    (AllInv w s) (fun _ _ _ => False) (allInv_own w s _ (by omega)) (fun _ _ _ _ _ hs _ _ => hs) HF.out.1
    (fun x a' W => ∃ B, w.heap.size + 4 ≤ B ∧ FBox W B x.1.seq x.1.epoch (str x.1.text) ∧ a' = { tmps := #[.string (str s), .int .u64 ep, undef, undef, .slice none 0 0, .int .i64 0, .pointer (some ⟨w.heap.size, 0, none⟩), .pointer (some ⟨w.heap.size + 1, 0, none⟩), .pointer (some ⟨B, 0, none⟩), .string (str x.2), .string (str s), .string (str s), .int .u64 ep,
          .func (.func 27) #[] #[.pointer (some ⟨w.heap.size + 1 + 1, 0, none⟩), .pointer (some ⟨w.heap.size + 1 + 1 + 1, 0, none⟩)], x.1.v, .string (str x.2), undef, undef, undef, undef, undef, undef, undef, undef, undef, undef, undef], defers := [] }) ?ax ?assign ?body ?done ?stop
  case ax =>
    rintro x a' _ X Y row ⟨B, hB, hbx, he⟩ hg hr
    refine ⟨B, hB, (hg.block B hbx.lt fun e => ?_).trans hbx, he⟩
    obtain ⟨_, o, ho, hc⟩ := hr B e.symm
    rw [show X.heap[B]? = _ from hbx] at ho; cases ho; cases hc
  case assign =>
    rintro l pre ⟨⟨x, y, t⟩, r⟩ W K hI hK
    simp only [Frm.v] at hK ⊢
    have HK : Hid _ := hK
    clear hK
    gi_wp2
    refine HK.out _ _ ((KeepsOthers.alloc _ _).from _) ⟨(Below.refl _ _).alloc hI.bel.size _, heap_alloc_old W _ (by have := hI.room; omega)⟩ ((allInv_own w s w.heap.size (Nat.le_refl _)).alloc _ hI) ⟨W.heap.size, hI.room, FBox.new _ _ _ _, rfl⟩
  case body =>
    rintro l pre ⟨⟨x, y, t⟩, r⟩ a' W hWl - hI ⟨B, hB, hbx, rfl⟩ hlt
    simp only [Frm.v]
    obtain ⟨v, hv, hrow, -⟩ := hI.row
    have hc := hv.cell
    have hf := hv.frozen
    have hcl := hI.left.cell
    have hfl := hI.left.frozen
    have c0 := hbx.c0
    have c1 := hbx.c1
    have c2 := hbx.c2
    have HI : Hid (AllInv w s pre W) := hI
    have HB : Hid (FBox W B x y (str t) ∧ w.heap.size + 4 ≤ B) := ⟨hbx, hB⟩
    clear hI hbx hB
    simp only [] at c0 c1 c2
    gi_wp2_with (gi_at_builtin; refine wpListIn_append_own _ rfl _ _ 35 rfl (w.heap.size + 4) 24 i0 (.agg #[.int .u64 0, .int .u64 0, .string ⟨#[]⟩]) 3 32 Tryd.underlying35 hi hz0 hz1 hz2 rfl (by decide) _ _ _ rfl (hrow.alloc _) ⟨W.heap.size, 0, none⟩ 1 1 [.int .u64 (x : Int), .int .u64 (y : Int), .string (str t)] rfl rfl (cells_new _ _ _ _ _) (by simp [Value.oneCell']) (by unfold maxLen; omega) (by omega) (by have := HI.out.room; simp; omega) ?_; intro v' w1 hown' hgrow hnil; obtain ⟨g', cap', rfl⟩ := ownsRow_succ hown'; have hst := all_step (f := ⟨x, y, t⟩) (r := r) HI.out hv hrow hown' hgrow; have HST : Hid _ := hst; have hc1 := hst.1.cell; have hf1 := hst.1.frozen; have hc2 := hst.2.1.cell; have hf2 := hst.2.1.frozen; have hc3 := hst.2.2.1.cell; have hf3 := hst.2.2.1.frozen; clear hst hnil hown' hgrow)
    exact ⟨HST.out.2.2.2.1.from _, HST.out.2.2.2.2.1, HST.out.2.2.2.2.2⟩
  case done =>
    rintro D ys W hD hS hI hK
    obtain ⟨v, hv, hrow, -⟩ := hI.row
    have hc := hv.cell
    have hcl := hI.left.cell
    have hys : ys = allL 1 ep s := hS
    have hz := str_size (leftL s ys)
    obtain ⟨L, hL⟩ : ∃ L, L = leftL s ys := ⟨_, rfl⟩
    rw [← hL] at hz hcl
    have HI : Hid (AllInv w s ys W ∧ Boxed W w.heap.size 35 v ∧ W.ownsRow (w.heap.size + 4) 24 3 v ys.length (flatC (ys.map Prod.fst)) ∧ ys = allL 1 ep s ∧ L = leftL s ys) := ⟨hI, hv, hrow, hys, hL⟩
    have hl1 : (s.length : Int) ≤ 100000 := by have := HT.out.2.2; omega
    have hl2 : (L.length : Int) ≤ (s.length : Int) := by
      have := left_le s.length 1 ep s
      rw [hL, hys]
      exact_mod_cast this
    have hwr : IntKind.i64.wrap ((s.length : Int) - (L.length : Int)) = (s.length : Int) - (L.length : Int) := IntWalk.i64_in _ ⟨by omega, by omega⟩
    clear hI hv hrow hS hys hL
    gi_wp2_with fail
    gi_region
    have hK2 : W.drew.heap[D]? = some (.deferred (some [])) := hK
    gi_wp2
    refine ⟨by simp, .inl ⟨_, _, rfl, run_takeDeferred hK2, ?_⟩⟩
    refine ⟨_, results_tmp2 rfl _ _ _, v, ?_, ?_, ?_⟩
    · rw [← HI.out.2.2.2.1, ← HI.out.2.2.2.2]
      rfl
    · have h1 := HI.out.2.2.1
      rw [← HI.out.2.2.2.1]
      exact ownsRow_base (ownsRow_putObj (W := W.drew) h1 _ hK2 rfl) (by omega)
    · exact HI.out.1.bel.drew.trans (belowK_b (w := w) (Nat.le_refl _) W.drew D _ _ (by omega) hK2 rfl rfl)
  case stop =>
    rintro D c pre W _ _ h _
    exact h.elim
end Go.Proofs.YtfpiepephljmgaaDoor
