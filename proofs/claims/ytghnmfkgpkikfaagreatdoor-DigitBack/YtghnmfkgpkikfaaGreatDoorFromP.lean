/-
  digit.From, at any digits.
-/
import Derived.Test.YtghnmfkgpkikfaaGreatDoorFrom
namespace Go.Proofs.YtghnmfkgpkikfaaGreatDoor
open Go.RowKit Go.Shelf

attribute [local go_sem] Oper.semAt_some

theorem load23 (w : World) (B n c : Nat) (ao : Option Addr) (h : w.cell? ⟨B, 0, none⟩ = some (.slice ao n c)) : (loadVar 23 ⟨B, 0, none⟩).run Tryz.prog w = .ok (.slice ao n c) w := by
  simp [go_sem, loadVar, h, Tryz.isAgg23, Tryz.sizeOf23]
theorem load26 (w : World) (B : Nat) (k : Int) (h : w.cell? ⟨B, 0, none⟩ = some (.int .i64 k)) : (loadVar 26 ⟨B, 0, none⟩).run Tryz.prog w = .ok (.int .i64 k) w := by
  simp [go_sem, loadVar, h, Tryz.isAgg26, Tryz.sizeOf26]

theorem results_from (w : World) (tmps : Array Value) (A B n c : Nat) (ao : Option Addr) (k : Int) (ha : tmps[4]?.getD undef = .pointer (some ⟨A, 0, none⟩)) (hb : tmps[5]?.getD undef = .pointer (some ⟨B, 0, none⟩)) (h : w.cell? ⟨A, 0, none⟩ = some (.slice ao n c)) (h' : w.cell? ⟨B, 0, none⟩ = some (.int .i64 k)) :
    (results Tryz.f8 tmps).run Tryz.prog w = .ok (.tuple #[.slice ao n c, .int .i64 k]) w := by
  have hr : Tryz.f8.results = #[.cell 4 23, .cell 5 26] := rfl
  simp only [results, hr]
  simp [Sem.run_bind, Result.andThen, asAddr, ha, hb, load23 w A n c ao h, load26 w B k h']

theorem bx_drewN {W : World} {B : Nat} {t : TypeId} {v : Value} (h : Boxed W B t v) (q : Nat) : Boxed (W.drewN q) B t v := h
theorem bx_below {W W' : World} {B : Nat} {t : TypeId} {v : Value} (h : Boxed W B t v) (hb : Below W.heap.size W W') : Boxed W' B t v := (hb.block B h.lt).trans h
theorem bx_kept {W W' : World} {row : Option Nat} {B : Nat} {t : TypeId} {v : Value} (h : Boxed W B t v) (hg : W.grownBy W' row) (hr : ∀ r, row = some r → ∃ o : Obj, W.heap[r]? = some o ∧ o.isCells = false) : Boxed W' B t v := by
  refine h.kept hg fun e => ?_
  obtain ⟨o, ho, hc⟩ := hr B e.symm
  rw [show W.heap[B]? = _ from h] at ho
  cases ho
  cases hc

theorem RowAt.kept {W W' : World} {row : Option Nat} {ao : Option Addr} {n cap : Nat} {xs : List Int} (h : RowAt W ao n cap xs) (hg : W.grownBy W' row) (hr : ∀ r, row = some r → ∃ o : Obj, W.heap[r]? = some o ∧ o.isCells = false) : RowAt W' ao n cap xs := by
  refine ⟨h.len, h.limbs, h.fits, h.most, h.bare, fun hne => ?_⟩
  obtain ⟨b, off, rfl, hlt, hc⟩ := h.cells hne
  have hb : W'.heap[b]? = W.heap[b]? := by
    refine hg.block b hlt fun e => ?_
    obtain ⟨o, ho, hoc⟩ := hr b e.symm
    have h0 := hc 0 (List.length_pos_iff.2 hne)
    unfold World.cell? at h0
    rw [show W.heap[(⟨b, off + 0, none⟩ : Addr).block]? = some o from ho] at h0
    cases o <;> simp_all [Obj.isCells]
  exact ⟨b, off, rfl, Nat.lt_of_lt_of_le hlt hg.size, fun j hj => (World.cell?_of_block (a := ⟨b, off + j, none⟩) hb).trans (hc j hj)⟩

theorem RowAt.setBox {W : World} {B : Nat} {t : TypeId} {v u : Value} {ao : Option Addr} {n cap : Nat} {xs : List Int} (h : RowAt W ao n cap xs) (hB : Boxed W B t v) (hv : ∀ x, v ≠ .int .u64 x) : RowAt (W.setCell ⟨B, 0, none⟩ u) ao n cap xs := by
  refine ⟨h.len, h.limbs, h.fits, h.most, h.bare, fun hne => ?_⟩
  obtain ⟨b, off, rfl, hlt, hc⟩ := h.cells hne
  have hbB : b ≠ B := by
    rintro rfl
    have h0 := hc 0 (List.length_pos_iff.2 hne)
    unfold World.cell? at h0
    rw [show W.heap[(⟨b, off + 0, none⟩ : Addr).block]? = _ from hB] at h0
    simp only [Nat.add_zero] at h0
    cases off with
    | zero => simp at h0; exact hv _ h0
    | succ o => simp at h0
  have hb : (W.setCell ⟨B, 0, none⟩ u).heap[b]? = W.heap[b]? := Below.heap_setCell W ⟨B, 0, none⟩ u b hbB
  exact ⟨b, off, rfl, Nat.lt_of_lt_of_le hlt (KeepsWalks.setCell W _ u).size, fun j hj => (World.cell?_of_block (a := ⟨b, off + j, none⟩) hb).trans (hc j hj)⟩

theorem bx_other {W : World} {B C : Nat} {t : TypeId} {v u : Value} (h : Boxed W B t v) (hBC : B ≠ C) : Boxed (W.setCell ⟨C, 0, none⟩ u) B t v := (Below.heap_setCell W ⟨C, 0, none⟩ u B hBC).trans h

theorem any_ge {b : Int} {l : List Int} (hl : Limbs l) (h : (l.any fun x => decide (b ≤ x)) = false) : Digs b l := fun d hd => ⟨(hl d hd).1, by
  have := List.any_eq_false.1 h d hd
  simpa using this⟩

theorem not_digs {b : Int} {l : List Int} (h : (l.any fun x => decide (b ≤ x)) = true) : ¬ Digs b l := fun hd => by
  obtain ⟨x, hx, hb⟩ := List.any_eq_true.1 h
  have := (hd x hx).2
  simp at hb
  omega

/-- What lies there while digits are put together. -/
structure FromInv (w : World) (b : Int) (pre : List (Placed b)) (W : World) : Prop where
  sum : ∃ so sm sc s, Boxed W (w.heap.size + 3) 23 (.slice so sm sc) ∧ RowAt W so sm sc s ∧ Num s (dval b (pre.map fun x => x.2.1).reverse)
  small : dval b (pre.map fun x => x.2.1).reverse < Big
  base : Boxed W w.heap.size 24 (.int .u64 b)
  res : Boxed W (w.heap.size + 1) 23 (.slice none 0 0)
  err : Boxed W (w.heap.size + 2) 26 (.int .i64 0)
  bel : Below w.heap.size w W
  room : w.heap.size + 5 ≤ W.heap.size

theorem fromInv_own (w : World) (b : Int) (B : Nat) (hB : w.heap.size ≤ B) : OwnFrom B (FromInv w b) := by
  intro pre X Y row h hg hr
  have hr' : ∀ r, row = some r → ∃ o : Obj, X.heap[r]? = some o ∧ o.isCells = false := fun r e => (hr r e).2
  obtain ⟨so, sm, sc, s, h1, h2, h3⟩ := h.sum
  exact ⟨⟨so, sm, sc, s, bx_kept h1 hg hr', h2.kept hg hr', h3⟩, h.small, bx_kept h.base hg hr', bx_kept h.res hg hr', bx_kept h.err hg hr', h.bel.grown hg h.bel.size (fun k e => Nat.le_trans hB (hr k e).1), Nat.le_trans h.room hg.size⟩

/-- What lies there once a sum was too great. -/
structure FromEx (w : World) (b : Int) (pre : List (Placed b)) (W : World) : Prop where
  big : Big ≤ dval b (pre.map fun x => x.2.1).reverse
  res : Boxed W (w.heap.size + 1) 23 (.slice none 0 0)
  err : Boxed W (w.heap.size + 2) 26 (.int .i64 21)
  bel : Below w.heap.size w W

theorem fromEx_own (w : World) (b : Int) (B : Nat) (hB : w.heap.size ≤ B) (c : Code) : OwnFrom B (fun pre W => c = .ret ∧ FromEx w b pre W) := by
  intro pre X Y row h hg hr
  have hr' : ∀ r, row = some r → ∃ o : Obj, X.heap[r]? = some o ∧ o.isCells = false := fun r e => (hr r e).2
  exact ⟨h.1, h.2.big, bx_kept h.2.res hg hr', bx_kept h.2.err hg hr', h.2.bel.grown hg h.2.bel.size (fun k e => Nat.le_trans hB (hr k e).1)⟩

theorem dval_snoc_rev (b : Int) (pre : List (Placed b)) (x : Placed b) : dval b ((pre ++ [x]).map fun x => x.2.1).reverse = x.2.1 + b * dval b (pre.map fun x => x.2.1).reverse := by simp [dval]

end Go.Proofs.YtghnmfkgpkikfaaGreatDoor
