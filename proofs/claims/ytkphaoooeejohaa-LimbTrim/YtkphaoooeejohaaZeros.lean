/-
  Limbs of 0 appended to a row that a call owns.
-/
import Derived.Test.YtkphaoooeejohaaBuild
import Derived.Lib.AppendZerosOnto
import Derived.Test.YtkphaoooeejohaaRTrim
namespace Go.Proofs.Ytkphaoooeejohaa
open Go.RowKit

theorem zero_cells (k : Nat) : (Builtin.zeroCells (Value.int .u64 0).cells k).toList = List.replicate k (.int .u64 0) := by
  apply List.ext_getElem?
  intro j
  by_cases hj : j < k
  · simp [Builtin.zeroCells, Value.cells, hj, Nat.mod_one]
  · simp [Builtin.zeroCells, Value.cells, hj]

theorem append_zeros (w : World) (base g n cap k : Nat) (xs : List Value) (ty : TypeId) (hown : w.ownsRow base 36 1 (.slice (some ⟨g, 0, none⟩) n cap) n xs) (hk : k ≤ 1000) (hn : n ≤ 900000) (hbase : base ≤ w.heap.size) :
    ∃ v' w', (Builtin.append_ #[22, 3] ty #[.slice (some ⟨g, 0, none⟩) n cap, .int .i64 k]).run Try.prog w = .ok v' w' ∧ w'.ownsRow base 36 1 v' (n + k) (xs ++ List.replicate k (.int .u64 0)) ∧ w.grownBy w' (some g) := by
  obtain ⟨i, hi, hz, hs, hby⟩ := info_parts Try.info36
  have hw : IntKind.i64.wrap (k : Int) = k := by rw [IntKind.wrap_i64]; omega
  have hneg : ¬ ((k : Int) < 0) := by omega
  have hx1 := hown.1
  rcases hown.2 with ⟨h', _⟩ | ⟨g', cap', cur, h', hbg, hg, hnc, hcm, hcs, htake⟩
  · simp at h'
  · simp only [Value.slice.injEq, Option.some.injEq, Addr.mk.injEq, and_true, true_and] at h'
    obtain ⟨rfl, rfl⟩ := h'
    have h48i : ¬ (281474976710656 < (k : Int) * (i.bytes : Int)) := by rw [hby]; omega
    by_cases hroom : n + k ≤ cap
    · have hst := run_storeCells_at Try.prog g n 36 (List.replicate k (Value.int .u64 0)) 0 cur w hg (by simp; omega) (by intro v hv; rw [List.eq_of_mem_replicate hv]; rfl)
      simp only [Nat.add_zero, List.length_replicate] at hst
      have hown' : (w.setRow g (cur.toList.take n ++ List.replicate k (Value.int .u64 0) ++ cur.toList.drop (n + k)).toArray).ownsRow base 36 1 (.slice (some ⟨g, 0, none⟩) (n + k) cap) (n + k) (xs ++ List.replicate k (.int .u64 0)) := by
        refine ⟨by simp; omega, .inr ⟨g, cap, _, rfl, hbg, setRow_heap w g cur _ 36 _ hg, hroom, hcm, ?_, ?_⟩⟩
        · simp only [List.size_toArray, List.length_append, List.length_take, List.length_drop, List.length_replicate, Array.length_toList]
          omega
        · simp only [Nat.mul_one] at htake ⊢
          rw [htake, ← show (xs ++ List.replicate k (Value.int .u64 0)).length = n + k by simp; omega]
          exact List.take_left
      have hgr : w.grownBy (w.setRow g (cur.toList.take n ++ List.replicate k (Value.int .u64 0) ++ cur.toList.drop (n + k)).toArray) (some g) := ⟨rfl, rfl, rfl, by simp, fun j _ hj => setRow_other w g j _ (fun e => hj (by simp [e]))⟩
      refine ⟨_, _, ?_, hown', hgr⟩
      by_cases hk0 : k = 0
      · subst hk0
        simp only [List.replicate_zero] at hst
        have hw0 : IntKind.i64.wrap 0 = 0 := by decide
        simp [Builtin.append_, run_underlying Try.underlying22, run_underlying Try.underlying3, sizeOf, typeInfo, hi, asInt, asIntOf, hw0, hnc, storeCells, setRow_self w g cur 36 (0, 0) hg]
      · have hns : ¬ (k * 1 = 0) := by omega
        simp [Builtin.append_, run_underlying Try.underlying22, run_underlying Try.underlying3, sizeOf, typeInfo, zeroValue, hi, hz, hs, asInt, asIntOf, hw, hneg, hk0, h48i, hroom, Addr.add_lit, zero_cells, hst]
    · have hk0 : 0 < k := by omega
      have holds : ∀ j u, xs[j]? = some u → w.cell? ((⟨g, 0, none⟩ : Addr).add j) = some u := hown.cells (g := g) rfl
      have hf := run_firstCells_some (P := Try.prog) w.drew i.size n ⟨g, 0, none⟩ n cap xs (by rw [hs]; exact hx1) holds
      have hr := Lib.run_append_grow_zeros (P := Try.prog) w 22 3 ty 36 i (.int .u64 0) .i64 .i64 Try.underlying22 Try.underlying3 hi hz (some ⟨g, 0, none⟩) n cap xs hf k hk0 (by omega) (by omega) (by omega) (by rw [hby]; omega) (growslice_fits (by omega) (by rw [hby]; omega))
      have hge := grownCap_ge w (n + k) cap 36
      have hcm' : grownCap w (n + k) cap 36 ≤ maxLen := grownCap_le_maxLen w (n + k) cap 36 (by unfold maxLen; omega)
      refine ⟨_, _, hr, ⟨by simp; omega, .inr ⟨w.heap.size, _, _, rfl, hbase, heap_alloc_new w.drew _, hge, hcm', ?_, ?_⟩⟩, ⟨rfl, rfl, rfl, by simp, fun j hj _ => Below.heap_alloc w.drew _ j hj⟩⟩
      · simp only [Array.size_append, List.size_toArray, size_zeroCells]
        simp [Value.cells]
        omega
      · simp only [Array.toList_append, zero_cells, Nat.mul_one, List.append_assoc]
        rw [← List.append_assoc, ← show (xs ++ List.replicate k (Value.int .u64 0)).length = n + k by simp; omega]
        exact List.take_left

/-- A row copied into a new one. -/
theorem copy_row (w : World) (base g0 : Nat) (ao : Option Addr) (n cap : Nat) (xs : List Int) (ty : TypeId) (h : RowAt w ao n cap xs) (hn : n ≤ 900000) (hown : w.ownsRow base 36 1 (.slice (some ⟨g0, 0, none⟩) 0 0) 0 []) (hbase : base ≤ w.heap.size) :
    ∃ g c w', (Builtin.append_ #[22, 22] ty #[.slice (some ⟨g0, 0, none⟩) 0 0, .slice ao n cap]).run Try.prog w = .ok (.slice (some ⟨g, 0, none⟩) n c) w' ∧ w'.ownsRow base 36 1 (.slice (some ⟨g, 0, none⟩) n c) n (xs.map (Value.int .u64)) ∧ w.grownBy w' (some g0) := by
  obtain ⟨i, hi, hz, hs, hby⟩ := info_parts Try.info36
  cases ao with
  | none =>
    have hc := h.bare rfl
    have hf := h.fits
    obtain rfl : n = 0 := by omega
    subst hc
    rw [List.length_eq_zero_iff.1 h.len]
    exact ⟨g0, 0, w, run_append_owned_none (P := Try.prog) (w := w) base 22 ty 36 i 1 Try.underlying22 hi _ 0 [] hown, by simpa using hown, World.grownBy.refl _ _⟩
  | some ad =>
    have hnews : ∀ j u, (xs.map (Value.int .u64))[j]? = some u → w.cell? (ad.add j) = some u := fun j u hj => by
      have hjl : j < xs.length := by
        rcases Nat.lt_or_ge j xs.length with h' | h'
        · exact h'
        · rw [List.getElem?_eq_none (by simpa using h')] at hj; simp at hj
      obtain ⟨b, off, e, _, hc⟩ := h.cells (by intro e; rw [e] at hjl; simp at hjl)
      cases e
      rw [Addr.add_lit, hc j hjl]
      simp [hjl] at hj
      simp [hjl, hj]
    obtain ⟨v', w', hr, h1, h2, h3⟩ := run_append_own (P := Try.prog) w base 22 ty 36 i (.int .u64 0) 1 8 Try.underlying22 hi hz hs hby rfl (by decide) _ 0 [] hown ad n cap (xs.map (Value.int .u64)) (by have := h.len; simp; omega) hnews (ints_one _) (by unfold maxLen; omega) (by omega) hbase
    rw [Nat.zero_add, List.nil_append] at h1
    rcases h1.2 with ⟨e, _⟩ | ⟨g, c, cur, e, _⟩
    · exact absurd (h3.1 e).1 (by simp)
    · subst e
      exact ⟨g, c, w', hr, h1, h2⟩

theorem val_zeros (xs : List Int) (k : Nat) : val (xs ++ List.replicate k 0) = val xs := by
  induction xs with
  | nil =>
    induction k with
    | zero => rfl
    | succ k ih => simp only [List.nil_append, List.replicate_succ] at ih ⊢; simp only [val] at ih ⊢; rw [ih]; rfl
  | cons x xs ih => rw [List.cons_append, val, val, ih]

/-- Both appends of LimbTrim: a row copied, and limbs of 0 behind it. -/
theorem longer (w : World) (ao : Option Addr) (n cap k : Nat) (K : Int) (xs : List Int) (h : RowAt w ao n cap xs) (hn : n ≤ 30) (hk : k ≤ 10) (hK : K = (k : Int)) :
    ∃ g c w2 co cc w3, (Builtin.append_ #[22, 22] 22 #[.slice (some ⟨w.heap.size, 0, none⟩) 0 0, .slice ao n cap]).run Try.prog (w.alloc (Obj.cells #[] 36)) = .ok (.slice (some ⟨g, 0, none⟩) n c) w2 ∧
      (Builtin.append_ #[22, 3] 22 #[.slice (some ⟨g, 0, none⟩) n c, .int .i64 K]).run Try.prog w2 = .ok (.slice co (n + k) cc) w3 ∧ RowAt w3 co (n + k) cc (xs ++ List.replicate k 0) ∧ Below w.heap.size w w3 := by
  subst hK
  have hb1 : Below w.heap.size w (w.alloc (Obj.cells #[] 36)) := (Below.refl _ _).alloc (Nat.le_refl _) _
  obtain ⟨g, c, w2, e1, o1, g1⟩ := copy_row (w.alloc (Obj.cells #[] 36)) w.heap.size w.heap.size ao n cap xs 22 (h.below hb1) (by omega) (owns0 w) (by simp)
  have hb2 : Below w.heap.size w w2 := hb1.grown g1 (by simp) (fun j hj => by cases hj; exact Nat.le_refl _)
  obtain ⟨v', w3, e2, o2, g2⟩ := append_zeros w2 w.heap.size g n c k (xs.map (Value.int .u64)) 22 o1 (by omega) (by omega) hb2.size
  have hz : xs.map (Value.int .u64) ++ List.replicate k (Value.int .u64 0) = (xs ++ List.replicate k 0).map (Value.int .u64) := by simp
  rw [hz] at o2
  have hL : Limbs (xs ++ List.replicate k 0) := by
    intro x hx
    rcases List.mem_append.1 hx with h' | h'
    · exact h.limbs x h'
    · rw [List.eq_of_mem_replicate h']; exact ⟨Int.le_refl _, BB_pos⟩
  obtain ⟨co, cc, rfl, hr⟩ := RowAt.owns o2 hL
  have hgb : w.heap.size ≤ g := by
    rcases o1.2 with ⟨e, _⟩ | ⟨g', c', cur, e, hb, _⟩
    · simp at e
    · simp only [Value.slice.injEq, Option.some.injEq, Addr.mk.injEq, and_true, true_and] at e
      omega
  exact ⟨g, c, w2, co, cc, w3, e1, e2, hr, hb2.grown g2 hb2.size (fun j hj => by cases hj; exact hgb)⟩
end Go.Proofs.Ytkphaoooeejohaa
