/-
  The reference's Same: whether two rows are the same.
-/
import Derived.Test.YtnkjfandknndkaaBase
namespace Go.Proofs.Ytnkjfandknndkaa
open Go.RowKit

theorem Eqw.refl (w : World) : Eqw w w := ⟨rfl, rfl, rfl, rfl⟩
theorem Eqw.cell {w' w : World} (h : Eqw w' w) (a : Addr) : w'.cell? a = w.cell? a := by simp [World.cell?, h.heap]
theorem Eqw.drewN {w' w : World} (h : Eqw w' w) (n : Nat) : Eqw (w'.drewN n) w := ⟨h.heap, h.os, h.output, h.tape⟩
theorem Eqw.drew {w' w : World} (h : Eqw w' w) : Eqw w'.drew w := ⟨h.heap, h.os, h.output, h.tape⟩

theorem ret_bool {a b : Bool} (h : a = b) : Ending.returned (.bool a) = .returned (.bool b) := by rw [h]

theorem eq_of_getD {xs ys : List Int} (h : xs.length = ys.length) (hk : ∀ j, j < xs.length → xs.getD j 0 = ys.getD j 0) : xs = ys := by
  apply List.ext_getElem h
  intro i h1 h2
  have := hk i h1
  simpa [h1, h2] using this

set_option maxHeartbeats 400000 in
theorem same_any (ao bo : Option Addr) (na ca nb cb : Nat) (xs ys : List Int) (w : World) (ha : RowAt w ao na ca xs) (hb : RowAt w bo nb cb ys) :
    Calls Try.prog 66 #[.slice ao na ca, .slice bo nb cb] w fun e w' => e = .returned (.bool (decide (xs = ys))) ∧ Eqw w' w := by
  have hna : na ≤ 9223372036854775807 := by have := ha.fits; have := ha.most; unfold maxLen at this; omega
  have hnb : nb ≤ 9223372036854775807 := by have := hb.fits; have := hb.most; unfold maxLen at this; omega
  have hla := ha.len
  have hlb := hb.len
  have HLA : Hid _ := hla
  have HLB : Hid _ := hlb
  clear hla hlb
  by_cases hne : na = nb
  · subst hne
    by_cases h0 : na = 0
    · subst h0
      go_enter Try.func66, Try.ntmps66
      go_wp2
      refine wp_loop_rounds 1 ?_
      rw [rounds_succ]
      go_wp2
      go_ret
      exact ⟨ret_bool (by rw [List.length_eq_zero_iff.1 HLA.out, List.length_eq_zero_iff.1 HLB.out]; simp), Eqw.refl _⟩
    · obtain ⟨b1, o1, rfl, l1, c1⟩ := ha.cells (by intro e; have := HLA.out; rw [e] at this; simp at this; omega)
      obtain ⟨b2, o2, rfl, l2, c2⟩ := hb.cells (by intro e; have := HLB.out; rw [e] at this; simp at this; omega)
      have C1 : Hid _ := c1
      have C2 : Hid _ := c2
      clear c1 c2 ha hb
      go_enter Try.func66, Try.ntmps66
      go_wp2
      go_loopw [5] (fun i wr => ∃ k : Nat, k ≤ na ∧ i = .int .i64 k ∧ Eqw wr w ∧ ∀ j, j < k → xs.getD j 0 = ys.getD j 0) (fun i _ => na - (intOf i).toNat)
      case atStart => exact ⟨0, Nat.zero_le _, rfl, Eqw.refl _, fun j hj => absurd hj (Nat.not_lt_zero _)⟩
      case round =>
        obtain ⟨k, hk, rfl, hq, hz⟩ := hrel
        have HZ : Hid (∀ j, j < k → xs.getD j 0 = ys.getD j 0) := hz
        clear hz
        by_cases hlt : k < na
        · have hlt' : (k : Int) < (na : Int) := by omega
          obtain ⟨x, hx⟩ : ∃ x, x = xs.getD k 0 := ⟨_, rfl⟩
          obtain ⟨y, hy⟩ : ∃ y, y = ys.getD k 0 := ⟨_, rfl⟩
          have hcx : wr.cell? ⟨b1, o1 + k, none⟩ = some (.int .u64 x) := by rw [hq.cell, hx]; exact C1.out k (by have := HLA.out; omega)
          have hcy : wr.cell? ⟨b2, o2 + k, none⟩ = some (.int .u64 y) := by rw [hq.cell, hy]; exact C2.out k (by have := HLB.out; omega)
          have HX : Hid _ := hx
          have HY : Hid _ := hy
          have HQ : Hid _ := hq
          clear hx hy hq
          by_cases hxy : x = y
          · have hb0 : (x != y) = false := by simp [hxy]
            have HXY : Hid _ := hxy
            clear hxy
            go_wp2
            go_quiet (fail)
            go_wp2
            go_roundw
            case rel =>
              refine ⟨k + 1, by omega, by go_num, HQ.out.drewN _, fun j hj => ?_⟩
              by_cases e : j = k
              · rw [e, ← HX.out, ← HY.out]; exact HXY.out
              · exact HZ.out j (by omega)
            case measure => simp [intOf]; omega
          · have hb0 : (x != y) = true := by simp [hxy]
            go_wp2
            go_quiet (fail)
            go_wp2
            go_ret
            refine ⟨ret_bool ?_, HQ.out.drewN _⟩
            have : xs ≠ ys := fun e => hxy (by rw [HX.out, HY.out, e])
            simp [this]
        · go_wp2
          go_ret
          refine ⟨ret_bool ?_, hq⟩
          have : xs = ys := eq_of_getD (HLA.out.trans HLB.out.symm) (fun j hj => HZ.out j (by have := HLA.out; omega))
          simp [this]
  · have hb1 : ((na : Int) != (nb : Int)) = true := by rw [bne_iff_ne]; omega
    go_enter Try.func66, Try.ntmps66
    go_wp2
    go_ret
    refine ⟨ret_bool ?_, Eqw.refl _⟩
    have : xs ≠ ys := fun e => hne (by rw [← HLA.out, ← HLB.out, e])
    simp [this]

theorem same_yes (ao bo : Option Addr) (na ca nb cb : Nat) (xs ys : List Int) (w : World) (ha : RowAt w ao na ca xs) (hb : RowAt w bo nb cb ys) (h : xs = ys) :
    Calls Try.prog 66 #[.slice ao na ca, .slice bo nb cb] w fun e w' => e = .returned (.bool true) ∧ Below w.heap.size w w' :=
  (same_any ao bo na ca nb cb xs ys w ha hb).mono fun _ _ hh => ⟨hh.1.trans (ret_bool (by simp [h])), hh.2.below (Below.refl _ _)⟩

theorem same_no (ao bo : Option Addr) (na ca nb cb : Nat) (xs ys : List Int) (w : World) (ha : RowAt w ao na ca xs) (hb : RowAt w bo nb cb ys) (h : xs ≠ ys) :
    Calls Try.prog 66 #[.slice ao na ca, .slice bo nb cb] w fun e w' => e = .returned (.bool false) ∧ Below w.heap.size w w' :=
  (same_any ao bo na ca nb cb xs ys w ha hb).mono fun _ _ hh => ⟨hh.1.trans (ret_bool (by simp [h])), hh.2.below (Below.refl _ _)⟩

theorem RowAt.on {w w' w'' : World} {ao : Option Addr} {n cap : Nat} {xs : List Int} (h : RowAt w ao n cap xs) (hb : Below w.heap.size w w') (hb' : Below w'.heap.size w' w'') : RowAt w'' ao n cap xs := (h.below hb).below hb'
theorem chain {w w' w'' : World} (hb : Below w.heap.size w w') (hb' : Below w'.heap.size w' w'') : Below w.heap.size w w'' := hb.trans (hb'.mono hb.size)
end Go.Proofs.Ytnkjfandknndkaa
