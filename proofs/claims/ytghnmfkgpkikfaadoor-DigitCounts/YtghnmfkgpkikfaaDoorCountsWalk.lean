/-
  DigitCounts, walked.
-/
import Derived.Test.YtghnmfkgpkikfaaDoorShown
import Derived.OpenShut
namespace Go.Proofs.YtghnmfkgpkikfaaDoor
open Go.RowKit

theorem trim_drop {l : List Int} (h : Trim l) (k : Nat) : Trim (l.drop k) := by
  intro n hn
  simp at hn
  have := h (k + n) (by omega)
  simpa [List.getD_eq_getElem?_getD, List.getElem?_drop] using this

/-- Digit by digit: what is left, its lowest digit, and the rest. -/
theorem dig_step {b n : Int} {l : List Int} (hb : 2 ≤ b) (h : Dig b l n) (k : Nat) (hk : k < l.length) :
    0 < dval b (l.drop k) ∧ l.getD k 0 = dval b (l.drop k) % b ∧ dval b (l.drop (k + 1)) = dval b (l.drop k) / b := by
  have e := dval_drop b l k hk
  have hm : l.getD k 0 ∈ l := by
    rw [List.getD_eq_getElem?_getD, List.getElem?_eq_getElem hk]
    exact List.getElem_mem _
  have hd := h.digs _ hm
  have hg : ∀ j, Digs b (l.drop j) := fun j d hd => h.digs d (List.mem_of_mem_drop hd)
  have h0 := (dval_bd (by omega : 0 < b) (hg k)).1
  have hne : dval b (l.drop k) ≠ 0 := fun e0 => by
    have := congrArg List.length (dig_zero (by omega) (hg k) (trim_drop h.trim k) e0)
    simp at this
    omega
  refine ⟨by omega, ?_, ?_⟩
  · rw [e, Int.add_mul_emod_self_left, Int.emod_eq_of_lt hd.1 hd.2]
  · rw [e, Int.add_mul_ediv_left _ _ (by omega), Int.ediv_eq_zero_of_lt hd.1 hd.2, Int.zero_add]

set_option maxRecDepth 100000 in
set_option maxHeartbeats 4000000 in
theorem counts_walk (a0 a1 : Int) (w : World) (w0 : (Lit.int .u64 a0).wf = true) (w1 : (Lit.int .u8 a1).wf = true) (ht : Tab w) :
    Calls Tryd.prog 3 #[.int .u64 a0, .int .u8 a1] w fun e w' => e = .returned (.bool true) ∧ Below w.heap.size w w' := by
  obtain ⟨p0, p1⟩ := bounds_u64 w0
  obtain ⟨q0, q1⟩ := bounds_u8 w1
  clear w0 w1
  have HT : Hid (Tab w) := ht
  have hB : BB = 18446744073709551616 := rfl
  have HB : Hid (a0 < BB ∧ a1 + 2 < BB ∧ 0 ≤ a0) := ⟨by omega, by omega, p0⟩
  clear ht hB
  go_enter Tryd.func3, Tryd.ntmps3
  go_wp2_with fail
  refine (rof_any a0 _ HB.out.2.2 HB.out.1).mono ?_
  rintro e w1 ⟨ro, rn, rc, r, rfl, g1, g2, g3, g4⟩
  have G : Hid (RowAt w1 ro rn rc r ∧ Num r a0 ∧ Below w.heap.size w w1) := ⟨g1, g2, g4⟩
  clear g1 g2 g3 g4
  go_wp2_with fail
  refine (base_any _ _ _ r (a1 + 2) _ G.out.1 HB.out.2.1).mono ?_
  rintro e w2 ⟨lo, ln, lc, l, rfl, g1, g2, g3⟩
  have hdig := g2.fine (num_may1 G.out.2.1 HB.out.1) (by omega)
  rw [G.out.2.1.val] at hdig
  have hll := g1.len
  have L : Hid (RowAt w2 lo ln lc l ∧ Dig (a1 + 2) l a0 ∧ Below w.heap.size w w2) := ⟨g1, hdig, chain G.out.2.2 g3⟩
  have hlm : ln ≤ 9223372036854775807 := by have := g1.fits; have := g1.most; unfold maxLen at this; omega
  clear g1 g2 g3 hdig
  have HL : Hid (l.length = ln) := hll
  clear hll
  obtain ⟨base, hbase⟩ : ∃ base, base = a1 + 2 := ⟨_, rfl⟩
  rw [← hbase] at L ⊢
  have hb2 : 2 ≤ base := by omega
  have hbn : base ≠ 0 := by omega
  have hb9 : base ≤ 18446744073709551615 := by omega
  have HBS : Hid (base = a1 + 2) := hbase
  clear hbase
  go_wp2_with fail
  go_loopg [7, 8] (ln) (fun m s7 s8 wr => ∃ (x : Int) (k : Nat), s7 = .int .u64 x ∧ s8 = .int .i64 k ∧ k ≤ ln ∧ ln - k ≤ m ∧ x = dval base (l.drop k) ∧ Below w.heap.size w wr ∧ RowAt wr lo ln lc l)
  case atStart => exact ⟨a0, 0, rfl, rfl, Nat.zero_le _, Nat.le_refl _, L.out.2.1.val.symm, L.out.2.2, L.out.1⟩
  case round =>
    obtain ⟨x, k, rfl, rfl, hk, hm, hx, hbel, hrow⟩ := hrel
    have HI : Hid (True ∧ x = dval base (l.drop k) ∧ Below w.heap.size w wr ∧ RowAt wr lo ln lc l) := ⟨trivial, hx, hbel, hrow⟩
    clear hx hbel hrow
    by_cases hlt : k < ln
    · have hlt' : (k : Int) < (ln : Int) := by omega
      have hkl : k < l.length := by rw [HL.out]; exact hlt
      obtain ⟨d1, d2, d3⟩ := dig_step hb2 L.out.2.1 k hkl
      rw [← HI.out.2.1] at d1 d2 d3
      obtain ⟨b, off, rfl, hlb, hc⟩ := HI.out.2.2.2.cells (by intro e; rw [e] at hkl; simp at hkl)
      have hck := hc k hkl
      obtain ⟨y, hy⟩ : ∃ y, y = l.getD k 0 := ⟨_, rfl⟩
      rw [← hy] at hck d2
      have hxn : (x == 0) = false := by rw [beq_eq_false_iff_ne]; omega
      have hx0 : 0 ≤ x := by omega
      have ht : x.tmod base = y := by rw [Int.tmod_eq_emod_of_nonneg hx0, d2]
      have htd : x.tdiv base = x / base := Int.tdiv_eq_ediv_of_nonneg hx0
      have hq0 : 0 ≤ x / base := Int.ediv_nonneg hx0 (by omega)
      have hxl : x ≤ 18446744073709551615 := by
        have h1 := dval_drop_le (b := base) (by omega) L.out.2.1.digs k
        rw [L.out.2.1.val, ← HI.out.2.1] at h1
        have := HB.out.1
        unfold BB at this
        omega
      have hq1 : x / base ≤ 18446744073709551615 := by have := Int.ediv_le_self base hx0; omega
      have hy0 : 0 ≤ y := by rw [d2]; exact Int.emod_nonneg _ hbn
      have hy1 : y ≤ 18446744073709551615 := by have := Int.emod_lt_of_pos x (show 0 < base by omega); omega
      have hyy : (y != y) = false := by simp
      have HD : Hid (dval base (l.drop (k + 1)) = x / base) := d3
      clear d1 d2 d3 hy hc
      go_wp2_with fail
      go_quiet (fail)
      go_wp2_with fail
      go_roundg (ln - (k + 1))
      case measure => omega
      case rel => exact ⟨x / base, k + 1, rfl, by go_num, by omega, Nat.le_refl _, HD.out.symm, below_drewN HI.out.2.2.1 _, HI.out.2.2.2.drewN _⟩
    · have hkn : k = ln := by omega
      have hx0 : x = 0 := by
        rw [HI.out.2.1, List.drop_of_length_le (by rw [HL.out]; omega)]
        rfl
      subst hx0
      go_wp2_with fail
      refine (shown_any _ (HT.out.below HI.out.2.2.1)).mono ?_
      rintro e w3 ⟨rfl, b3⟩
      have HF : Hid (Below w.heap.size w w3) := chain HI.out.2.2.1 b3
      clear b3
      go_wp2
      go_ret
      exact ⟨rfl, HF.out⟩

end Go.Proofs.YtghnmfkgpkikfaaDoor
