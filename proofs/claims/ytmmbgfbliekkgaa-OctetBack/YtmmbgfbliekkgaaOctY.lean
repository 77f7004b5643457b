/-
  The reference's fixed.
-/
import Derived.Test.YtmmbgfbliekkgaaOctM
namespace Go.Proofs.Ytmmbgfbliekkgaa
open Go.RowKit

theorem ownB_nil (w : World) : OwnB (w.alloc (.cells #[] 5)) w.heap.size w.heap.size 0 0 [] :=
  ⟨rfl, Nat.le_refl _, Nat.le_refl _, by unfold maxLen; omega, _, (0, 0), heap_alloc_new w _, rfl, .inl (Nat.zero_le _), rfl⟩

theorem take_nextY {A : Type} (t : List A) (k : Nat) (h : k < t.length) : t.take (k + 1) = t.take k ++ [t[k]] := by
  rw [List.take_add_one, List.getElem?_eq_getElem h]
  rfl

theorem lowB_getD (n k j : Nat) (h : j < k) : (lowB n k).getD j 0 = UInt8.ofNat (n / 256 ^ (k - (j + 1))) := by
  induction k generalizing j with
  | zero => omega
  | succ k ih =>
    cases j with
    | zero => simp [lowB]
    | succ j =>
      rw [lowB, List.getD_cons_succ, ih j (by omega)]
      rw [show k + 1 - (j + 1 + 1) = k - (j + 1) by omega]

theorem lowB_taken (n k j : Nat) (h : j < k) : (lowB n k).take (j + 1) = (lowB n k).take j ++ [UInt8.ofNat (n / 256 ^ (k - (j + 1)))] := by
  have hl : j < (lowB n k).length := by rw [lowB_length]; exact h
  rw [take_nextY _ j hl]
  have := lowB_getD n k j h
  rw [List.getD_eq_getElem?_getD, List.getElem?_eq_getElem hl] at this
  simp at this
  rw [this]

set_option maxRecDepth 100000 in
set_option maxHeartbeats 4000000 in
theorem fixed_any (X : Nat) (k : Nat) (w : World) (hB : X < 18446744073709551616) (hk : k ≤ 8) :
    Calls Try.prog 34 #[.int .u64 (X : Int), .int .i64 k] w fun e w' => e = .returned (.string (str (lowB X k))) ∧ Below w.heap.size w w' := by
  have hk2 : (k : Int) ≤ 8 := by omega
  have HX : Hid (X < 18446744073709551616) := hB
  clear hB
  go_enter Try.func34, Try.ntmps34
  go_wp2_with fail
  go_loopg [5, 6] k (fun n s5 s6 wr => ∃ (j g cap : Nat), j ≤ k ∧ k - j ≤ n ∧ s6 = .int .i64 ((k : Int) - 1 - (j : Int)) ∧ s5 = .slice (some ⟨g, 0, none⟩) j cap ∧ Hid (OwnB wr w.heap.size g j cap ((lowB X k).take j) ∧ Below w.heap.size w wr))
  case atStart => exact ⟨0, w.heap.size, 0, Nat.zero_le _, by omega, by go_num, rfl, ownB_nil _, (Below.refl _ _).alloc (Nat.le_refl _) _⟩
  case round =>
    obtain ⟨j, g, cap, hj, hjn, rfl, rfl, hO⟩ := hrel
    by_cases h0 : j = k
    · subst h0
      have e0 : (j : Int) - 1 - (j : Int) = -1 := by omega
      rw [e0]
      have hcv := fun src => hO.out.1.string (P := Try.prog) src 9
      have hst := OwnB.string (P := Try.prog) hO.out.1 53 9 (by kernel_rfl) (by kernel_rfl) (by kernel_rfl)
      have HB : Hid (Below w.heap.size w wr ∧ (⟨((lowB X j).take j).toArray⟩ : ByteArray) = str (lowB X j)) := by
        refine ⟨hO.out.2, ?_⟩
        rw [List.take_of_length_le (by rw [lowB_length]; exact Nat.le_refl _)]
        rfl
      rw [HB.out.2] at hst
      clear hO e0 hcv
      go_wp2_with fail
      go_ret
      exact ⟨rfl, HB.out.1⟩
    · obtain ⟨i, hi⟩ : ∃ i, k = i + 1 + j := ⟨k - 1 - j, by omega⟩
      have hij : (k : Int) - 1 - (j : Int) = (i : Int) := by omega
      rw [hij]
      have hi8 : (i : Int) ≤ 7 := by omega
      have i0' : (0 : Int) ≤ (i : Int) := by omega
      have hbv : Value.int .u8 ((X : Int) / 2 ^ (8 * i) % 256) = u8v (UInt8.ofNat (X / 256 ^ (k - (j + 1)))) := by
        have e : (2 : Int) ^ (8 * i) = ((256 ^ i : Nat) : Int) := by rw [Int.pow_mul]; simp
        rw [e, show k - (j + 1) = i by omega]
        unfold u8v
        congr 1
      have HR : Hid (OwnB wr w.heap.size g j cap ((lowB X k).take j) ∧ Below w.heap.size w wr ∧ Value.int .u8 ((X : Int) / 2 ^ (8 * i) % 256) = u8v (UInt8.ofNat (X / 256 ^ (k - (j + 1)))) ∧ (lowB X k).take (j + 1) = (lowB X k).take j ++ [UInt8.ofNat (X / 256 ^ (k - (j + 1)))]) := ⟨hO.out.1, hO.out.2, hbv, lowB_taken X k j (by omega)⟩
      obtain ⟨i0, hi0, hz0, hz1, hz2⟩ := info_parts (by kernel_rfl : (Try.prog.info? 5).map (fun i => (i.zero, i.size, i.bytes)) = some (some (.int .u8 0), 1, 1))
      have hji : ((k : Int) - 1 - (j : Int)) - 1 = (k : Int) - 1 - ((j + 1 : Nat) : Int) := by omega
      have HK : Hid (k = i + 1 + j ∧ _) := ⟨hi, hjn⟩
      have hjk : j ≤ 7 := by omega
      clear hO hij hbv h0 hi hji hj hjn
      go_wp2_with (at_builtin; refine wpList_append_byte _ rfl (.tmp 14) (.tmp 20) 53 rfl w.heap.size i0 (by kernel_rfl) hi0 hz0 hz1 hz2 g j cap _ rfl (HR.out.1.alloc _) ⟨wr.heap.size, 0, none⟩ 1 (UInt8.ofNat (X / 256 ^ (k - (j + 1)))) rfl ((cell_one wr _ 5).trans (congrArg some HR.out.2.2.1)) (by omega) (by have := HR.out.2.1.size; simp; omega) ?_; intro g2 c2 w2 hown2 hgr2 hk2)
      go_roundg (k - (j + 1))
      case measure => have := HK.out; omega
      case rel =>
        refine ⟨j + 1, g2, c2, by have := HK.out; omega, Nat.le_refl _, ?_, rfl, ?_, ?_⟩
        · congr 1
          have := HK.out
          omega
        · rw [HR.out.2.2.2]
          exact hown2
        · exact below_grow (HR.out.2.1.alloc HR.out.2.1.size _) hgr2 HR.out.1.lt.1
end Go.Proofs.Ytmmbgfbliekkgaa
