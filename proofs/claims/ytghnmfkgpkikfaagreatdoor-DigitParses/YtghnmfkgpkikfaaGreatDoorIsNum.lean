/-
  digit.isNumber: digits alone, and none that is 0 ahead of others.
-/
import Derived.Test.YtghnmfkgpkikfaaGreatDoorFromQ
import Derived.Lib.ConvBytes
namespace Go.Proofs.YtghnmfkgpkikfaaGreatDoor
open Go.RowKit Go.Shelf

theorem str_list (s : List UInt8) : (⟨s.toArray⟩ : ByteArray).toList = s := by rw [Lib.toList_data]
theorem str_size (s : List UInt8) : (⟨s.toArray⟩ : ByteArray).size = s.length := by simp [ByteArray.size]

theorem str_get0 {s : List UInt8} {S : ByteArray} (h : S = ⟨s.toArray⟩) (h0 : 0 < S.size) : S[0] = s.getD 0 0 := by
  subst h
  cases s with
  | nil => simp [ByteArray.size] at h0
  | cons c r => rfl

theorem below_bytes (w : World) (e : TypeId) (s : ByteArray) : Below w.heap.size w (Lib.bytesWorld w e s) :=
  ⟨rfl, rfl, rfl, by rw [Lib.bytesWorld_size]; omega, fun k hk => Lib.bytesWorld_at_old w e s k hk⟩

set_option maxRecDepth 100000 in
set_option maxHeartbeats 2000000 in
theorem isNumber_val (s : List UInt8) (w : World) (hlen : s.length ≤ 100000) (b : Bool) (hb : b = true ↔ IsNum s) :
    Calls Tryz.prog 34 #[.string ⟨s.toArray⟩] w fun e w' => e = .returned (.bool b) ∧ Below w.heap.size w w' := by
  obtain ⟨S, hS⟩ : ∃ S : ByteArray, S = ⟨s.toArray⟩ := ⟨_, rfl⟩
  rw [← hS]
  have hsz : S.size = s.length := by rw [hS]; exact str_size s
  have hcv := Lib.run_convert_string_bytes (P := Tryz.prog) w 9 58 5 S Tryz.underlying9 Tryz.underlying58 Tryz.underlying5
  have hcell := Lib.bytesWorld_cell w 5 S
  have hbel := below_bytes w 5 S
  generalize Lib.bytesWorld w 5 S = W1 at hcv hcell hbel
  generalize grownCap w S.size 0 5 = cap at hcv
  have hcell2 : ∀ j, j < s.length → W1.cell? ⟨w.heap.size, j, none⟩ = some (.int .u8 ((s.getD j 0).toNat : Int)) := fun j hj => by
    rw [hcell j (by omega), hS]
  have HC : Hid (∀ j, j < s.length → W1.cell? ⟨w.heap.size, j, none⟩ = some (.int .u8 ((s.getD j 0).toNat : Int))) := hcell2
  have HB : Hid (Below w.heap.size w W1 ∧ (b = true ↔ IsNum s) ∧ S = ⟨s.toArray⟩) := ⟨hbel, hb, hS⟩
  have HZ : Hid (S.size = s.length ∧ s.length ≤ 100000) := ⟨hsz, hlen⟩
  have hz : (S.size : Int) ≤ 100000 := by omega
  clear hcell hcell2 hbel hb hS hsz hlen
  go_enter Tryz.func34, Tryz.ntmps34
  go_wp2_with fail
  go_loopw [8] (fun i wr => ∃ k : Nat, k ≤ S.size ∧ i = .int .i64 k ∧ wr = W1 ∧ Hid (∀ j, j < k → 48 ≤ (s.getD j 0).toNat ∧ (s.getD j 0).toNat ≤ 57)) (fun i _ => S.size - (intOf i).toNat)
  case atStart => exact ⟨0, Nat.zero_le _, rfl, rfl, fun j hj => absurd hj (Nat.not_lt_zero _)⟩
  case round =>
    obtain ⟨k, hk, rfl, rfl, hd⟩ := hrel
    by_cases hlt : k < S.size
    · have hlt' : (k : Int) < (S.size : Int) := by omega
      have hkl : k < s.length := by have := HZ.out.1; omega
      have hck := HC.out k hkl
      obtain ⟨c, hc⟩ : ∃ c : Nat, c = (s.getD k 0).toNat := ⟨_, rfl⟩
      rw [← hc] at hck
      have HCC : Hid (c = (s.getD k 0).toNat ∧ k < s.length) := ⟨hc, hkl⟩
      have hno : ¬ (48 ≤ c ∧ c ≤ 57) → b = false := fun h => by
        cases hbb : b with
        | false => rfl
        | true =>
          have h1 := (HB.out.2.1.1 hbb).1 (s.getD k 0) (by
            rw [List.getD_eq_getElem?_getD, List.getElem?_eq_getElem hkl]
            exact List.getElem_mem _)
          rw [← hc] at h1
          exact absurd h1 h
      clear hc hkl
      by_cases h1 : c < 48
      · have h1' : (c : Int) < 48 := by omega
        have hbf := hno (by omega)
        subst hbf
        clear hno
        go_wp2
        go_ret
        exact ⟨rfl, HB.out.1⟩
      · have h1' : ¬ (c : Int) < 48 := by omega
        by_cases h2 : 57 < c
        · have h2' : (57 : Int) < (c : Int) := by omega
          have hbf := hno (by omega)
          subst hbf
          clear hno
          go_wp2
          go_ret
          exact ⟨rfl, HB.out.1⟩
        · have h2' : ¬ (57 : Int) < (c : Int) := by omega
          clear hno
          go_wp2
          go_roundw
          case rel =>
            refine ⟨k + 1, by omega, by go_num, by first | rfl | trivial, fun j hj => ?_⟩
            by_cases e : j = k
            · rw [e, ← HCC.out.1]; omega
            · exact hd.out j (by omega)
          case measure => simp [intOf]; omega
    · have hks : k = S.size := by omega
      have hall : AllDig s := fun c hc => by
        obtain ⟨j, hj, rfl⟩ := List.getElem_of_mem hc
        have := hd.out j (by have := HZ.out.1; omega)
        rw [List.getD_eq_getElem?_getD, List.getElem?_eq_getElem hj] at this
        exact this
      have HN : Hid (IsNum s ↔ (S.size = 1 ∨ (1 < S.size ∧ s.getD 0 0 ≠ 48))) := by
        have h9 : IsNum s ↔ (S.size = 1 ∨ (1 < S.size ∧ s.getD 0 0 ≠ 48)) := by
          rw [HZ.out.1]
          exact ⟨fun h => h.2, fun h => ⟨hall, h⟩⟩
        exact h9
      clear hall
      subst hks
      by_cases h1 : S.size = 1
      · have h1b : ((S.size : Int) == 1) = true := by rw [h1]; rfl
        have hbt : b = true := HB.out.2.1.2 (HN.out.2 (.inl h1))
        have HH : Hid (S.size = 1) := h1
        clear h1
        subst hbt
        go_wp2
        go_ret
        exact ⟨rfl, HB.out.1⟩
      · have h1b : ((S.size : Int) == 1) = false := by rw [beq_eq_false_iff_ne]; omega
        by_cases h2 : 1 < S.size
        · have h2' : (1 : Int) < (S.size : Int) := by omega
          go_wp2
          go_ret
          refine ⟨ret_bool ?_, HB.out.1⟩
          have e0 := str_get0 HB.out.2.2 (show 0 < S.size by omega)
          rw [e0]
          by_cases hz0 : s.getD 0 0 = 48
          · rw [hz0]
            cases hbb : b with
            | false => rfl
            | true =>
              rcases HN.out.1 (HB.out.2.1.1 hbb) with h | h
              · exact absurd h h1
              · exact absurd hz0 h.2
          · rw [HB.out.2.1.2 (HN.out.2 (.inr ⟨h2, hz0⟩)), bne_iff_ne]
            intro e
            apply hz0
            rw [← UInt8.toNat_inj]
            simp at e ⊢
            omega
        · have h2' : ¬ (1 : Int) < (S.size : Int) := by omega
          have hbf : b = false := by
            cases hbb : b with
            | false => rfl
            | true =>
              rcases HN.out.1 (HB.out.2.1.1 hbb) with h | h
              · exact absurd h h1
              · exact absurd h.1 h2
          subst hbf
          go_wp2
          go_ret
          exact ⟨rfl, HB.out.1⟩

end Go.Proofs.YtghnmfkgpkikfaaGreatDoor
