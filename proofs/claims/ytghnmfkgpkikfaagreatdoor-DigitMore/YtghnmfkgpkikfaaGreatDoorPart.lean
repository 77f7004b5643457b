/-
  digit.Parse's closure: a part of a text as a number.
-/
import Derived.Test.YtghnmfkgpkikfaaGreatDoorIsNum
namespace Go.Proofs.YtghnmfkgpkikfaaGreatDoor
open Go.RowKit Go.Shelf

theorem nv_snoc (t : List UInt8) (c : UInt8) : nv (t ++ [c]) = (c.toNat : Int) - 48 + 10 * nv t := by
  unfold nv
  rw [dlist_snoc]
  rfl

theorem nv_bd {s : List UInt8} (h : AllDig s) : 0 ≤ nv s ∧ nv s < 10 ^ s.length := by
  have := dval_bd (b := 10) (by decide) (dlist_digs h)
  rw [dlist_length] at this
  exact this

theorem ext_bytes (s : List UInt8) (a e : Nat) : (⟨s.toArray⟩ : ByteArray).extract a e = ⟨((s.take e).drop a).toArray⟩ := by
  apply ByteArray.ext
  apply Array.ext'
  rw [Lib.extract_data]
  simp [List.drop_take]

set_option maxRecDepth 100000 in
set_option maxHeartbeats 2000000 in
theorem part_any (s : List UInt8) (Bs e : Nat) (w : World) (hs : w.cell? ⟨Bs, 0, none⟩ = some (.string ⟨s.toArray⟩)) (he : e ≤ s.length) (hl : s.length ≤ 200) (ha : AllDig s) :
    Calls Tryz.prog 35 #[.int .i64 e, .pointer (some ⟨Bs, 0, none⟩)] w fun r w' => r = .returned (.int .u64 (nv ((s.take e).drop (e - 19)))) ∧ Below w.heap.size w w' := by
  obtain ⟨S, hS⟩ : ∃ S : ByteArray, S = ⟨s.toArray⟩ := ⟨_, rfl⟩
  rw [← hS] at hs
  have hsz : S.size = s.length := by rw [hS]; exact str_size s
  obtain ⟨a, hae⟩ : ∃ a : Nat, a = e - 19 := ⟨_, rfl⟩
  obtain ⟨t, ht⟩ : ∃ t, t = (s.take e).drop (e - 19) := ⟨_, rfl⟩
  rw [← ht]
  have hT : S.extract a e = ⟨t.toArray⟩ := by rw [hS, ext_bytes, ht, hae]
  have htl : t.length = e - a := by rw [ht]; simp; omega
  have hta : AllDig t := fun c hc => ha c (by rw [ht] at hc; exact List.mem_of_mem_take (List.mem_of_mem_drop hc))
  have hmax : (if (e : Int) - 19 < 0 then (0 : Int) else (e : Int) - 19) = (a : Int) := by split <;> omega
  have hmax2 : (if (0 : Int) ≤ (e : Int) - 19 then (e : Int) - 19 else (0 : Int)) = (a : Int) := by split <;> omega
  have hmax3 : max ((e : Int) - 19) 0 = (a : Int) := by omega
  have hmax4 : (if (0 : Int) < (e : Int) - 19 then (e : Int) - 19 else (0 : Int)) = (a : Int) := by split <;> omega
  have hmax5 : (if (e : Int) - 19 ≤ 0 then (0 : Int) else (e : Int) - 19) = (a : Int) := by split <;> omega
  have hcv := Lib.run_convert_string_bytes (P := Tryz.prog) w 9 58 5 (S.extract a e) Tryz.underlying9 Tryz.underlying58 Tryz.underlying5
  have hcell := Lib.bytesWorld_cell w 5 (S.extract a e)
  have hbel := below_bytes w 5 (S.extract a e)
  generalize Lib.bytesWorld w 5 (S.extract a e) = W1 at hcv hcell hbel
  generalize grownCap w (S.extract a e).size 0 5 = cap at hcv
  have hts : (S.extract a e).size = t.length := by rw [hT]; exact str_size t
  have hcell2 : ∀ j, j < t.length → W1.cell? ⟨w.heap.size, j, none⟩ = some (.int .u8 ((t.getD j 0).toNat : Int)) := fun j hj => by
    rw [hcell j (by omega), hT]
  have HC : Hid (∀ j, j < t.length → W1.cell? ⟨w.heap.size, j, none⟩ = some (.int .u8 ((t.getD j 0).toNat : Int))) := hcell2
  have HB : Hid (Below w.heap.size w W1 ∧ AllDig t ∧ t.length ≤ 19) := ⟨hbel, hta, by omega⟩
  have hae2 : a ≤ e := by omega
  have heS : e ≤ S.size := by omega
  have he2 : (e : Int) ≤ 200 := by omega
  clear hcell hcell2 hbel hT hta htl ht hsz hl he ha hS hae
  go_enter Tryz.func35, Tryz.ntmps35
  go_wp2_with fail
  clear hmax hmax2 hmax3 hmax4 hmax5 hcv
  obtain ⟨tl, htl⟩ : ∃ tl, tl = t.length := ⟨_, rfl⟩
  rw [← htl]
  have HTL : Hid (tl = t.length) := htl
  have htl9 : (tl : Int) ≤ 19 := by have := HB.out.2.2; omega
  clear htl hts
  go_loopw [4, 15] (fun d i wr => ∃ (k : Nat) (v : Int), k ≤ tl ∧ d = .int .u64 v ∧ i = .int .i64 k ∧ wr = W1 ∧ Hid (v = nv (t.take k))) (fun _ i _ => tl - (intOf i).toNat)
  case atStart => exact ⟨0, 0, Nat.zero_le _, rfl, rfl, rfl, rfl⟩
  case round =>
    obtain ⟨k, v, hk, rfl, rfl, rfl, hv⟩ := hrel
    by_cases hlt : k < tl
    · have hlt' : (k : Int) < (tl : Int) := by omega
      have hkl : k < t.length := by have := HTL.out; omega
      have hck := HC.out k hkl
      have hm : t.getD k 0 ∈ t := by
        rw [List.getD_eq_getElem?_getD, List.getElem?_eq_getElem hkl]
        exact List.getElem_mem _
      have hcd := HB.out.2.1 _ hm
      have htk : t.take (k + 1) = t.take k ++ [t.getD k 0] := by
        rw [List.take_add_one, List.getElem?_eq_getElem hkl]
        simp [hkl]
      have hnv : nv (t.take (k + 1)) = ((t.getD k 0).toNat : Int) - 48 + 10 * nv (t.take k) := by rw [htk, nv_snoc]
      have hb := nv_bd (s := t.take k) (fun c hc => HB.out.2.1 c (List.mem_of_mem_take hc))
      have hpl : (t.take k).length ≤ 18 := by have := HB.out.2.2; simp; omega
      have hp := bp_le (b := 10) (by decide) hpl
      have h18 : (10 : Int) ^ 18 = 1000000000000000000 := by decide
      rw [← hv.out] at hb hnv
      obtain ⟨c, hc⟩ : ∃ c : Nat, c = (t.getD k 0).toNat := ⟨_, rfl⟩
      rw [← hc] at hck hcd hnv
      have hv0 : 0 ≤ v := hb.1
      have hv1 : v ≤ 999999999999999999 := by omega
      have hc0 : (48 : Int) ≤ (c : Int) := by omega
      have hc1 : (c : Int) ≤ 57 := by omega
      have HN : Hid (10 * v + ((c : Int) - 48) = nv (t.take (k + 1))) := by
        have h9 : 10 * v + ((c : Int) - 48) = nv (t.take (k + 1)) := by omega
        exact h9
      clear hb hnv hm hcd htk hpl hp h18 hc hkl
      go_wp2
      go_roundw
      case rel => exact ⟨k + 1, _, by omega, rfl, by go_num, by first | rfl | trivial, HN.out⟩
      case measure => simp [intOf]; omega
    · have hkt : k = tl := by omega
      have HV : Hid (v = nv t) := by
        have h := hv.out
        rw [hkt, HTL.out, List.take_length] at h
        exact h
      clear hv
      go_wp2
      go_ret
      exact ⟨ret_int HV.out, HB.out.1⟩

end Go.Proofs.YtghnmfkgpkikfaaGreatDoor
