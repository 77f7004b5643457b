/-
  The reference's Parse of layer 4.
-/
import Derived.BigCall
import Derived.BigGuard
import Derived.Deep.AppendLies
import Derived.Deep.CutBlock
import Derived.Deep.CutRange
import Derived.Deep.DrawnRows
import Derived.Deep.LoopGhost
import Derived.Deep.RegionHeld3
import Derived.Laws.CopyOwn
import Derived.LoopIn
import Derived.LoopNIn
import Derived.Maps.AppendAt
import Derived.OwnWalkIn
import Derived.RangeFuncBound
import Derived.RangeFuncBox
import Derived.RangeFuncCalls
import Derived.RangeFuncLeaves
import Derived.RangeFuncNested
import Derived.TacticsInMore
import Derived.Test.YtnedghhcidohnaaGreatRows
import Derived.WalkKit
import Derived.Test.YtnedghhcidohnaaGreatIsNum
import Derived.Test.YtnedghhcidohnaaGreatJR1
namespace Go.Proofs.YtnedghhcidohnaaGreat
open Go.RowKit

theorem dstr_get {s : List UInt8} {S : ByteArray} (h : S = ⟨s.toArray⟩) (k : Nat) (hk : k < S.size) : S[k] = s.getD k 0 := by
  subst h
  have hk' : k < s.length := by rw [dstr_size] at hk; exact hk
  show s.toArray[k] = _
  simp [hk']

theorem drop_getD (s : List UInt8) (k : Nat) (hk : k < s.length) : s.drop k = s.getD k 0 :: s.drop (k + 1) := by
  rw [List.drop_eq_getElem_cons hk]
  simp [hk]

set_option maxRecDepth 100000 in
set_option maxHeartbeats 2000000 in
theorem rparse_head (s : List UInt8) (w : World) (hlen : s.length ≤ 100000) (hh : ¬ (s.length = 1 ∨ (1 < s.length ∧ s.getD 0 0 ≠ 48))) :
    Calls Tryz.prog 70 #[.string ⟨s.toArray⟩] w fun e w' => e = .returned (.tuple #[.slice none 0 0, .int .i64 40]) ∧ Below w.heap.size w w' := by
  obtain ⟨S, hS⟩ : ∃ S : ByteArray, S = ⟨s.toArray⟩ := ⟨_, rfl⟩
  rw [← hS]
  have hsz : S.size = s.length := by rw [hS]; exact dstr_size s
  have hz : (S.size : Int) ≤ 100000 := by omega
  by_cases h0 : S.size = 0
  · have h0b : ((S.size : Int) == 0) = true := by rw [h0]; rfl
    clear hh hS hsz h0
    go_enter Tryz.func70, Tryz.ntmps70
    go_wp2_with fail
    go_ret2
    exact ⟨rfl, Below.refl _ _⟩
  · have h0b : ((S.size : Int) == 0) = false := by rw [beq_eq_false_iff_ne]; omega
    have h1 : 1 < S.size := by omega
    have h1' : (1 : Int) < (S.size : Int) := by omega
    have h48 : s.getD 0 0 = 48 := by
      rcases Decidable.em (s.getD 0 0 = 48) with e | e
      · exact e
      · exact absurd (.inr ⟨by omega, e⟩) hh
    have h0p : 0 < S.size := Nat.lt_trans Nat.zero_lt_one h1
    have hg : (S[0]'h0p).toNat = 48 := by rw [dstr_get hS 0 h0p, h48]; rfl
    clear hh hS hsz h48
    go_enter Tryz.func70, Tryz.ntmps70
    go_wp2_with fail
    go_ret2
    exact ⟨rfl, Below.refl _ _⟩

set_option maxRecDepth 100000 in
set_option maxHeartbeats 2000000 in
theorem rparse_any (s : List UInt8) (w : World) (hlen : s.length ≤ 100000) :
    Calls Tryz.prog 70 #[.string ⟨s.toArray⟩] w fun e w' => ∃ ro m c r k, e = .returned (.tuple #[.slice ro m c, .int .i64 k]) ∧ RowAt w' ro m c r ∧ ParseOut s r k ∧ Below w.heap.size w w' := by
  by_cases hh : s.length = 1 ∨ (1 < s.length ∧ s.getD 0 0 ≠ 48)
  · obtain ⟨i0, hi, hz0, hz1, hz2⟩ := info_parts Tryz.info56
    obtain ⟨S, hS⟩ : ∃ S : ByteArray, S = ⟨s.toArray⟩ := ⟨_, rfl⟩
    rw [← hS]
    have hsz : S.size = s.length := by rw [hS]; exact dstr_size s
    have hz : (S.size : Int) ≤ 100000 := by omega
    have h0b : ((S.size : Int) == 0) = false := by rw [beq_eq_false_iff_ne]; omega
    have hpos : 0 < S.size := by omega
    have HS : Hid (S = ⟨s.toArray⟩ ∧ S.size = s.length) := ⟨hS, hsz⟩
    have HH : Hid (s.length = 1 ∨ (1 < s.length ∧ s.getD 0 0 ≠ 48)) := hh
    obtain ⟨c0, hc0⟩ : ∃ c0 : Nat, (S[0]'hpos).toNat = c0 := ⟨_, rfl⟩
    have hor : ((1 : Int) < (S.size : Int) ∧ (((c0 : Int) == 48) = false)) ∨ (¬ (1 : Int) < (S.size : Int) ∧ True) := by
      rcases hh with h | h
      · exact .inr ⟨by omega, trivial⟩
      · refine .inl ⟨by omega, ?_⟩
        rw [beq_eq_false_iff_ne]
        intro e
        apply h.2
        rw [← dstr_get hS 0 hpos, ← UInt8.toNat_inj, hc0]
        simp
        omega
    clear hh hS hsz hlen
    rcases hor with ⟨hh1, hh2⟩ | ⟨hh1, hh2⟩
    all_goals
      go_enter Tryz.func70, Tryz.ntmps70
      go_wp2_with fail
      go_loopw [4] (fun i wr => ∃ k : Nat, k ≤ S.size ∧ i = .int .i64 k ∧ wr = w ∧ Hid (∀ j, j < k → 48 ≤ (s.getD j 0).toNat ∧ (s.getD j 0).toNat ≤ 57)) (fun i _ => S.size - (intOf i).toNat)
      case atStart => exact ⟨0, Nat.zero_le _, rfl, rfl, fun j hj => absurd hj (Nat.not_lt_zero _)⟩
      case round =>
        obtain ⟨k, hk, rfl, rfl, hd⟩ := hrel
        by_cases hlt : k < S.size
        · have hlt' : (k : Int) < (S.size : Int) := by omega
          obtain ⟨c, hc⟩ : ∃ c : Nat, (S[k]'hlt).toNat = c := ⟨_, rfl⟩
          have hcs : c = (s.getD k 0).toNat := by rw [← hc, dstr_get HS.out.1 k hlt]
          have HCC : Hid (c = (s.getD k 0).toNat) := hcs
          have hno : ¬ (48 ≤ c ∧ c ≤ 57) → ¬ IsNum s := fun h hn => by
            have h1 := hn.1 (s.getD k 0) (by
              rw [List.getD_eq_getElem?_getD, List.getElem?_eq_getElem (by have := HS.out.2; omega)]
              exact List.getElem_mem _)
            rw [← hcs] at h1
            exact absurd h1 h
          clear hcs
          by_cases h1 : c < 48
          · have h1' : (c : Int) < 48 := by omega
            have HN : Hid (¬ IsNum s) := hno (by omega)
            clear hno
            go_wp2_with fail
            go_ret2
            exact ⟨none, 0, 0, [], 40, rfl, RowAt.nil _, ⟨fun _ => ⟨rfl, rfl⟩, fun h => absurd h HN.out, fun h => absurd h HN.out⟩, Below.refl _ _⟩
          · have h1' : ¬ (c : Int) < 48 := by omega
            by_cases h2 : 57 < c
            · have h2' : (57 : Int) < (c : Int) := by omega
              have HN : Hid (¬ IsNum s) := hno (by omega)
              clear hno
              go_wp2_with fail
              go_ret2
              exact ⟨none, 0, 0, [], 40, rfl, RowAt.nil _, ⟨fun _ => ⟨rfl, rfl⟩, fun h => absurd h HN.out, fun h => absurd h HN.out⟩, Below.refl _ _⟩
            · have h2' : ¬ (57 : Int) < (c : Int) := by omega
              clear hno
              go_wp2_with fail
              go_roundw
              case rel =>
                refine ⟨k + 1, by omega, by go_num, by first | rfl | trivial, fun j hj => ?_⟩
                by_cases e : j = k
                · rw [e, ← HCC.out]; omega
                · exact hd.out j (by omega)
              case measure => simp [intOf]; omega
        · have hlt' : ¬ (k : Int) < (S.size : Int) := by omega
          have hall : AllDig s := fun c hc => by
            obtain ⟨j, hj, rfl⟩ := List.getElem_of_mem hc
            have := hd.out j (by have := HS.out.2; omega)
            rw [List.getD_eq_getElem?_getD, List.getElem?_eq_getElem hj] at this
            exact this
          have HN : Hid (IsNum s) := ⟨hall, HH.out⟩
          clear hall hd
          by_cases h200 : 200 < S.size
          · have h200' : (200 : Int) < (S.size : Int) := by omega
            have HL : Hid (Big ≤ nv s) := HN.out.long (by have := HS.out.2; omega)
            go_wp2_with fail
            go_ret2
            exact ⟨none, 0, 0, [], 21, rfl, RowAt.nil _, ⟨fun h => absurd HN.out h, fun _ _ => ⟨rfl, rfl⟩, fun _ h => absurd HL.out (Int.not_le.2 h)⟩, Below.refl _ _⟩
          · have h200' : ¬ (200 : Int) < (S.size : Int) := by omega
            have HR0 : Hid (OwnR (wr.alloc (Obj.cells #[] 56)) wr.heap.size wr.heap.size 0 0 [] ∧ Below wr.heap.size wr (wr.alloc (Obj.cells #[] 56))) := ⟨OwnR.nil wr, (Below.refl _ _).alloc (Nat.le_refl _) _⟩
            go_wp2_with fail
            go_loopg [5, 6] S.size (fun m s5 s6 wq => ∃ (j g c : Nat) (i : Int), j ≤ S.size ∧ j ≤ m ∧ i = (j : Int) - 1 ∧ s6 = .int .i64 i ∧ s5 = .slice (some ⟨g, 0, none⟩) (S.size - j) c ∧ OwnR wq wr.heap.size g (S.size - j) c (dlist (s.drop j)) ∧ Below wr.heap.size wr wq)
            case atStart =>
              refine ⟨S.size, wr.heap.size, 0, (S.size : Int) - 1, Nat.le_refl _, Nat.le_refl _, rfl, by go_num, by rw [Nat.sub_self], ?_, HR0.out.2⟩
              rw [Nat.sub_self, List.drop_of_length_le (by have := HS.out.2; omega)]
              exact HR0.out.1
            case round =>
              clear HR0
              rename World => wq
              obtain ⟨i1, g, c, i2, hjm, hjg, hij, rfl, rfl, hown, hbel⟩ := hrel
              have HO : Hid (OwnR wq wr.heap.size g (S.size - i1) c (dlist (s.drop i1)) ∧ Below wr.heap.size wr wq) := ⟨hown, hbel⟩
              clear hown hbel
              cases i1 with
              | zero =>
                obtain rfl : i2 = -1 := by omega
                clear hij
                have HRW : Hid (RowAt wq (some ⟨g, 0, none⟩) S.size c (dlist s)) := by
                  have h := HO.out.1
                  rw [Nat.sub_zero, List.drop_zero] at h
                  exact h.row (fun x hx => by have := dlist_digs HN.out.1 x hx; unfold BB; omega)
                rw [Nat.sub_zero]
                go_wp2_with fail
                refine (rfrom_any _ _ _ (dlist s) 10 _ HRW.out (by unfold BB; omega)).mono ?_
                rintro e w4 ⟨ro, rm, rc, r, kk, rfl, g1, g2, g3⟩
                have HF : Hid (RowAt w4 ro rm rc r ∧ ParseOut s r kk ∧ Below wr.heap.size wr w4) := ⟨g1, ⟨fun n => absurd HN.out n, fun _ hb => g2.is_big ⟨by decide, dlist_digs HN.out.1⟩ (fun f => f) hb, fun _ hb => g2.ok_num ⟨by decide, dlist_digs HN.out.1⟩ (fun f => f) hb⟩, chain HO.out.2 g3⟩
                clear g1 g2 g3
                go_wp2_with fail
                go_ret2
                exact ⟨ro, rm, rc, r, kk, rfl, HF.out.1, HF.out.2.1, HF.out.2.2⟩
              | succ j =>
                obtain rfl : i2 = (j : Int) := by omega
                clear hij
                have hjs : j < S.size := by omega
                have hjs' : (j : Int) < (S.size : Int) := by omega
                obtain ⟨d, hdd⟩ : ∃ d : Nat, (S[j]'hjs).toNat = d := ⟨_, rfl⟩
                have hds : d = (s.getD j 0).toNat := by rw [← hdd, dstr_get HS.out.1 j hjs]
                have hdr := drop_getD s j (by have := HS.out.2; omega)
                have hdb := HN.out.1 (s.getD j 0) (by
                  rw [List.getD_eq_getElem?_getD, List.getElem?_eq_getElem (by have := HS.out.2; omega)]
                  exact List.getElem_mem _)
                rw [← hds] at hdb
                have hdl : dlist (s.drop j) = dlist (s.drop (j + 1)) ++ [(d : Int) - 48] := by rw [hdr, dlist_cons, hds]
                have HDL : Hid (dlist (s.drop j) = dlist (s.drop (j + 1)) ++ [(d : Int) - 48]) := hdl
                have hd0 : (48 : Int) ≤ (d : Int) := by omega
                have hd1 : (d : Int) ≤ 57 := by omega
                have hsub : S.size - j = S.size - (j + 1) + 1 := by omega
                have HSB : Hid (S.size - j = S.size - (j + 1) + 1 ∧ S.size - (j + 1) ≤ 200) := ⟨hsub, by omega⟩
                have hgl := HO.out.1.lt
                obtain ⟨m1, hm1⟩ : ∃ m1, m1 = S.size - (j + 1) := ⟨_, rfl⟩
                rw [← hm1] at HO HSB ⊢
                have hm200 : m1 ≤ 200 := HSB.out.2
                clear hds hdr hdb hdl hsub hm1
                go_wp2_with (at_builtin; refine wpList_append_own _ rfl (.tmp 47) (.tmp 53) 42 rfl wr.heap.size 56 i0 (.int .u64 0) 1 8 Tryz.underlying42 hi hz0 hz1 hz2 rfl (by decide) _ m1 ((dlist (s.drop (j + 1))).map (Value.int .u64)) rfl (HO.out.1.alloc _) ⟨wq.heap.size, 0, none⟩ 1 1 [.int .u64 ((d : Int) - 48)] rfl rfl (cell_one_new _ _ _) (by simp [Value.oneCell']) (by unfold maxLen; omega) (by omega) (by have := HO.out.2.size; simp; omega) ?_)
                intro v' w3 hown hgrow _
                obtain ⟨gg, cc, hv⟩ := ownsRow_succ hown
                rw [hv] at hown ⊢
                have H3 : Hid (OwnR w3 wr.heap.size gg (S.size - j) cc (dlist (s.drop j)) ∧ Below wr.heap.size wr w3) := by
                  refine ⟨?_, (HO.out.2.alloc HO.out.2.size _).grown hgrow (by have := HO.out.2.size; simp; omega) (fun k e => by cases e; exact hgl.1)⟩
                  unfold OwnR
                  rw [HSB.out.1, HDL.out, List.map_append]
                  exact hown
                clear hown hgrow hv
                have hm2 : m1 + 1 = S.size - j := HSB.out.1.symm
                have HM2 : Hid (m1 + 1 = S.size - j) := hm2
                clear hm2
                go_wp2_with fail
                go_roundg j
                case measure => omega
                case rel => exact ⟨j, gg, cc, (j : Int) - 1, by omega, Nat.le_refl _, rfl, by go_num, by rw [HM2.out], H3.out.1, H3.out.2⟩
  · exact (rparse_head s w hlen hh).mono fun e w' ⟨h1, h2⟩ => ⟨none, 0, 0, [], 40, h1, RowAt.nil _, ⟨fun _ => ⟨rfl, rfl⟩, fun h => absurd h.2 hh, fun h => absurd h.2 hh⟩, h2⟩

end Go.Proofs.YtnedghhcidohnaaGreat
