/-
  digit.Parse, at any text.
-/
import Derived.Test.YtghnmfkgpkikfaaGreatDoorPart
namespace Go.Proofs.YtghnmfkgpkikfaaGreatDoor
open Go.RowKit Go.Shelf

theorem ten19 : (10 : Int) ^ 19 = 10000000000000000000 := by decide

theorem isNum_ex (s : List UInt8) : ∃ b : Bool, (b = true ↔ IsNum s) := by
  by_cases h : IsNum s
  · exact ⟨true, yes_iff h⟩
  · exact ⟨false, no_iff h⟩

theorem part_chunk (s : List UInt8) (i e : Nat) (he : e + 19 * i = s.length) : nv ((s.take e).drop (e - 19)) = chunk (dlist s) i := by
  unfold nv chunk
  rw [dlist_part s e (by omega), show s.length - e = 19 * i by omega]

/-- What Parse tells, out of what From tells of the parts. -/
theorem ParseOut.of {s : List UInt8} {r : List Int} {k : Int} {i : Nat} (hs : IsNum s) (hi : s.length ≤ 19 * i) (h : Out (2 ≤ (10000000000000000000 : Int) ∧ Digs 10000000000000000000 (chunks (dlist s) i)) False (dval 10000000000000000000 (chunks (dlist s) i)) r k) : ParseOut s r k := by
  have hd := chunks_digs (dlist_digs hs.1) i
  have hv := dval_chunks (dlist s) i (by rw [dlist_length]; exact hi)
  rw [ten19] at hd hv
  rw [hv] at h
  exact ⟨fun n => absurd hs n, fun _ hb => h.is_big ⟨by decide, hd⟩ (fun f => f) hb, fun _ hb => h.ok_num ⟨by decide, hd⟩ (fun f => f) hb⟩

set_option maxRecDepth 100000 in
set_option maxHeartbeats 2000000 in
theorem parse_any (s : List UInt8) (w : World) (hlen : s.length ≤ 100000) :
    Calls Tryz.prog 16 #[.string ⟨s.toArray⟩] w fun e w' => ∃ ro m c r k, e = .returned (.tuple #[.slice ro m c, .int .i64 k]) ∧ RowAt w' ro m c r ∧ ParseOut s r k ∧ Below w.heap.size w w' := by
  obtain ⟨i0, hi, hz0, hz1, hz2⟩ := info_parts Tryz.info24
  obtain ⟨b, hb⟩ := isNum_ex s
  have h0 : ∀ W, Calls Tryz.prog 34 #[.string ⟨s.toArray⟩] W _ := fun W => isNumber_val s W hlen b hb
  obtain ⟨S, hS⟩ : ∃ S : ByteArray, S = ⟨s.toArray⟩ := ⟨_, rfl⟩
  rw [← hS] at h0 ⊢
  have hsz : S.size = s.length := by rw [hS]; exact str_size s
  have HN : Hid (∀ (u : Unit) W, Calls Tryz.prog 34 #[.string S] W fun e w' => e = .returned (.bool b) ∧ Below W.heap.size W w') := fun _ => h0
  have HS : Hid (S = ⟨s.toArray⟩ ∧ S.size = s.length ∧ (b = true ↔ IsNum s)) := ⟨hS, hsz, hb⟩
  have bx := Boxed.new w 9 (.string S)
  have hbl : Below w.heap.size w (w.alloc (.cells #[.string S] 9)) := (Below.refl _ w).alloc (Nat.le_refl _) _
  have HB : Hid (Boxed (w.alloc (.cells #[.string S] 9)) w.heap.size 9 (.string S) ∧ Below w.heap.size w (w.alloc (.cells #[.string S] 9))) := ⟨bx, hbl⟩
  have hz : (S.size : Int) ≤ 100000 := by omega
  clear hb h0 hS hsz bx hbl hlen
  go_enter Tryz.func16, Tryz.ntmps16
  go_wp2_with fail
  refine (HN.out () _).mono ?_
  rintro e w1 ⟨rfl, b1⟩
  have hcs := (bx_below HB.out.1 b1).cell
  have H1 : Hid (Boxed w1 w.heap.size 9 (.string S) ∧ Below w.heap.size w w1) := ⟨bx_below HB.out.1 b1, chain HB.out.2 b1⟩
  clear b1 HN
  cases hbb : b with
  | false =>
    have HH : Hid (¬ IsNum s) := fun h => by
      have := HS.out.2.2.2 h
      rw [hbb] at this
      cases this
    clear hbb
    go_wp2
    go_ret2
    exact ⟨none, 0, 0, [], 40, rfl, RowAt.nil _, ⟨fun _ => ⟨rfl, rfl⟩, fun h => absurd h HH.out, fun h => absurd h HH.out⟩, H1.out.2⟩
  | true =>
    have HH : Hid (IsNum s) := HS.out.2.2.1 hbb
    clear hbb
    by_cases h200 : 200 < S.size
    · have h200' : (200 : Int) < (S.size : Int) := by omega
      have HL : Hid (Big ≤ nv s) := HH.out.long (by have := HS.out.2.1; omega)
      go_wp2
      go_ret2
      exact ⟨none, 0, 0, [], 21, rfl, RowAt.nil _, ⟨fun h => absurd HH.out h, fun _ _ => ⟨rfl, rfl⟩, fun _ h => absurd HL.out (Int.not_le.2 h)⟩, H1.out.2⟩
    · have h200' : ¬ (200 : Int) < (S.size : Int) := by omega
      go_wp2_with fail
      go_loopw [5, 6] (fun v e wr => ∃ (i : Nat) (n : Int), e = .int .i64 n ∧ n + 19 * (i : Int) = (S.size : Int) ∧ -19 < n ∧ wr.ownsRow (w.heap.size + 1) 24 1 v i ((chunks (dlist s) i).map (Value.int .u64)) ∧ Hid (Boxed wr w.heap.size 9 (.string S) ∧ Below w.heap.size w wr)) (fun _ e _ => (intOf e).toNat)
      case atStart => exact ⟨0, S.size, rfl, by omega, by omega, World.ownsRow_nil _ _ _ _, H1.out⟩
      case round =>
        obtain ⟨i, n, rfl, hn, hn1, hrow, hr⟩ := hrel
        have HR : Hid (wr.ownsRow (w.heap.size + 1) 24 1 u5 i ((chunks (dlist s) i).map (Value.int .u64))) := hrow
        clear hrow
        by_cases hpos : 0 < n
        · obtain ⟨e, rfl⟩ := Int.eq_ofNat_of_zero_le (by omega : 0 ≤ n)
          have hC : Calls Tryz.prog 35 #[.int .i64 e, .pointer (some ⟨w.heap.size, 0, none⟩)] wr _ := part_any s w.heap.size e wr (by rw [← HS.out.1]; exact hr.out.1.cell) (by have := HS.out.2.1; omega) (by have := HS.out.2.1; omega) HH.out.1
          rw [part_chunk s i e (by have := HS.out.2.1; omega)] at hC
          have HC : Hid (∀ u : Unit, Calls Tryz.prog 35 #[.int .i64 e, .pointer (some ⟨w.heap.size, 0, none⟩)] wr fun r w' => r = .returned (.int .u64 (chunk (dlist s) i)) ∧ Below wr.heap.size wr w') := fun _ => hC
          have he200 : (e : Int) ≤ 200 := by omega
          have hi200 : i ≤ 200 := by omega
          have HE : Hid ((e : Int) + 19 * (i : Int) = (S.size : Int)) := hn
          clear hC hn
          go_wp2_with fail
          refine (HC.out ()).mono ?_
          rintro r w2 ⟨rfl, b2⟩
          have hg2 : wr.grownBy w2 none := ⟨b2.os, b2.tape, b2.output, b2.size, fun k hk _ => b2.block k hk⟩
          have hrow2 : w2.ownsRow (w.heap.size + 1) 24 1 u5 i ((chunks (dlist s) i).map (Value.int .u64)) := HR.out.kept hg2 (by
            rcases HR.out.2 with ⟨rfl, _⟩ | ⟨g, cap, cur, rfl, _⟩
            · exact .inl rfl
            · exact .inr (by simp [Value.ownBlock]))
          have HW : Hid (w2.ownsRow (w.heap.size + 1) 24 1 u5 i ((chunks (dlist s) i).map (Value.int .u64)) ∧ Boxed w2 w.heap.size 9 (.string S) ∧ Below w.heap.size w w2) := ⟨hrow2, bx_below hr.out.1 b2, chain hr.out.2 b2⟩
          clear hrow2 hg2 b2 HC HR
          go_wp2_with (at_builtin; refine wpList_append_own _ rfl (.tmp 20) (.tmp 24) 22 rfl (w.heap.size + 1) 24 i0 (.int .u64 0) 1 8 Tryz.underlying22 hi hz0 hz1 hz2 rfl (by decide) _ i ((chunks (dlist s) i).map (Value.int .u64)) rfl (HW.out.1.alloc _) ⟨w2.heap.size, 0, none⟩ 1 1 [.int .u64 (chunk (dlist s) i)] rfl rfl (cell_one_new _ _ _) (by simp [Value.oneCell']) (by unfold maxLen; omega) (by omega) (by have := HW.out.2.1.lt; simp; omega) ?_)
          intro v' w3 hown hgrow _
          have hB3 : Boxed w3 w.heap.size 9 (.string S) := (HW.out.2.1.alloc _).kept hgrow (by
            rcases HW.out.1.2 with ⟨h, _⟩ | ⟨g, cap, cur, h, hg, _⟩
            · rw [h]; simp [Value.ownBlock]
            · rw [h]; simp [Value.ownBlock]; omega)
          have hb3 : Below w.heap.size w w3 := (HW.out.2.2.alloc HW.out.2.2.size _).grown hgrow (by have := HW.out.2.2.size; simp; omega) (fun k e => by
            rcases HW.out.1.2 with ⟨h, _⟩ | ⟨g, cap, cur, h, hg, _⟩
            · rw [h] at e; simp [Value.ownBlock] at e
            · rw [h] at e; simp [Value.ownBlock] at e; omega)
          have HX : Hid (w3.ownsRow (w.heap.size + 1) 24 1 v' (i + 1) ((chunks (dlist s) (i + 1)).map (Value.int .u64)) ∧ Boxed w3 w.heap.size 9 (.string S) ∧ Below w.heap.size w w3) := ⟨by rw [chunks_succ, List.map_append]; exact hown, hB3, hb3⟩
          clear hown hgrow hB3 hb3 HW
          go_wp2
          go_roundw
          case rel => exact ⟨i + 1, (e : Int) - 19, rfl, by have := HE.out; omega, by omega, HX.out.1, HX.out.2⟩
          case measure => simp [intOf]; omega
        · have hle : S.size ≤ 19 * i := by omega
          have HE : Hid (s.length ≤ 19 * i ∧ i ≤ 200) := ⟨by have := HS.out.2.1; omega, by omega⟩
          obtain ⟨ao, cap, hv, hrow⟩ := RowAt.owns HR.out (fun x hx => by
            have := chunks_digs (dlist_digs HH.out.1) i x hx
            rw [ten19] at this
            unfold BB
            omega)
          subst hv
          have HRR : Hid (RowAt wr ao i cap (chunks (dlist s) i)) := hrow
          clear hrow HR hle hn
          go_wp2_with fail
          refine (from_any ao i cap (chunks (dlist s) i) 10000000000000000000 wr HRR.out (by unfold BB; omega) (by rw [chunks_length]; have := HE.out; omega)).mono ?_
          rintro e w4 ⟨ro, rm, rc, r, k, rfl, g1, g2, g3⟩
          have HF : Hid (RowAt w4 ro rm rc r ∧ ParseOut s r k ∧ Below w.heap.size w w4) := ⟨g1, ParseOut.of HH.out HE.out.1 g2, chain hr.out.2 g3⟩
          clear g1 g2 g3
          go_wp2
          go_ret2
          exact ⟨ro, rm, rc, r, k, rfl, HF.out.1, HF.out.2.1, HF.out.2.2⟩

end Go.Proofs.YtghnmfkgpkikfaaGreatDoor
