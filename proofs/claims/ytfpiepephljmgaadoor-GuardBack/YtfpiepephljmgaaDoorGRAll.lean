/-
  The reference's All of layer 7; rows of frames.
-/
import Derived.Test.YtfpiepephljmgaaDoorGRFst
import Derived.Test.YtfpiepephljmgaaDoorGAll
import Derived.OwnWalk
namespace Go.Proofs.YtfpiepephljmgaaDoor
open Go.RowKit

theorem ownsRow_below {W W' : World} {n b : Nat} {e : TypeId} {size k : Nat} {v : Value} {xs : List Value} (h : W.ownsRow b e size v k xs) (hb : Below n W W') (hn : W.heap.size ≤ n) : W'.ownsRow b e size v k xs := by
  refine ⟨h.1, ?_⟩
  rcases h.2 with hn | ⟨g, cap, cur, hv, hg, hr, hx⟩
  · exact .inl hn
  · exact .inr ⟨g, cap, cur, hv, hg, (hb.block g (Nat.lt_of_lt_of_le (Array.getElem?_eq_some_iff.1 hr).1 hn)).trans hr, hx⟩

theorem ret_two {v : Value} {a b : Int} (h : a = b) : Ending.returned (.tuple #[v, .int .i64 a]) = .returned (.tuple #[v, .int .i64 b]) := by rw [h]

theorem cells_new' (W : World) (B : Nat) (a b c : Value) (t : TypeId) (hB : W.heap.size = B) : ∀ j u, [a, b, c][j]? = some u → (W.alloc (.cells #[a, b, c] t)).cell? ((⟨B, 0, none⟩ : Addr).add j) = some u := by
  subst hB
  exact cells_new W a b c t

theorem box_grown {W w2 : World} {B : Nat} {x y : Int} {T : ByteArray} {tmp : Obj} {row : Option Nat} (h : RBox W B x y T) (hg : (W.alloc tmp).grownBy w2 row) (hne : some B ≠ row) : RBox w2 B x y T :=
  (hg.block B (by simp; exact Nat.lt_succ_of_lt h.lt) hne).trans (h.alloc tmp)

/-- What the reference's All holds. -/
structure RAllIs (w : World) (s : List UInt8) (ep : Nat) (pre : List (Frm × List UInt8)) (left : List UInt8) (A : Nat) (v : Value) (wr : World) : Prop where
  sofar : pre ++ allL (pre.length + 1) ep left = allL 1 ep s
  part : left = s.drop A
  sum : A + left.length = s.length
  last : leftL s pre = left
  row : wr.ownsRow w.heap.size 30 3 v pre.length (flatC (pre.map Prod.fst))
  bel : Below w.heap.size w wr
  isSome : ∃ g cap, v = .slice (some ⟨g, 0, none⟩) pre.length cap

set_option maxRecDepth 100000 in
set_option maxHeartbeats 4000000 in
theorem rall_any (s : List UInt8) (ep : Nat) (w : World) (hep : ep < 18446744073709551616) (hl : s.length ≤ 100000) :
    Calls Tryd.prog 16 #[.string (str s), .int .u64 ep] w fun e W' =>
      ∃ g cap, e = .returned (.tuple #[.slice (some ⟨g, 0, none⟩) (allL 1 ep s).length cap, .int .i64 (((s.length : Int) - ((leftL s (allL 1 ep s)).length : Int)))]) ∧ W'.ownsRow w.heap.size 30 3 (.slice (some ⟨g, 0, none⟩) (allL 1 ep s).length cap) (allL 1 ep s).length (flatC ((allL 1 ep s).map Prod.fst)) ∧ Below w.heap.size w W' := by
  have hsz := str_size s
  have HT : Hid (ep < 18446744073709551616 ∧ s.length ≤ 100000) := ⟨hep, hl⟩
  have hl1 : (s.length : Int) ≤ 100000 := by omega
  obtain ⟨i0, hi, hz0, hz1, hz2⟩ := info_parts (show (Tryd.prog.info? 30).map (fun i => (i.zero, i.size, i.bytes)) = some (some (.agg #[.int .u64 0, .int .u64 0, .string ⟨#[]⟩]), 3, 32) by kernel_rfl)
  clear hep hl
  go_enter Tryd.func16, Tryd.ntmps16
  go_wp2_with fail
  go_loopw [6, 7] (fun s6 s7 wr => ∃ (pre : List (Frm × List UInt8)) (left : List UInt8) (A : Nat), s7 = .int .i64 (A : Int) ∧ Hid (RAllIs w s ep pre left A s6 wr)) (fun _ s7 _ => s.length - (intOf s7).toNat)
  case atStart =>
    exact ⟨[], s, 0, rfl, ⟨rfl, rfl, by omega, rfl, World.ownsRow_made w _ 0 (Nat.le_refl _) (by unfold maxLen; omega) rfl, (Below.refl _ _).alloc (Nat.le_refl _) _, _, _, rfl⟩⟩
  case round =>
    rename_i s6
    obtain ⟨pre, left, A, rfl, hrel⟩ := hrel
    obtain ⟨g, cap, rfl⟩ := hrel.out.isSome
    have hle := hrel.out.sum
    have a1 : (A : Int) ≤ (s.length : Int) := by omega
    have e1 := extE s A
    rw [← hrel.out.part] at e1
    have hq : (pre.length : Int) ≤ 200000 := by
      have h2 := congrArg List.length hrel.out.sofar
      have h3 := allL_len s.length 1 ep s
      have h4 := HT.out.2
      rw [List.length_append, allL, allL] at h2
      omega
    have HL : Hid (left.length ≤ 100000) := by
      have : left.length ≤ 100000 := by have := HT.out.2; omega
      exact this
    have HS : Hid (A + left.length = s.length) := hle
    clear hle
    go_wp2_with fail
    refine (rfirst_any left wr HL.out).mono ?_
    rintro e w1 ⟨rfl, b1⟩
    cases hf : firstL left with
    | error k =>
      have hk1 : ¬ k = 0 := (first_err left k hf).1
      have HE : Hid (pre = allL 1 ep s ∧ (w1.alloc (.cells #[.int .u64 0, .int .u64 0, .string (str [])] 30)).ownsRow w.heap.size 30 3 (.slice (some ⟨g, 0, none⟩) pre.length cap) pre.length (flatC (pre.map Prod.fst)) ∧ Below w.heap.size w (w1.alloc (.cells #[.int .u64 0, .int .u64 0, .string (str [])] 30)) ∧ (A : Int) = (s.length : Int) - (left.length : Int) ∧ leftL s pre = left) := by
        have h1 := hrel.out.sofar
        rw [allL_err hf, List.append_nil] at h1
        have b2 : Below wr.heap.size wr (w1.alloc (.cells #[.int .u64 0, .int .u64 0, .string (str [])] 30)) := b1.alloc b1.size _
        exact ⟨h1, ownsRow_below hrel.out.row b2 (Nat.le_refl _), chain hrel.out.bel b2, by have := HS.out; omega, hrel.out.last⟩
      simp only [told]
      clear hf hrel b1
      go_wp2
      go_ret2
      refine ⟨g, cap, ?_⟩
      rw [← HE.out.1, HE.out.2.2.2.2]
      exact ⟨ret_two HE.out.2.2.2.1, HE.out.2.1, HE.out.2.2.1⟩
    | ok fr =>
      obtain ⟨⟨x, y, t⟩, r⟩ := fr
      have b2 : Below wr.heap.size wr (w1.alloc (.cells #[.int .u64 (x : Int), .int .u64 (y : Int), .string (str t)] 30)) := b1.alloc b1.size _
      have hbx := RBox.new w1 (x : Int) (y : Int) (str t)
      have c0 := hbx.c0
      have c1 := hbx.c1
      have c2 := hbx.c2
      have hq2 : IntKind.u64.wrap (pre.length : Int) = (pre.length : Int) := by rw [IntKind.wrap_u64]; omega
      have hq3 : IntKind.u64.wrap ((pre.length : Int) + 1) = (pre.length : Int) + 1 := by rw [IntKind.wrap_u64]; omega
      have hrow : (w1.alloc (.cells #[.int .u64 (x : Int), .int .u64 (y : Int), .string (str t)] 30)).ownsRow w.heap.size 30 3 (.slice (some ⟨g, 0, none⟩) pre.length cap) pre.length (flatC (pre.map Prod.fst)) := ownsRow_below hrel.out.row b2 (Nat.le_refl _)
      have hcb := chain hrel.out.bel b2
      simp only [told, Frm.v]
      by_cases hey : ep = y
      · obtain ⟨q, hqq⟩ : ∃ q, q = pre.length + 1 := ⟨_, rfl⟩
        have hqi : (pre.length : Int) + 1 = (q : Int) := by omega
        by_cases hqx : q = x
        · subst hey
          subst hqx
          have hall := allL_yes (q := q) (e := ep) hf rfl rfl
          have hfl := first_less hf
          have ht : (t.length : Int) ≤ 100000 := by have := HS.out; have := HT.out.2; simp only at hfl; omega
          have htz := str_size t
          have HD : Hid (RAllIs w s ep pre left A (.slice (some ⟨g, 0, none⟩) pre.length cap) wr ∧ allL q ep left = (⟨q, ep, t⟩, r) :: allL (q + 1) ep r ∧ r.length + 24 + t.length = left.length ∧ r = left.drop (24 + t.length) ∧ q = pre.length + 1) := by
            refine ⟨hrel.out, hall, hfl, ?_, hqq⟩
            have h1 := (first_one left _ _ hf).1
            rw [← h1]
            exact (dr (putF_length ⟨q, ep, t⟩)).symm
          have hcat : (A : Int) + 24 + (t.length : Int) ≤ 300000 := by have := HS.out; omega
          have HG : Hid (RBox (w1.alloc (.cells #[.int .u64 (q : Int), .int .u64 (ep : Int), .string (str t)] 30)) w1.heap.size q ep (str t) ∧ w.heap.size ≤ g ∧ g < w1.heap.size) := ⟨hbx, (hrel.out.row.lt g rfl).1, Nat.lt_of_lt_of_le (hrel.out.row.lt g rfl).2 b1.size⟩
          have HROW : Hid (_ ∧ Below w.heap.size w (w1.alloc (.cells #[.int .u64 (q : Int), .int .u64 (ep : Int), .string (str t)] 30))) := ⟨hrow, hcb⟩
          clear hrel hf hall hfl b1 b2 hbx hqq hrow hcb
          go_wp2_with (at_builtin; refine wpList_append_own _ rfl (.tmp 39) (.tmp 41) 38 rfl w.heap.size 30 i0 (.agg #[.int .u64 0, .int .u64 0, .string ⟨#[]⟩]) 3 32 (by kernel_rfl) hi hz0 hz1 hz2 rfl (by decide) _ _ _ rfl (HROW.out.1.alloc _) ⟨w1.heap.size + 1, 0, none⟩ 1 1 [.int .u64 (q : Int), .int .u64 (ep : Int), .string (str t)] rfl rfl (cells_new' _ _ _ _ _ _ (by simp)) (by simp [Value.oneCell']) (by unfold maxLen; omega) (by omega) (by have := HROW.out.2.size; simp at this ⊢; omega) ?_; intro v' w2 hown' hgrow hnil; obtain ⟨g', cap', rfl⟩ := ownsRow_succ hown'; have hbx2 := box_grown HG.out.1 hgrow (fun e => by have h9 : w1.heap.size = g := Option.some.inj e; have := HG.out.2.2; omega); have d2 := hbx2.c2; have HN : Hid (w2.ownsRow w.heap.size 30 3 (.slice (some ⟨g', 0, none⟩) (pre.length + 1) cap') (pre.length + 1) (flatC (pre.map Prod.fst) ++ (⟨q, ep, t⟩ : Frm).cs) ∧ Below w.heap.size w w2) := ⟨hown', (HROW.out.2.alloc HROW.out.2.size _).grown hgrow (by have := HROW.out.2.size; simp at this ⊢; omega) (fun k e => by have h9 : g = k := Option.some.inj e; have := HG.out.2.1; omega)⟩; clear hown' hgrow hnil hbx2)
          go_roundw
          case rel =>
            refine ⟨pre ++ [(⟨q, ep, t⟩, r)], r, A + 24 + t.length, by go_num, ?_⟩
            have h1 := HD.out.1
            refine ⟨?_, ?_, ?_, leftL_snoc _ _ _, ?_, HN.out.2, g', cap', by simp⟩
            · have h2 := h1.sofar
              rw [← HD.out.2.2.2.2, HD.out.2.1] at h2
              rw [← h2, List.length_append, List.length_singleton, ← HD.out.2.2.2.2]
              simp
            · rw [HD.out.2.2.2.1, h1.part, List.drop_drop, Nat.add_assoc]
            · have h2 := h1.sum
              have h3 := HD.out.2.2.1
              omega
            · rw [List.map_append, List.map_cons, List.map_nil, flatC_snoc, List.length_append]
              exact HN.out.1
          case measure =>
            have h2 := HD.out.1.sum
            have h3 := HD.out.2.2.1
            simp [intOf]
            omega
        · subst hey
          have e2 : ¬ (x : Int) = (q : Int) := by omega
          have HE : Hid (pre = allL 1 ep s ∧ (w1.alloc (.cells #[.int .u64 (x : Int), .int .u64 (ep : Int), .string (str t)] 30)).ownsRow w.heap.size 30 3 (.slice (some ⟨g, 0, none⟩) pre.length cap) pre.length (flatC (pre.map Prod.fst)) ∧ Below w.heap.size w (w1.alloc (.cells #[.int .u64 (x : Int), .int .u64 (ep : Int), .string (str t)] 30)) ∧ (A : Int) = (s.length : Int) - (left.length : Int) ∧ leftL s pre = left) := by
            have h1 := hrel.out.sofar
            rw [allL_no hf (fun h => hqx (by rw [hqq]; exact h.2.symm)), List.append_nil] at h1
            exact ⟨h1, hrow, hcb, by have := HS.out; omega, hrel.out.last⟩
          clear hf hrel b1 b2 hbx hqx hrow hcb hqq
          go_wp2
          go_ret2
          refine ⟨g, cap, ?_⟩
          rw [← HE.out.1, HE.out.2.2.2.2]
          exact ⟨ret_two HE.out.2.2.2.1, HE.out.2.1, HE.out.2.2.1⟩
      · have e1 : ¬ (y : Int) = (ep : Int) := by omega
        have HE : Hid (pre = allL 1 ep s ∧ (w1.alloc (.cells #[.int .u64 (x : Int), .int .u64 (y : Int), .string (str t)] 30)).ownsRow w.heap.size 30 3 (.slice (some ⟨g, 0, none⟩) pre.length cap) pre.length (flatC (pre.map Prod.fst)) ∧ Below w.heap.size w (w1.alloc (.cells #[.int .u64 (x : Int), .int .u64 (y : Int), .string (str t)] 30)) ∧ (A : Int) = (s.length : Int) - (left.length : Int) ∧ leftL s pre = left) := by
          have h1 := hrel.out.sofar
          rw [allL_no hf (fun h => hey h.1.symm), List.append_nil] at h1
          exact ⟨h1, hrow, hcb, by have := HS.out; omega, hrel.out.last⟩
        clear hf hrel b1 b2 hbx hey hrow hcb
        go_wp2
        go_ret2
        refine ⟨g, cap, ?_⟩
        rw [← HE.out.1, HE.out.2.2.2.2]
        exact ⟨ret_two HE.out.2.2.2.1, HE.out.2.1, HE.out.2.2.1⟩
end Go.Proofs.YtfpiepephljmgaaDoor
