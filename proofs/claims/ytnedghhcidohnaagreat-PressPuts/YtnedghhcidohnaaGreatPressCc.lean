/-
  PressPuts.
-/
import Derived.Test.YtnedghhcidohnaaGreatPressCb
namespace Go.Proofs.YtnedghhcidohnaaGreat
open Go.RowKit

set_option maxRecDepth 100000 in
set_option maxHeartbeats 4000000 in
theorem puts_b (lo : Option Addr) (n cap : Nat) (ps : List TP) (ls : List TL) (mo : Option Addr) (m mcap : Nat) (lss : List (List TL)) (w : World) (h : PolyAt w lo n cap ps ls) (g : ListAt w mo m lss) :
    Calls Tryz.prog 3 #[.slice lo n cap, .slice mo m mcap] w fun e w' => e = .returned (.bool true) ∧ Below w.heap.size w w' := by
  have b1 := bel1 w (.cells #[.slice lo n cap] 23)
  have H : Hid (PolyAt w lo n cap ps ls ∧ ListAt w mo m lss ∧ ListAt (w.alloc (.cells #[.slice lo n cap] 23)) (some ⟨w.heap.size, 0, none⟩) 1 [ls] ∧ Below w.heap.size w (w.alloc (.cells #[.slice lo n cap] 23))) := ⟨h, g, list1 (heap_alloc_new _ _) (h.below b1), b1⟩
  clear h g b1
  go_enter Tryz.func3, Tryz.ntmps3
  go_wp2_with fail
  refine (heavy_b _ _ _ [ls] _ H.out.2.2.1).mono ?_
  rintro e w1 ⟨b, rfl, _, q1⟩
  have H1 : Hid (PolyAt w1 lo n cap ps ls ∧ ListAt w1 mo m lss ∧ Below w.heap.size w w1) := by
    have q2 := chain H.out.2.2.2 q1
    exact ⟨H.out.1.below q2, H.out.2.1.below q2, q2⟩
  clear q1 H
  cases b with
  | true =>
    go_wp2_with fail
    refine (shown_b _).mono ?_
    rintro e w2 ⟨rfl, q1⟩
    have H2 : Hid (Below w.heap.size w w2) := chain H1.out.2.2 q1
    clear q1
    go_wp2_with fail
    go_ret
    exact ⟨rfl, H2.out⟩
  | false =>
    go_wp2_with fail
    refine (heavy_b _ _ _ lss _ H1.out.2.1).mono ?_
    rintro e w2 ⟨b, rfl, _, q1⟩
    have H2 : Hid (PolyAt w2 lo n cap ps ls ∧ ListAt w2 mo m lss ∧ Below w.heap.size w w2) := ⟨H1.out.1.below q1, H1.out.2.1.below q1, chain H1.out.2.2 q1⟩
    clear q1 H1
    cases b with
    | true =>
      go_wp2_with fail
      refine (shown_b _).mono ?_
      rintro e w3 ⟨rfl, q1⟩
      have H3 : Hid (Below w.heap.size w w3) := chain H2.out.2.2 q1
      clear q1
      go_wp2_with fail
      go_ret
      exact ⟨rfl, H3.out⟩
    | false =>
      go_wp2_with fail
      refine (shown_b _).mono ?_
      rintro e w3 ⟨rfl, q1⟩
      have H3 : Hid (PolyAt w3 lo n cap ps ls ∧ ListAt w3 mo m lss ∧ Below w.heap.size w w3) := ⟨H2.out.1.below q1, H2.out.2.1.below q1, chain H2.out.2.2 q1⟩
      clear q1 H2
      obtain ⟨S, k, hS⟩ := PuIs.ex ls
      obtain ⟨T, j, hT⟩ := PutLs.ex lss
      have HS : Hid (PuIs ls S k ∧ PutLs lss T j) := ⟨hS, hT⟩
      clear hS hT
      go_wp2_with fail
      refine (put_b _ _ _ _ ls S k _ H3.out.1 HS.out.1).mono ?_
      rintro e w4 ⟨rfl, q1⟩
      have H4 : Hid (PolyAt w4 lo n cap ps ls ∧ ListAt w4 mo m lss ∧ Below w.heap.size w w4) := ⟨H3.out.1.below q1, H3.out.2.1.below q1, chain H3.out.2.2 q1⟩
      clear q1 H3
      go_wp2_with fail
      refine (rput_b _ _ _ _ ls S k _ H4.out.1 HS.out.1).mono ?_
      rintro e w5 ⟨rfl, q1⟩
      have H5 : Hid (ListAt w5 mo m lss ∧ Below w.heap.size w w5) := ⟨H4.out.2.1.below q1, chain H4.out.2.2 q1⟩
      clear q1 H4
      go_wp2_with fail
      refine (putList_b _ _ _ lss T j _ H5.out.1 HS.out.2).mono ?_
      rintro e w6 ⟨rfl, q1⟩
      have H6 : Hid (ListAt w6 mo m lss ∧ Below w.heap.size w w6) := ⟨H5.out.1.below q1, chain H5.out.2 q1⟩
      clear q1 H5
      go_wp2_with fail
      refine (rputList_b _ _ _ lss T j _ H6.out.1 HS.out.2).mono ?_
      rintro e w7 ⟨rfl, q1⟩
      have H7 : Hid (Below w.heap.size w w7) := chain H6.out.2 q1
      clear q1 H6
      go_wp2_with fail
      go_ret
      exact ⟨rfl, H7.out⟩
end Go.Proofs.YtnedghhcidohnaaGreat
