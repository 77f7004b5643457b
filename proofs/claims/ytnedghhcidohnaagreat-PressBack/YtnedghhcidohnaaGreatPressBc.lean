/-
  PressBack.
-/
import Derived.Test.YtnedghhcidohnaaGreatPressBa
import Derived.Test.YtnedghhcidohnaaGreatPressBb
import Derived.Test.YtnedghhcidohnaaGreatJX1
import Derived.Test.YtnedghhcidohnaaGreatJQ1
namespace Go.Proofs.YtnedghhcidohnaaGreat
open Go.RowKit

theorem PutLs.cases {l : List (List TL)} {S : List UInt8} {k : Int} (h : PutLs l S k) (hm : ∀ p ∈ l, MayA p) : (l.length ≤ 24 ∧ S = putL l.length ++ l.flatMap putPs ∧ k = 0) ∨ (24 < l.length ∧ k = 1) := by
  rcases h with ⟨h1, h2, h3⟩ | ⟨h1, h2, h3⟩
  · exact .inl ⟨h1.1, h2, h3⟩
  · exact .inr ⟨Nat.lt_of_not_le fun g => h1 ⟨g, hm⟩, h3⟩

set_option maxRecDepth 100000 in
set_option maxHeartbeats 4000000 in
theorem back_b (o : Int) (lo : Option Addr) (n cap : Nat) (lss : List (List TL)) (t : List UInt8) (c : Int) (w : World) (h : ListAt w lo n lss) (hs : t.length ≤ 9223372036854775807) (hc0 : 0 ≤ c) (hc1 : c ≤ 65535) :
    Calls Tryz.prog 5 #[.int .i64 o, .slice lo n cap, .string (str t), .int .u16 c] w fun e w' => e = .returned (.bool true) ∧ Below w.heap.size w w' := by
  have hN := h.most
  have hn0 : (0 : Int) ≤ (n : Int) := by omega
  have hsz : ((str t).size : Int) = (t.length : Int) := by rw [str_size]
  have hsm : ((str t).size : Int) ≤ 9223372036854775807 := by omega
  have H : Hid (ListAt w lo n lss ∧ (0 ≤ c ∧ c ≤ 65535)) := ⟨h, hc0, hc1⟩
  clear h
  go_enter Tryz.func5, Tryz.ntmps5
  go_wp2_with fail
  refine (heavy_b _ _ _ lss _ H.out.1).mono ?_
  rintro e w1 ⟨b, rfl, _, q1⟩
  have H1 : Hid (ListAt w1 lo n lss ∧ Below w.heap.size w w1) := ⟨H.out.1.below q1, q1⟩
  clear q1
  cases b with
  | true =>
    go_wp2_with fail
    refine (shown_b _).mono ?_
    rintro e w2 ⟨rfl, q1⟩
    have H2 : Hid (Below w.heap.size w w2) := chain H1.out.2 q1
    clear q1
    go_wp2_with fail
    go_ret
    exact ⟨rfl, H2.out⟩
  | false =>
    by_cases hL : t.length ≤ 300
    · have hL' : ¬ (300 : Int) < ((str t).size : Int) := by omega
      have HL : Hid (t.length ≤ 300) := hL
      have hsm3 : ((str t).size : Int) ≤ 300 := by omega
      clear hL hs hsz hsm
      go_wp2_with fail
      refine (shown_b _).mono ?_
      rintro e w2 ⟨rfl, q1⟩
      have H2 : Hid (ListAt w2 lo n lss ∧ Below w.heap.size w w2) := ⟨H1.out.1.below q1, chain H1.out.2 q1⟩
      clear q1 H1
      go_wp2_with fail
      go_loopg [9] n (fun m s9 wr => ∃ i : Nat, i ≤ n ∧ n - i ≤ m ∧ s9 = .int .i64 i ∧ Hid (ListAt wr lo n lss ∧ Below w.heap.size w wr ∧ ∀ (a : Nat) p, a < i → lss[a]? = some p → MayP o p))
      case atStart => exact ⟨0, Nat.zero_le _, by omega, rfl, H2.out.1, H2.out.2, fun a p ha => absurd ha (by omega)⟩
      case round =>
        obtain ⟨i, hi, hir, rfl, hI⟩ := hrel
        by_cases i0 : i < n
        · obtain ⟨b1, off1, po1, pn1, pc1, ps1, x, rfl, hcl, hx, hat, hlt⟩ := hI.out.1.elem i i0
          have hin : (i : Int) < (n : Int) := by omega
          have hi0' : (0 : Int) ≤ (i : Int) := by omega
          by_cases hm : MayP o x
          · have HI : Hid (i < n ∧ n - i ≤ _ ∧ lss[i]? = some x ∧ MayP o x ∧ PolyAt wr po1 pn1 pc1 ps1 x) := ⟨i0, hir, hx, hm, hat⟩
            clear hx hat hlt hi hir i0 hm
            go_wp2_with fail
            refine (rmay_b o _ _ _ _ x _ HI.out.2.2.2.2 true (yes_iff HI.out.2.2.2.1)).mono ?_
            rintro e w3 ⟨rfl, q1⟩
            have HN : Hid (ListAt w3 (some ⟨b1, off1, none⟩) n lss ∧ Below w.heap.size w w3) := ⟨hI.out.1.below q1, chain hI.out.2.1 q1⟩
            clear q1
            go_wp2_with fail
            go_roundg (n - (i + 1))
            case measure => have := HI.out.1; have := HI.out.2.1; omega
            case rel =>
              refine ⟨i + 1, by have := HI.out.1; omega, Nat.le_refl _, by go_num, HN.out.1, HN.out.2, fun a p ha hp => ?_⟩
              by_cases e : a = i
              · subst e
                rw [HI.out.2.2.1] at hp
                injection hp with hp
                subst hp
                exact HI.out.2.2.2.1
              · exact hI.out.2.2 a p (by omega) hp
          · have HI : Hid (¬ MayP o x ∧ PolyAt wr po1 pn1 pc1 ps1 x) := ⟨hm, hat⟩
            clear hx hat hlt hi hir i0 hm
            go_wp2_with fail
            refine (rmay_b o _ _ _ _ x _ HI.out.2 false (no_iff HI.out.1)).mono ?_
            rintro e w3 ⟨rfl, q1⟩
            have HN : Hid (Below w.heap.size w w3) := chain hI.out.2.1 q1
            clear q1
            go_wp2_with fail
            go_ret
            exact ⟨rfl, HN.out⟩
        · have hin : i = n := by omega
          have HF : Hid (ListAt wr lo n lss ∧ Below w.heap.size w wr ∧ ∀ p ∈ lss, MayP o p) := ⟨hI.out.1, hI.out.2.1, fun p hp => by
            obtain ⟨a, ha, rfl⟩ := List.mem_iff_getElem.1 hp
            exact hI.out.2.2 a _ (by have := H.out.1.len; omega) (List.getElem?_eq_getElem ha)⟩
          subst hin
          clear hI hi hir i0
          obtain ⟨S, k, hS⟩ := PutLs.ex lss
          go_wp2_with fail
          refine (putList_b _ _ _ lss S k _ HF.out.1 hS).mono ?_
          rintro e w3 ⟨rfl, q1⟩
          have H3 : Hid (ListAt w3 lo i lss ∧ Below w.heap.size w w3) := ⟨HF.out.1.below q1, chain HF.out.2.1 q1⟩
          clear q1
          have hln := HF.out.1.len
          have hsl := hS.len
          rcases hS.cases (fun p hp => (HF.out.2.2 p hp).a) with ⟨h24, hSS, rfl⟩ | ⟨h24, rfl⟩
          · have hpos : 0 < S.length := by rw [hSS, List.length_append, putL_length]; omega
            obtain ⟨r1, r2⟩ := cut_rem c S.length H.out.2.1 H.out.2.2 hpos
            obtain ⟨j, hj⟩ : ∃ j, j = c.toNat % S.length := ⟨_, rfl⟩
            rw [← hj] at r1 r2
            have hlims := HF.out.1.lims
            have hS1 : ((str S).size : Int) ≤ 438000 := by rw [str_size]; omega
            have hS0 : (0 : Int) < ((str S).size : Int) := by rw [str_size]; omega
            have r1' : Int.tmod c ((str S).size : Int) = (j : Int) := by rw [str_size]; exact r1
            have hjS : (j : Int) ≤ ((str S).size : Int) := by rw [str_size]; omega
            have hext : (str S).extract 0 j = str (S.take j) := by rw [ext_str]; rfl
            have hap : str S ++ str t = str (S ++ t) := str_append S t
            have HS : Hid (GetLs o (S ++ t) (.ok (lss, t)) ∧ GetLs o (S.take j) (.error 60) ∧ (S ++ t).length ≤ 700000 ∧ (S.take j).length ≤ 700000) := by
              refine ⟨?_, ?_, ?_, ?_⟩
              · rw [hSS]; exact GetLs.put (by omega) HF.out.2.2 hlims t
              · rw [hSS] at r2 ⊢; exact GetLs.cut (by omega) HF.out.2.2 hlims r2
              · rw [List.length_append]; have := HL.out; omega
              · rw [List.length_take]; omega
            clear hS hln hsl h24 hSS hpos hj r1 r2 hlims
            go_wp2_with fail
            refine (getList_b o (S ++ t) _ _ HS.out.1 HS.out.2.2.1).mono ?_
            rintro e w4 ⟨lo4, n4, cap4, ms4, R4, k4, rfl, q1, ⟨rfl, rfl, rfl⟩, _, q2⟩
            have H4 : Hid (ListAt w4 lo i ms4 ∧ ListAt w4 lo4 n4 ms4 ∧ Below w.heap.size w w4) := ⟨H3.out.1.below q2, q1, chain H3.out.2 q2⟩
            have hn4 : n4 = i := by have := q1.len; have := HF.out.1.len; omega
            subst hn4
            clear q1 q2 H3
            go_wp2_with fail
            refine (getList_b o (S.take j) _ _ HS.out.2.1 HS.out.2.2.2).mono ?_
            rintro e w5 ⟨lo5, n5, cap5, ms5, R5, k5, rfl, _, ⟨rfl, rfl, rfl⟩, _, q2⟩
            have H5 : Hid (ListAt w5 lo n4 ms4 ∧ ListAt w5 lo4 n4 ms4 ∧ Below w.heap.size w w5) := ⟨H4.out.1.below q2, H4.out.2.1.below q2, chain H4.out.2.2 q2⟩
            clear q2
            go_wp2_with fail
            refine (sameList_b lo n4 _ lo4 _ ms4 _ H5.out.1 H5.out.2.1).mono ?_
            rintro e w6 ⟨rfl, q2⟩
            have H6 : Hid (Below w.heap.size w w6) := chain H5.out.2.2 q2
            clear q2
            go_wp2_with fail
            go_ret
            exact ⟨rfl, H6.out⟩
          · have h24' : (24 : Int) < (i : Int) := by omega
            clear hS hln hsl h24
            go_wp2_with fail
            go_ret
            exact ⟨rfl, H3.out.2⟩
    · have hL' : (300 : Int) < ((str t).size : Int) := by omega
      clear hL hs hsz
      go_wp2_with fail
      refine (shown_b _).mono ?_
      rintro e w2 ⟨rfl, q1⟩
      have H2 : Hid (Below w.heap.size w w2) := chain H1.out.2 q1
      clear q1
      go_wp2_with fail
      go_ret
      exact ⟨rfl, H2.out⟩
end Go.Proofs.YtnedghhcidohnaaGreat
