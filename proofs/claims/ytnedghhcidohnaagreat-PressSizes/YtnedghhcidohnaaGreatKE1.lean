/-
  Joined: PressZ · PressY.
-/
import Derived.Test.YtnedghhcidohnaaGreatLC1
import Derived.Test.YtnedghhcidohnaaGreatKB1
import Derived.Test.YtnedghhcidohnaaGreatJX1
import Derived.Test.YtnedghhcidohnaaGreatPressYa
namespace Go.Proofs.YtnedghhcidohnaaGreat
open Go.RowKit

set_option maxRecDepth 100000 in
set_option maxHeartbeats 4000000 in
theorem one_b (o : Int) (s : List UInt8) (w : World) (hs : s.length ≤ 9223372036854775807) :
    Calls Tryz.prog 6 #[.int .i64 o, .string (str s)] w fun e w' => e = .returned (.bool true) ∧ Below w.heap.size w w' := by
  have hsz : ((str s).size : Int) = (s.length : Int) := by rw [str_size]
  by_cases hL : s.length ≤ 3000
  · have hL' : ¬ (3000 : Int) < ((str s).size : Int) := by omega
    have hL2 : ((str s).size : Int) ≤ 3000 := by omega
    have hL0 : (0 : Int) ≤ ((str s).size : Int) := by omega
    have HL : Hid (s.length ≤ 3000) := hL
    clear hL hs hsz
    go_enter Tryz.func6, Tryz.ntmps6
    go_wp2_with fail
    refine (shown_b _).mono ?_
    rintro e w1 ⟨rfl, q1⟩
    have H1 : Hid (Below w.heap.size w w1) := q1
    clear q1
    obtain ⟨res, hres⟩ := GetLs.ex o s
    go_wp2_with fail
    refine (getList_b o s res _ hres (by have := HL.out; omega)).mono ?_
    rintro e w2 ⟨lo, n, cap, ms, R, k, rfl, q1, q2, q3, q4⟩
    rcases res with e | ⟨l, c⟩
    · obtain ⟨rfl, rfl, rfl⟩ := q2
      have hk : (k == (0 : Int)) = false := by rw [beq_eq_false_iff_ne]; exact ManyIs.err (fun _ _ h => GetIs.err h) hres
      have hn := q1.len
      subst hn
      have H2 : Hid (Below w.heap.size w w2) := chain H1.out q4
      have hnil : (str []).toList = [] := by rw [Lib.toList_data]; rfl
      clear q1 q3 q4 hres
      go_wp2_with fail
      go_ret
      exact ⟨rfl, H2.out⟩
    · obtain ⟨rfl, rfl, rfl⟩ := q2
      have h1 := hres.one
      obtain ⟨S, hS⟩ : ∃ S, S = putL ms.length ++ ms.flatMap putPs := ⟨_, rfl⟩
      have hP : PutLs ms S 0 := .inl ⟨⟨h1.2.1, fun p hp => (h1.2.2 p hp).a⟩, hS, rfl⟩
      have hap : str S ++ str R = str s := by rw [str_append, hS, h1.1]
      have hs1 : ((str S).size : Int) ≤ 438000 := by rw [str_size]; have := hP.len; omega
      have hs2 : ((str R).size : Int) ≤ 3000 := by rw [str_size]; have := HL.out; omega
      have H2 : Hid (ListAt w2 lo n ms ∧ Below w.heap.size w w2 ∧ PutLs ms S 0) := ⟨q1, chain H1.out q4, hP⟩
      clear q1 q3 q4 hres h1 hS hP
      go_wp2_with fail
      refine (putList_b _ _ _ ms S 0 _ H2.out.1 H2.out.2.2).mono ?_
      rintro e w3 ⟨rfl, q1⟩
      have H3 : Hid (Below w.heap.size w w3) := chain H2.out.2.1 q1
      clear q1
      go_wp2_with fail
      go_ret
      exact ⟨rfl, H3.out⟩
  · have hL' : (3000 : Int) < ((str s).size : Int) := by omega
    have hLm : ((str s).size : Int) ≤ 9223372036854775807 := by omega
    clear hL hs hsz
    go_enter Tryz.func6, Tryz.ntmps6
    go_wp2_with fail
    refine (shown_b _).mono ?_
    rintro e w1 ⟨rfl, q1⟩
    have H1 : Hid (Below w.heap.size w w1) := q1
    clear q1
    go_wp2_with fail
    go_ret
    exact ⟨rfl, H1.out⟩
end Go.Proofs.YtnedghhcidohnaaGreat

/-! PressSizes. -/
namespace Go.Proofs.YtnedghhcidohnaaGreat
open Go.RowKit

set_option maxRecDepth 100000 in
set_option maxHeartbeats 4000000 in
theorem sizes_b (lo : Option Addr) (n cap : Nat) (ps : List TP) (ls : List TL) (w : World) (h : PolyAt w lo n cap ps ls) :
    Calls Tryz.prog 7 #[.slice lo n cap] w fun e w' => e = .returned (.bool true) ∧ Below w.heap.size w w' := by
  have hpm := h.most'
  have hn0 : (0 : Int) ≤ (n : Int) := by omega
  have b1 := bel1 w (.cells #[.slice lo n cap] 23)
  have H : Hid (PolyAt w lo n cap ps ls ∧ ListAt (w.alloc (.cells #[.slice lo n cap] 23)) (some ⟨w.heap.size, 0, none⟩) 1 [ls] ∧ Below w.heap.size w (w.alloc (.cells #[.slice lo n cap] 23))) := ⟨h, list1 (heap_alloc_new _ _) (h.below b1), b1⟩
  clear h b1
  go_enter Tryz.func7, Tryz.ntmps7
  go_wp2_with fail
  refine (heavy_b _ _ _ [ls] _ H.out.2.1).mono ?_
  rintro e w1 ⟨b, rfl, _, q1⟩
  have H1 : Hid (PolyAt w1 lo n cap ps ls ∧ Below w.heap.size w w1) := by
    have q2 := chain H.out.2.2 q1
    exact ⟨H.out.1.below q2, q2⟩
  clear q1 H
  cases b with
  | true =>
    go_wp2_with fail
    refine (shown_b _).mono ?_
    rintro e w2 ⟨rfl, q1⟩
    have H2 : Hid (Below w.heap.size w w2) := chain H1.out.2 q1
    clear q1
    go_wp2_with fail
    go_ret
    exact ⟨rfl, H2.out⟩
  | false =>
    go_wp2_with fail
    refine (shown_b _).mono ?_
    rintro e w2 ⟨rfl, q1⟩
    have H2 : Hid (PolyAt w2 lo n cap ps ls ∧ Below w.heap.size w w2) := by
      have q2 := chain H1.out.2 q1
      exact ⟨H1.out.1.below q1, q2⟩
    clear q1 H1
    obtain ⟨S, k, hS⟩ := PuIs.ex ls
    have hsz : (str S).size = S.length := str_size S
    have hsm := hS.len
    go_wp2_with fail
    refine (put_b _ _ _ _ ls S k _ H2.out.1 hS).mono ?_
    rintro e w3 ⟨rfl, q1⟩
    have H3 : Hid (PolyAt w3 lo n cap ps ls ∧ Below w.heap.size w w3) := by
      have q2 := chain H2.out.2 q1
      exact ⟨H2.out.1.below q1, q2⟩
    clear q1 H2
    rcases hS with ⟨hm, hS, rfl⟩ | ⟨hm, rfl, rfl⟩
    · have hts := hm.ts
      have hlen := hm.len
      have hn := H3.out.1.len
      have hcnt : S.length = (if n = 0 then 1 else 2) + szs ls := by rw [hS, putPs_sz hm, hn]
      by_cases h0 : n = 0
      · subst h0
        have hl : ls = [] := List.length_eq_zero_iff.1 hn
        have hq : ((str S).size : Int) = 1 := by rw [hsz, hcnt, hl]; rfl
        have HS : Hid True := trivial
        clear hts hlen hn hcnt hS hm hl hsz hsm
        go_wp2_with fail
        go_loopg [5, 6] 0 (fun m s5 s6 wr => s5 = .int .i64 1 ∧ s6 = .int .i64 0 ∧ wr = w3)
        case atStart => exact ⟨rfl, rfl, rfl⟩
        case round =>
          obtain ⟨rfl, rfl, rfl⟩ := hrel
          go_wp2_with fail
          go_ret
          exact ⟨rfl, H3.out.2⟩
      · have h0' : (0 : Int) < (n : Int) := by omega
        have h00 : ((n : Int) == 0) = false := by rw [beq_eq_false_iff_ne]; omega
        rw [if_neg h0] at hcnt
        have HK : Hid ((∀ t ∈ ls, MayT t ∧ t.c.top ≠ 0) ∧ ls.length ≤ 60 ∧ ls.length = n ∧ (str S).size = 2 + szs ls) := ⟨hts, hlen, hn, by rw [hsz, hcnt]⟩
        clear hts hlen hn hcnt hS hm hsz hsm h0
        go_wp2_with fail
        go_loopg [5, 6] n (fun m s5 s6 wr => ∃ i c : Nat, i ≤ n ∧ n - i ≤ m ∧ s5 = .int .i64 c ∧ s6 = .int .i64 i ∧ c ≤ 8300 ∧ Hid (PolyAt wr lo n cap ps ls ∧ Below w.heap.size w wr ∧ c = 2 + szs (ls.take i)))
        case atStart => exact ⟨0, 2, Nat.zero_le _, by omega, rfl, rfl, by omega, H3.out.1, H3.out.2, rfl⟩
        case round =>
          obtain ⟨i, c, hi, hir, rfl, rfl, hc, hI⟩ := hrel
          by_cases i0 : i < n
          · obtain ⟨tb, toff, p, t, rfl, hpi, hti, htat, hel, htlt⟩ := hI.out.1.elem i0
            have hin : (i : Int) < (n : Int) := by omega
            have hi0' : (0 : Int) ≤ (i : Int) := by omega
            obtain ⟨neg, no, nn, nc, eo, en, ec, pa, pb, pc', pd⟩ := p
            obtain ⟨_, e1, e2, _, _, _, _⟩ := hel
            dsimp only at e1 e2
            have l1 := htat.rat.num.len
            have l2 := htat.rat.den.len
            dsimp only at l1 l2
            have ht := HK.out.1 t (List.mem_of_getElem? hti)
            have hp := tm_parts ht.1 ht.2
            rw [l1, l2] at hp
            have v1 : (nn : Int) ≤ 8 := by omega
            have v2 : (en : Int) ≤ 8 := by omega
            have v3 : (0 : Int) ≤ (nn : Int) := by omega
            have v4 : (0 : Int) ≤ (en : Int) := by omega
            have hc1 : (c : Int) ≤ 8300 := by omega
            have hc0 : (0 : Int) ≤ (c : Int) := by omega
            have hst := szs_take hti
            have hle := szs_le HK.out.1 (i + 1)
            have hk := HK.out.2.1
            have hce := hI.out.2.2
            have hse : szT t = 9 + 8 * nn + 8 * en := by unfold szT; rw [l1, l2]
            have HI : Hid (i < n ∧ n - i ≤ _ ∧ c + (9 + 8 * nn + 8 * en) = 2 + szs (ls.take (i + 1)) ∧ c + (9 + 8 * nn + 8 * en) ≤ 8300 ∧ PolyAt wr (some ⟨tb, toff, none⟩) n cap ps ls ∧ Below w.heap.size w wr) := ⟨i0, hir, by omega, by omega, hI.out.1, hI.out.2.1⟩
            clear hpi hti htat htlt hi hir i0 l1 l2 ht hp hst hle hk hce hse hI hc
            go_wp2_with fail
            go_quiet (fail)
            have bq : Below wr.heap.size wr (wr.drewN nq) := below_drewN (Below.refl _ _) nq
            have HQ : Hid (PolyAt (wr.drewN nq) (some ⟨tb, toff, none⟩) n cap ps ls ∧ Below w.heap.size w (wr.drewN nq)) := ⟨HI.out.2.2.2.2.1.below bq, chain HI.out.2.2.2.2.2 bq⟩
            clear bq
            go_wp2_with fail
            go_roundg (n - (i + 1))
            case measure => have := HI.out.1; have := HI.out.2.1; omega
            case rel =>
              exact ⟨i + 1, c + (9 + 8 * nn + 8 * en), by have := HI.out.1; omega, Nat.le_refl _, by go_num, by go_num, HI.out.2.2.2.1, HQ.out.1, HQ.out.2, HI.out.2.2.1⟩
          · have hin : i = n := by omega
            have hq : ((str S).size : Int) = (c : Int) := by
              have h1 := HK.out.2.2.2
              have h2 := hI.out.2.2
              rw [List.take_of_length_le (by have := HK.out.2.2.1; omega)] at h2
              omega
            subst hin
            have HF : Hid (Below w.heap.size w wr) := hI.out.2.1
            clear hI hi hir i0
            go_wp2_with fail
            go_ret
            exact ⟨rfl, HF.out⟩
    · clear hsz hsm hm
      have hnil : (str []).toList = [] := by rw [Lib.toList_data]; rfl
      go_wp2_with fail
      go_ret
      exact ⟨rfl, H3.out.2⟩
end Go.Proofs.YtnedghhcidohnaaGreat
