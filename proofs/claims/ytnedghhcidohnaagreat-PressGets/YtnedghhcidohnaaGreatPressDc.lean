/-
  The reference's GetList of layer 11: the walk.
-/
import Derived.Test.YtnedghhcidohnaaGreatPressDb
namespace Go.Proofs.YtnedghhcidohnaaGreat
open Go.RowKit

set_option maxRecDepth 100000 in
set_option maxHeartbeats 8000000 in
theorem rgetList_b (o : Int) (s : List UInt8) (res : Except Int (List (List TL) × List UInt8)) (w : World) (h : GetLs o s res) (hs : s.length ≤ 700000) :
    Calls Tryz.prog 17 #[.int .i64 o, .string (str s)] w fun e w' => ∃ (lo : Option Addr) (n cap : Nat) (ms : List (List TL)) (R : List UInt8) (k : Int),
      e = .returned (.tuple #[.slice lo n cap, .string (str R), .int .i64 k]) ∧ ListAt w' lo n ms ∧ Told res ms R k ∧ R.length ≤ s.length ∧ Below w.heap.size w w' := by
  obtain ⟨I0, hi0, hz0, hz1, hz2⟩ := info_parts info23
  have H : Hid (ManyIs (GetIs o) 24 s res ∧ s.length ≤ 700000) := ⟨h, hs⟩
  rcases hnum : numL s with k | ⟨n, b⟩
  · have hres : res = .error k := by unfold GetLs ManyIs at h; rw [hnum] at h; exact h
    have hk := numL_err hnum
    have HR : Hid (res = .error k ∧ numL s = .error k) := ⟨hres, hnum⟩
    clear h hs hres hnum hi0 hz0 hz1 hz2
    go_enter Tryz.func17, Tryz.ntmps17
    go_wp2_with fail
    refine (rget_no s k _ HR.out.2 H.out.2).mono ?_
    rintro e w1 ⟨rfl, q1⟩
    have H1 : Hid (Below w.heap.size w w1) := q1
    clear q1
    go_wp2_with fail
    go_ret3
    exact ⟨none, 0, 0, [], [], k, rfl, ListAt.nil _, by rw [HR.out.1]; exact ⟨rfl, rfl, rfl⟩, by simp, H1.out⟩
  · have hfew := numL_few hnum
    by_cases hn : 24 < n
    · have hres : res = .error 62 := by unfold GetLs ManyIs at h; rw [hnum] at h; dsimp only at h; rw [if_pos hn] at h; exact h
      have hn' : (24 : Int) < (n : Int) := by omega
      have HR : Hid (res = .error 62 ∧ numL s = .ok (n, b)) := ⟨hres, hnum⟩
      clear h hs hres hnum hi0 hz0 hz1 hz2 hfew hn
      go_enter Tryz.func17, Tryz.ntmps17
      go_wp2_with fail
      refine (rget_yes s n b _ HR.out.2 H.out.2).mono ?_
      rintro e w1 ⟨rfl, q1⟩
      have H1 : Hid (Below w.heap.size w w1) := q1
      clear q1
      go_wp2_with fail
      go_ret3
      exact ⟨none, 0, 0, [], [], 62, rfl, ListAt.nil _, by rw [HR.out.1]; exact ⟨rfl, rfl, rfl⟩, by simp, H1.out⟩
    · have hE : EachIs (GetIs o) n b res := by unfold GetLs ManyIs at h; rw [hnum] at h; dsimp only at h; rw [if_neg hn] at h; exact h
      have hn' : ¬ (24 : Int) < (n : Int) := by omega
      have hnn : (n : Int) ≤ 24 := by omega
      have hn0 : (0 : Int) ≤ (n : Int) := by omega
      have HR : Hid (EachIs (GetIs o) n b res ∧ numL s = .ok (n, b) ∧ n ≤ 24 ∧ b.length ≤ s.length) := ⟨hE, hnum, by omega, hfew.2⟩
      clear h hs hE hnum hfew hn
      go_enter Tryz.func17, Tryz.ntmps17
      go_wp2_with fail
      refine (rget_yes s n b _ HR.out.2.1 H.out.2).mono ?_
      rintro e w1 ⟨rfl, q1⟩
      have HW : Hid (Below w.heap.size w (w1.alloc (.cells #[] 23)) ∧ PolysOwn (w1.alloc (.cells #[] 23)) w.heap.size (.slice (some ⟨w1.heap.size, 0, none⟩) 0 0) [] []) := ⟨chain q1 (bel1 _ _), PolysOwn.made w1 _ q1.size⟩
      clear q1
      go_wp2_with fail
      go_loopg [8, 10, 11] n (fun m s8 s10 s11 wr => ∃ (j : Nat) (cs : List Value) (ms : List (List TL)) (B : List UInt8), j ≤ n ∧ n - j ≤ m ∧ s11 = .int .u64 j ∧ s8 = .string (str B) ∧ Hid (Below w.heap.size w wr ∧ PolysOwn wr w.heap.size s10 cs ms ∧ ms.length = j ∧ Upto (GetIs o) n res j ms B ∧ B.length ≤ s.length))
      case atStart => exact ⟨0, [], [], b, Nat.zero_le _, by omega, rfl, rfl, HW.out.1, HW.out.2, rfl, Upto.start HR.out.1, HR.out.2.2.2⟩
      case round =>
        obtain ⟨j, cs, ms, B, hj, hjr, rfl, rfl, hT⟩ := hrel
        obtain ⟨lo2, cap2, rfl, hls⟩ := hT.out.2.1.list (by have := hT.out.2.2.1; omega)
        by_cases h0 : j < n
        · have hjn : (j : Int) < (n : Int) := by omega
          have hj0 : (0 : Int) ≤ (j : Int) := by omega
          obtain ⟨r, hr, he, ho⟩ := hT.out.2.2.2.1.step h0
          have HJ : Hid (j < n ∧ n - j ≤ _ ∧ GetIs o B r ∧ (∀ e, r = .error e → res = .error e) ∧ (∀ x c, r = .ok (x, c) → Upto (GetIs o) n res (j + 1) (ms ++ [x]) c)) := ⟨h0, hjr, hr, he, ho⟩
          clear hj hjr h0 hr he ho hls
          go_wp2_with fail
          refine (rgetPoly_b o B r _ HJ.out.2.2.1 (by have := hT.out.2.2.2.2; have := H.out.2; omega)).mono ?_
          rintro e w3 ⟨po, pn, pc, qs, l, R, k, rfl, q1, q2, q3, q4, q5⟩
          rcases r with e | ⟨x, c⟩
          · obtain ⟨rfl, rfl, rfl⟩ := q2
            have hk := beq_eq_false_iff_ne.2 HJ.out.2.2.1.err
            have HE : Hid (res = .error k ∧ Below w.heap.size w w3) := ⟨HJ.out.2.2.2.1 k rfl, chain hT.out.1 q4⟩
            clear q1 q3 q4 q5
            go_wp2_with fail
            go_ret3
            exact ⟨none, 0, 0, [], [], k, rfl, ListAt.nil _, by rw [HE.out.1]; exact ⟨rfl, rfl, rfl⟩, by simp, HE.out.2⟩
          · obtain ⟨rfl, rfl, rfl⟩ := q2
            have b5 := chain q4 (bel1 w3 (.cells #[.slice po pn pc] 23))
            have H3 : Hid (PolysOwn (w3.alloc (.cells #[.slice po pn pc] 23)) w.heap.size (.slice lo2 ms.length cap2) cs ms ∧ Below w.heap.size w (w3.alloc (.cells #[.slice po pn pc] 23)) ∧ PolyC (w3.alloc (.cells #[.slice po pn pc] 23)) po pn pc qs l) :=
              ⟨hT.out.2.1.below b5, chain hT.out.1 b5, PolyC.below ⟨q1, q5⟩ (bel1 w3 _)⟩
            have HK : Hid (ms.length + 1 ≤ 1000000 ∧ w.heap.size ≤ (w3.alloc (.cells #[.slice po pn pc] 23)).heap.size ∧ R.length ≤ B.length) :=
              ⟨by have := hT.out.2.2.1; have := HJ.out.1; have := HR.out.2.2.1; omega, H3.out.2.1.size, q3⟩
            clear q1 q3 q4 q5 b5
            go_wp2_with (at_builtin; refine wpList_append_put _ rfl _ _ _ rfl w.heap.size 23 I0 _ 1 24 Tryz.underlying24 hi0 hz0 hz1 hz2 rfl (by omega) zero23 _ ms.length cs rfl H3.out.1.own ⟨w3.heap.size, 0, none⟩ 1 1 [.slice po pn pc] rfl rfl (World.news_of_block (heap_alloc_new w3 _)) (sl_one po pn pc) (sl_clean po pn pc) (by omega) (by have := HK.out.1; unfold maxLen; omega) (by have := HK.out.1; omega) HK.out.2.1 ?_)
            intro g4 c4 w5 o4 k4
            have H4 : Hid (Below w.heap.size w w5 ∧ PolysOwn w5 w.heap.size (.slice (some ⟨g4, 0, none⟩) (ms.length + 1) c4) (cs ++ [.slice po pn pc]) (ms ++ [l])) :=
              ⟨H3.out.2.1.grown k4 H3.out.2.1.size (fun k hk => (H3.out.1.own.row.lt k hk).1), H3.out.1.put H3.out.2.2 o4 k4⟩
            clear o4 k4
            go_wp2_with fail
            go_roundg (n - (j + 1))
            case measure => have := HJ.out.1; have := HJ.out.2.1; omega
            case rel => exact ⟨j + 1, _, _, R, by have := HJ.out.1; omega, Nat.le_refl _, by go_num, rfl, H4.out.1, H4.out.2, by have := hT.out.2.2.1; simp; omega, HJ.out.2.2.2.2 _ _ rfl, by have := HK.out.2.2; have := hT.out.2.2.2.2; omega⟩
        · have hjn : j = n := by omega
          subst hjn
          have HP : Hid (ListAt wr lo2 ms.length ms ∧ res = .ok (ms, B) ∧ B.length ≤ s.length ∧ Below w.heap.size w wr) := ⟨hls, hT.out.2.2.2.1.last, hT.out.2.2.2.2, hT.out.1⟩
          clear hj hjr h0 hT hls
          go_wp2_with fail
          go_ret3
          exact ⟨_, _, _, ms, B, 0, rfl, HP.out.1, by rw [HP.out.2.1]; exact ⟨rfl, rfl, rfl⟩, HP.out.2.2.1, HP.out.2.2.2⟩
end Go.Proofs.YtnedghhcidohnaaGreat
