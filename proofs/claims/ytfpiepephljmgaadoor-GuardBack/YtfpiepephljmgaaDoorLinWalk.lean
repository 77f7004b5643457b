/-
  GuardLinear's walk.
-/
import Derived.Test.YtfpiepephljmgaaDoorGRow
namespace Go.Proofs.YtfpiepephljmgaaDoor
open Go.RowKit
attribute [local go_sem ↓] app_eq

theorem min_is (A B C : Nat) : ∃ n : Nat, n ≤ A ∧ n ≤ B ∧ n ≤ C ∧ ((¬ B < A ∧ ¬ C < A ∧ n = A) ∨ (¬ B < A ∧ C < A ∧ n = C) ∨ (B < A ∧ ¬ C < B ∧ n = B) ∨ (B < A ∧ C < B ∧ n = C)) := by
  by_cases h : B < A
  · by_cases h2 : C < B
    · exact ⟨C, by omega, by omega, by omega, .inr (.inr (.inr ⟨h, h2, rfl⟩))⟩
    · exact ⟨B, by omega, by omega, by omega, .inr (.inr (.inl ⟨h, h2, rfl⟩))⟩
  · by_cases h2 : C < A
    · exact ⟨C, by omega, by omega, by omega, .inr (.inl ⟨h, h2, rfl⟩)⟩
    · exact ⟨A, by omega, by omega, by omega, .inl ⟨h, h2, rfl⟩⟩

theorem ownB_nil (w : World) : OwnB (w.alloc (.cells #[] 5)) w.heap.size w.heap.size 0 0 [] :=
  ⟨rfl, Nat.le_refl _, Nat.le_refl _, by unfold maxLen; omega, _, (0, 0), heap_alloc_new w _, rfl, .inl (Nat.zero_le _), rfl⟩

theorem cell_one (w : World) (v : Value) (t : TypeId) : (w.alloc (.cells #[v] t)).cell? ⟨w.heap.size, 0, none⟩ = some v := by rw [cell_of_row _ _ _ _ _ _ (heap_alloc_new w _)]; rfl

theorem below_grow {w w1 w2 : World} {g : Nat} (h : Below w.heap.size w w1) (hg : w1.grownBy w2 (some g)) (hk : w.heap.size ≤ g) : Below w.heap.size w w2 :=
  h.grown hg h.size (fun j hj => by cases hj; exact hk)

/-- One byte more, in a region that draws. -/
theorem append_one (wr : World) (base g n cap : Nat) (xs : List UInt8) (hown : OwnB wr base g n cap xs) (D : UInt8) (h63 : n + 1 ≤ 100000000) (hbase : base ≤ wr.heap.size) :
    ∃ g' cap' w', (app_ #[50, 50] 50 #[.slice (some ⟨g, 0, none⟩) n cap, .slice (some ⟨wr.heap.size, 0, none⟩) 1 1]).run Tryd.prog (wr.alloc (.cells #[.int .u8 (D.toNat : Int)] 5)).drew = .ok (.slice (some ⟨g', 0, none⟩) (n + 1) cap') w' ∧ OwnB w' base g' (n + 1) cap' (xs ++ [D]) ∧ wr.grownBy w' (some g) ∧ (g' = g ∨ wr.heap.size ≤ g') := by
  obtain ⟨i0, hi, hz0, hz1, hz2⟩ := info_parts Tryd.info5
  obtain ⟨g', cap', w', h1, h2, h3, h4⟩ := run_append_byte (P := Tryd.prog) (wr.drew.alloc (.cells #[.int .u8 (D.toNat : Int)] 5)) base 50 50 i0 (by kernel_rfl) hi hz0 hz1 hz2 g n cap xs (hown.drew.alloc _) ⟨wr.heap.size, 0, none⟩ 1 D (cell_one wr.drew _ 5) h63 (by simp; omega)
  refine ⟨g', cap', w', h1, h2, ?_, ?_⟩
  · refine ⟨h3.os, h3.tape, h3.output, Nat.le_trans (by simp) h3.size, fun j hj hn => (h3.block j (by simp; omega) hn).trans (heap_alloc_old wr.drew _ hj)⟩
  · rcases h4 with e | e
    · exact .inl e
    · right; rw [e]; simp

set_option maxRecDepth 100000 in
set_option maxHeartbeats 4000000 in
theorem linear_walk (a0 a1 a2 : ByteArray) (w : World) (w0 : a0.size ≤ maxLen) (w1 : a1.size ≤ maxLen) (w2 : a2.size ≤ maxLen) (hT : Tab w) :
    Calls Tryd.prog 7 #[.string a0, .string a1, .string a2] w fun e w' => e = .returned (.bool true) ∧ Below w.heap.size w w' := by
  obtain ⟨a, rfl⟩ := str_of a0
  obtain ⟨b, rfl⟩ := str_of a1
  obtain ⟨c, rfl⟩ := str_of a2
  have sa : (str a).size = a.length := str_size a
  have sb : (str b).size = b.length := str_size b
  have sc : (str c).size = c.length := str_size c
  obtain ⟨A, hA⟩ : ∃ A, A = a.length := ⟨_, rfl⟩
  obtain ⟨B, hB⟩ : ∃ B, B = b.length := ⟨_, rfl⟩
  obtain ⟨C, hC⟩ : ∃ C, C = c.length := ⟨_, rfl⟩
  rw [← hA] at sa
  rw [← hB] at sb
  rw [← hC] at sc
  obtain ⟨n, n1, n2, n3, hcase⟩ := min_is A B C
  have hDl : (xor3 (a.take n) (b.take n) (c.take n)).length = n := by
    rw [xor3_length _ _ _ (by simp; omega) (by simp; omega)]
    simp
    omega
  have hsum : crc (xor3 (a.take n) (b.take n) (c.take n)) = crc (a.take n) ^^^ crc (b.take n) ^^^ crc (c.take n) := crc_xor3 _ _ _ (by simp; omega) (by simp; omega)
  have HT : Hid (Tab w ∧ A = a.length ∧ B = b.length ∧ C = c.length ∧ n ≤ A ∧ n ≤ B ∧ n ≤ C ∧ (xor3 (a.take n) (b.take n) (c.take n)).length = n ∧ crc (xor3 (a.take n) (b.take n) (c.take n)) = crc (a.take n) ^^^ crc (b.take n) ^^^ crc (c.take n)) := ⟨hT, hA, hB, hC, n1, n2, n3, hDl, hsum⟩
  unfold maxLen at w0 w1 w2
  have a9 : (A : Int) ≤ 9223372036854775807 := by omega
  have b9 : (B : Int) ≤ 9223372036854775807 := by omega
  have c9 : (C : Int) ≤ 9223372036854775807 := by omega
  have n9 : (n : Int) ≤ 9223372036854775807 := by omega
  have na : (n : Int) ≤ (A : Int) := by omega
  have nb : (n : Int) ≤ (B : Int) := by omega
  have nc : (n : Int) ≤ (C : Int) := by omega
  have ea := ext0 a n
  have eb := ext0 b n
  have ec := ext0 c n
  clear hT hA hB hC n1 n2 n3 w0 w1 w2 hDl hsum
  by_cases hl : 500 < n
  · have hl2 : (500 : Int) < (n : Int) := by omega
    rcases hcase with ⟨h1, h2, rfl⟩ | ⟨h1, h2, rfl⟩ | ⟨h1, h2, rfl⟩ | ⟨h1, h2, rfl⟩
    all_goals
      go_enter Tryd.func7, Tryd.ntmps7
      go_wp2_with (go_at_call 10; refine (shown_any _ HT.out.1).mono ?_; rintro e w3 ⟨rfl, rfl⟩)
      go_ret
      exact ⟨rfl, Below.refl _ _⟩
  · have hl2 : ¬ (500 : Int) < (n : Int) := by omega
    have hl3 : decide ((500 : Int) < (n : Int)) = false := decide_eq_false hl2
    have hl4 : (n : Int) ≤ 500 := by omega
    clear hl
    rcases hcase with ⟨h1, h2, rfl⟩ | ⟨h1, h2, rfl⟩ | ⟨h1, h2, rfl⟩ | ⟨h1, h2, rfl⟩
    all_goals
      go_enter Tryd.func7, Tryd.ntmps7
      go_wp2_with fail
      refine (shown_any _ HT.out.1).mono ?_
      rintro e w1 ⟨rfl, rfl⟩
      clear h1 h2
      go_wp2_with fail
      go_loopw [8, 9] (fun d i wr => ∃ (k g cap : Nat), k ≤ n ∧ i = .int .i64 k ∧ d = .slice (some ⟨g, 0, none⟩) k cap ∧ Hid (OwnB wr w1.heap.size g k cap (xor3 (a.take k) (b.take k) (c.take k)) ∧ Below w1.heap.size w1 wr)) (fun _ i _ => n - (intOf i).toNat)
      case atStart => exact ⟨0, w1.heap.size, 0, Nat.zero_le _, rfl, rfl, ownB_nil _, (Below.refl _ _).alloc (Nat.le_refl _) _⟩
      case round =>
        obtain ⟨k, g, cap, hk, rfl, rfl, hO⟩ := hrel
        by_cases hlt : k < n
        · have hlt' : (k : Int) < (n : Int) := by omega
          have la : k < a.length := by have := HT.out.2.1; have := HT.out.2.2.2.2.1; omega
          have lb : k < b.length := by have := HT.out.2.2.1; have := HT.out.2.2.2.2.2.1; omega
          have lc : k < c.length := by have := HT.out.2.2.2.1; have := HT.out.2.2.2.2.2.2.1; omega
          have ka : k < (str a).size := by rw [str_size]; exact la
          have kb : k < (str b).size := by rw [str_size]; exact lb
          have kc : k < (str c).size := by rw [str_size]; exact lc
          have ka2 := ka
          have kb2 := kb
          have kc2 := kc
          rw [sa] at ka2
          rw [sb] at kb2
          rw [sc] at kc2
          obtain ⟨p, hp⟩ : ∃ p, p = a[k] := ⟨_, rfl⟩
          obtain ⟨q, hq⟩ : ∃ q, q = b[k] := ⟨_, rfl⟩
          obtain ⟨r, hr⟩ : ∃ r, r = c[k] := ⟨_, rfl⟩
          have va : (str a)[k] = p := hp.symm
          have vb : (str b)[k] = q := hq.symm
          have vc : (str c)[k] = r := hr.symm
          have x1 := xor_u8 p q
          have x2 := xor_u8 (p ^^^ q) r
          have hX : xor3 (a.take (k + 1)) (b.take (k + 1)) (c.take (k + 1)) = xor3 (a.take k) (b.take k) (c.take k) ++ [p ^^^ q ^^^ r] := by
            rw [hp, hq, hr]
            exact xor3_take a b c k la lb lc
          obtain ⟨E, hE⟩ : ∃ E, E = p ^^^ q := ⟨_, rfl⟩
          obtain ⟨D, hD⟩ : ∃ D, D = E ^^^ r := ⟨_, rfl⟩
          rw [← hE] at x1 x2 hX
          rw [← hD] at x2 hX
          obtain ⟨g', cap', w2, ha, hb1, hb2, hb3⟩ := append_one wr w1.heap.size g k cap _ hO.out.1 D (by omega) hO.out.2.size
          have HN : Hid (OwnB w2 w1.heap.size g' (k + 1) cap' (xor3 (a.take (k + 1)) (b.take (k + 1)) (c.take (k + 1))) ∧ Below w1.heap.size w1 w2) := by
            have h9 : OwnB w2 w1.heap.size g' (k + 1) cap' (xor3 (a.take (k + 1)) (b.take (k + 1)) (c.take (k + 1))) := by rw [hX]; exact hb1
            exact ⟨h9, below_grow hO.out.2 hb2 hO.out.1.lt.1⟩
          clear hO hb1 hb2 hb3 hX hp hq hr hE hD la lb lc
          go_wp2_with fail
          go_region
          all_goals
            go_wp2
            go_roundw
            case rel => exact ⟨k + 1, g', cap', by omega, by go_num, rfl, HN.out⟩
            case measure => simp [intOf]; omega
        · have hkt : k = n := by omega
          subst hkt
          obtain ⟨TA, hTA⟩ : ∃ TA, TA = a.take k := ⟨_, rfl⟩
          obtain ⟨TB, hTB⟩ : ∃ TB, TB = b.take k := ⟨_, rfl⟩
          obtain ⟨TC, hTC⟩ : ∃ TC, TC = c.take k := ⟨_, rfl⟩
          obtain ⟨TD, hTD⟩ : ∃ TD, TD = xor3 (a.take k) (b.take k) (c.take k) := ⟨_, rfl⟩
          have hcv := hO.out.1.string (P := Tryd.prog) 50 9 (by kernel_rfl) (by kernel_rfl) (by kernel_rfl)
          rw [← hTD] at hcv
          have hcv2 : (convert 50 9 (.slice (some ⟨g, 0, none⟩) k cap)).run Tryd.prog wr.drew = .ok (.string (str TD)) wr.drew := by
            have h9 := hO.out.1.drew.string (P := Tryd.prog) 50 9 (by kernel_rfl) (by kernel_rfl) (by kernel_rfl)
            rw [← hTD] at h9
            exact h9
          rw [← hTA] at ea
          rw [← hTB] at eb
          rw [← hTC] at ec
          obtain ⟨S1, hS1⟩ : ∃ S, S = crc TA := ⟨_, rfl⟩
          obtain ⟨S2, hS2⟩ : ∃ S, S = crc TB := ⟨_, rfl⟩
          obtain ⟨S3, hS3⟩ : ∃ S, S = crc TC := ⟨_, rfl⟩
          have b1 : S1 < 2 ^ 32 := by rw [hS1]; exact crc_lt _
          have b2 : S2 < 2 ^ 32 := by rw [hS2]; exact crc_lt _
          have b3 : S3 < 2 ^ 32 := by rw [hS3]; exact crc_lt _
          have b4 : S1 ^^^ S2 < 2 ^ 32 := Nat.xor_lt_two_pow b1 b2
          have y1 := xor_u32 S1 S2 (by omega) (by omega)
          have y2 := xor_u32 (S1 ^^^ S2) S3 (by omega) (by omega)
          obtain ⟨S12, hS12⟩ : ∃ S, S = S1 ^^^ S2 := ⟨_, rfl⟩
          obtain ⟨S4, hS4⟩ : ∃ S, S = S12 ^^^ S3 := ⟨_, rfl⟩
          rw [← hS12] at y1 y2
          rw [← hS4] at y2
          have HS : Hid (S1 = crc TA ∧ S2 = crc TB ∧ S3 = crc TC ∧ S4 = crc TD ∧ TA.length ≤ 100000 ∧ TB.length ≤ 100000 ∧ TC.length ≤ 100000 ∧ TD.length ≤ 100000 ∧ Tab wr ∧ Below w1.heap.size w1 wr ∧ Tab wr.drew) := by
            have hc4 : S4 = crc TD := by
              have h8 := HT.out.2.2.2.2.2.2.2.2
              rw [← hTD, ← hTA, ← hTB, ← hTC, ← hS1, ← hS2, ← hS3] at h8
              rw [h8, hS4, hS12]
            have hl9 := HT.out.2.2.2.2.2.2.2.1
            rw [← hTD] at hl9
            have ht := HT.out.1.below hO.out.2 HT.out.1.pos
            exact ⟨hS1, hS2, hS3, hc4, by rw [hTA]; simp; omega, by rw [hTB]; simp; omega, by rw [hTC]; simp; omega, by omega, ht, hO.out.2, ht⟩
          clear hO hTA hTB hTC hTD hS1 hS2 hS3 hS12 hS4 b1 b2 b3 b4
          go_wp2_with fail
          go_region_with (first
            | (go_at_call_of 17 (Value.string (str TA)); refine (sum_any TA _ HS.out.2.2.2.2.2.2.2.2.2.2 HS.out.2.2.2.2.1).mono ?_; rw [← HS.out.1]; rintro e w2 ⟨rfl, rfl⟩)
            | (go_at_call_of 17 (Value.string (str TB)); refine (sum_any TB _ HS.out.2.2.2.2.2.2.2.2.2.2 HS.out.2.2.2.2.2.1).mono ?_; rw [← HS.out.2.1]; rintro e w2 ⟨rfl, rfl⟩)
            | (go_at_call_of 17 (Value.string (str TC)); refine (sum_any TC _ HS.out.2.2.2.2.2.2.2.2.2.2 HS.out.2.2.2.2.2.2.1).mono ?_; rw [← HS.out.2.2.1]; rintro e w2 ⟨rfl, rfl⟩)
            | (go_at_call_of 17 (Value.string (str TD)); refine (sum_any TD _ HS.out.2.2.2.2.2.2.2.2.2.2 HS.out.2.2.2.2.2.2.2.1).mono ?_; rw [← HS.out.2.2.2.1]; rintro e w2 ⟨rfl, rfl⟩))
          all_goals
            go_wp2
            go_ret
            exact ⟨rfl, HS.out.2.2.2.2.2.2.2.2.2.1.drew⟩
end Go.Proofs.YtfpiepephljmgaaDoor
