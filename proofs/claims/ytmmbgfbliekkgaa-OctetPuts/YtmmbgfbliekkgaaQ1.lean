/-
  Joined: OctY · OctZ · OctAA · OctBB · OctCC · OctEE · OctFF.
-/
import Derived.Test.YtmmbgfbliekkgaaOctM
import Derived.Test.YtmmbgfbliekkgaaOctG
import Derived.Deep.RegionWith
import Derived.Test.YtmmbgfbliekkgaaK1
import Derived.Test.YtmmbgfbliekkgaaJ1
import Derived.Test.YtmmbgfbliekkgaaOctS

/-! The reference's fixed. -/
namespace Go.Proofs.Ytmmbgfbliekkgaa
open Go.RowKit

theorem ownB_nil (w : World) : OwnB (w.alloc (.cells #[] 5)) w.heap.size w.heap.size 0 0 [] :=
  ⟨rfl, Nat.le_refl _, Nat.le_refl _, by unfold maxLen; omega, _, (0, 0), heap_alloc_new w _, rfl, .inl (Nat.zero_le _), rfl⟩

theorem take_nextY {A : Type} (t : List A) (k : Nat) (h : k < t.length) : t.take (k + 1) = t.take k ++ [t[k]] := by
  rw [List.take_add_one, List.getElem?_eq_getElem h]
  rfl

theorem lowB_getD (n k j : Nat) (h : j < k) : (lowB n k).getD j 0 = UInt8.ofNat (n / 256 ^ (k - (j + 1))) := by
  induction k generalizing j with
  | zero => omega
  | succ k ih =>
    cases j with
    | zero => simp [lowB]
    | succ j =>
      rw [lowB, List.getD_cons_succ, ih j (by omega)]
      rw [show k + 1 - (j + 1 + 1) = k - (j + 1) by omega]

theorem lowB_taken (n k j : Nat) (h : j < k) : (lowB n k).take (j + 1) = (lowB n k).take j ++ [UInt8.ofNat (n / 256 ^ (k - (j + 1)))] := by
  have hl : j < (lowB n k).length := by rw [lowB_length]; exact h
  rw [take_nextY _ j hl]
  have := lowB_getD n k j h
  rw [List.getD_eq_getElem?_getD, List.getElem?_eq_getElem hl] at this
  simp at this
  rw [this]

set_option maxRecDepth 100000 in
set_option maxHeartbeats 4000000 in
theorem fixed_any (X : Nat) (k : Nat) (w : World) (hB : X < 18446744073709551616) (hk : k ≤ 8) :
    Calls Try.prog 34 #[.int .u64 (X : Int), .int .i64 k] w fun e w' => e = .returned (.string (str (lowB X k))) ∧ Below w.heap.size w w' := by
  have hk2 : (k : Int) ≤ 8 := by omega
  have HX : Hid (X < 18446744073709551616) := hB
  clear hB
  go_enter Try.func34, Try.ntmps34
  go_wp2_with fail
  go_loopg [5, 6] k (fun n s5 s6 wr => ∃ (j g cap : Nat), j ≤ k ∧ k - j ≤ n ∧ s6 = .int .i64 ((k : Int) - 1 - (j : Int)) ∧ s5 = .slice (some ⟨g, 0, none⟩) j cap ∧ Hid (OwnB wr w.heap.size g j cap ((lowB X k).take j) ∧ Below w.heap.size w wr))
  case atStart => exact ⟨0, w.heap.size, 0, Nat.zero_le _, by omega, by go_num, rfl, ownB_nil _, (Below.refl _ _).alloc (Nat.le_refl _) _⟩
  case round =>
    obtain ⟨j, g, cap, hj, hjn, rfl, rfl, hO⟩ := hrel
    by_cases h0 : j = k
    · subst h0
      have e0 : (j : Int) - 1 - (j : Int) = -1 := by omega
      rw [e0]
      have hcv := fun src => hO.out.1.string (P := Try.prog) src 9
      have hst := OwnB.string (P := Try.prog) hO.out.1 53 9 (by kernel_rfl) (by kernel_rfl) (by kernel_rfl)
      have HB : Hid (Below w.heap.size w wr ∧ (⟨((lowB X j).take j).toArray⟩ : ByteArray) = str (lowB X j)) := by
        refine ⟨hO.out.2, ?_⟩
        rw [List.take_of_length_le (by rw [lowB_length]; exact Nat.le_refl _)]
        rfl
      rw [HB.out.2] at hst
      clear hO e0 hcv
      go_wp2_with fail
      go_ret
      exact ⟨rfl, HB.out.1⟩
    · obtain ⟨i, hi⟩ : ∃ i, k = i + 1 + j := ⟨k - 1 - j, by omega⟩
      have hij : (k : Int) - 1 - (j : Int) = (i : Int) := by omega
      rw [hij]
      have hi8 : (i : Int) ≤ 7 := by omega
      have i0' : (0 : Int) ≤ (i : Int) := by omega
      have hbv : Value.int .u8 ((X : Int) / 2 ^ (8 * i) % 256) = u8v (UInt8.ofNat (X / 256 ^ (k - (j + 1)))) := by
        have e : (2 : Int) ^ (8 * i) = ((256 ^ i : Nat) : Int) := by rw [Int.pow_mul]; simp
        rw [e, show k - (j + 1) = i by omega]
        unfold u8v
        congr 1
      have HR : Hid (OwnB wr w.heap.size g j cap ((lowB X k).take j) ∧ Below w.heap.size w wr ∧ Value.int .u8 ((X : Int) / 2 ^ (8 * i) % 256) = u8v (UInt8.ofNat (X / 256 ^ (k - (j + 1)))) ∧ (lowB X k).take (j + 1) = (lowB X k).take j ++ [UInt8.ofNat (X / 256 ^ (k - (j + 1)))]) := ⟨hO.out.1, hO.out.2, hbv, lowB_taken X k j (by omega)⟩
      obtain ⟨i0, hi0, hz0, hz1, hz2⟩ := info_parts (by kernel_rfl : (Try.prog.info? 5).map (fun i => (i.zero, i.size, i.bytes)) = some (some (.int .u8 0), 1, 1))
      have hji : ((k : Int) - 1 - (j : Int)) - 1 = (k : Int) - 1 - ((j + 1 : Nat) : Int) := by omega
      have HK : Hid (k = i + 1 + j ∧ _) := ⟨hi, hjn⟩
      have hjk : j ≤ 7 := by omega
      clear hO hij hbv h0 hi hji hj hjn
      go_wp2_with (at_builtin; refine wpList_append_byte _ rfl (.tmp 14) (.tmp 20) 53 rfl w.heap.size i0 (by kernel_rfl) hi0 hz0 hz1 hz2 g j cap _ rfl (HR.out.1.alloc _) ⟨wr.heap.size, 0, none⟩ 1 (UInt8.ofNat (X / 256 ^ (k - (j + 1)))) rfl ((cell_one wr _ 5).trans (congrArg some HR.out.2.2.1)) (by omega) (by have := HR.out.2.1.size; simp; omega) ?_; intro g2 c2 w2 hown2 hgr2 hk2)
      go_roundg (k - (j + 1))
      case measure => have := HK.out; omega
      case rel =>
        refine ⟨j + 1, g2, c2, by have := HK.out; omega, Nat.le_refl _, ?_, rfl, ?_, ?_⟩
        · congr 1
          have := HK.out
          omega
        · rw [HR.out.2.2.2]
          exact hown2
        · exact below_grow (HR.out.2.1.alloc HR.out.2.1.size _) hgr2 HR.out.1.lt.1
end Go.Proofs.Ytmmbgfbliekkgaa

/-! The reference's Put and PutText. -/
namespace Go.Proofs.Ytmmbgfbliekkgaa
open Go.RowKit

theorem cntB_zero : cntB 0 = 0 := by decide
theorem cntB_next (x : Nat) (h : 0 < x) : cntB x = cntB (x / 256) + 1 := by
  have h1 := cntB_lt (x / 256)
  have h2 := cntB_lt x
  have h3 : cntB x ≤ cntB (x / 256) + 1 := cntB_min x _ (by rw [Nat.pow_succ]; omega)
  have h4 : 0 < cntB x := by
    rcases Nat.eq_zero_or_pos (cntB x) with e | e
    · rw [e] at h2; omega
    · exact e
  obtain ⟨c, hc⟩ : ∃ c, cntB x = c + 1 := ⟨cntB x - 1, by omega⟩
  rw [hc, Nat.pow_succ] at h2
  have h5 := cntB_min (x / 256) c (by omega)
  omega

theorem conv_now (W : World) (c : Nat) (h : c ≤ 8) :
    (convert 53 9 (.slice (some ⟨W.heap.size, 0, none⟩) 1 1)).run Try.prog (W.alloc (.cells #[.int .u8 c] 5)).drew = .ok (.string (str [UInt8.ofNat c])) (W.alloc (.cells #[.int .u8 c] 5)).drew :=
  (OwnB.one W (.int .u8 c) (UInt8.ofNat c) (by unfold u8v; rw [byte_toNat h])).drew.string 53 9 (by kernel_rfl) (by kernel_rfl) (by kernel_rfl)
theorem conv_here (W : World) (c : Nat) (h : c ≤ 8) :
    (convert 53 9 (.slice (some ⟨W.heap.size, 0, none⟩) 1 1)).run Try.prog (W.alloc (.cells #[.int .u8 c] 5)) = .ok (.string (str [UInt8.ofNat c])) (W.alloc (.cells #[.int .u8 c] 5)) :=
  (OwnB.one W (.int .u8 c) (UInt8.ofNat c) (by unfold u8v; rw [byte_toNat h])).string 53 9 (by kernel_rfl) (by kernel_rfl) (by kernel_rfl)
theorem conv_then (W w' : World) (c : Nat) (h : c ≤ 8) (hb : Below (W.alloc (.cells #[.int .u8 c] 5)).drew.heap.size (W.alloc (.cells #[.int .u8 c] 5)).drew w') :
    (convert 53 9 (.slice (some ⟨W.heap.size, 0, none⟩) 1 1)).run Try.prog w' = .ok (.string (str [UInt8.ofNat c])) w' :=
  OwnB.string ((OwnB.one W (.int .u8 c) (UInt8.ofNat c) (by unfold u8v; rw [byte_toNat h])).drew.block (hb.block _ (by simp [World.drew]))) 53 9 (by kernel_rfl) (by kernel_rfl) (by kernel_rfl)

set_option maxRecDepth 100000 in
set_option maxHeartbeats 4000000 in
theorem rput_n (n : Nat) (w : World) (h : n < 18446744073709551616) : Calls Try.prog 16 #[.int .u64 (n : Int)] w fun e w' => e = .returned (.string (str (putL n))) ∧ Below w.heap.size w w' := by
  have h8 := cntB_le n h
  have HN : Hid (n < 18446744073709551616) := h
  clear h
  obtain ⟨C, hC⟩ : ∃ C, C = cntB n := ⟨_, rfl⟩
  have HC : Hid (C = cntB n) := hC
  rw [← hC] at h8
  clear hC
  have hc8 : (C : Int) ≤ 8 := by omega
  have hcm : (C : Int) % 256 = (C : Int) := by omega
  have hf := fun w1 => fixed_any n C w1 HN.out h8
  obtain ⟨T, hT⟩ : ∃ T, T = lowB n C := ⟨_, rfl⟩
  rw [← hT] at hf
  have hsz : (str T).size = C := by rw [str_size, hT, lowB_length]
  have hs1 : (str [UInt8.ofNat C]).size = 1 := by rw [str_size]; rfl
  have hap : str [UInt8.ofNat C] ++ str T = str (putL n) := by rw [str_append, hT, HC.out]; rfl
  have HF : Hid (∀ w1, Calls Try.prog 34 #[.int .u64 (n : Int), .int .i64 (C : Int)] w1 fun e w' => e = .returned (.string (str T)) ∧ Below w1.heap.size w1 w') := hf
  have HK : Hid (C ≤ 8 ∧ (C : Int) % 256 = C) := ⟨h8, hcm⟩
  have hcv := fun W => conv_now W C h8
  have hcv3 := fun W => conv_here W C h8
  have hwc : IntKind.u8.wrap (C : Int) = (C : Int) := by rw [IntKind.wrap_u8]; exact hcm
  have HB0 : Hid (Below w.heap.size w w) := Below.refl _ _
  clear hf hT
  go_enter Try.func16, Try.ntmps16
  go_wp2_with fail
  go_loopw [3, 4] (fun i d wr => ∃ (j x : Nat), i = .int .i64 j ∧ d = .int .u64 x ∧ wr = w ∧ j ≤ C ∧ Hid (j + cntB x = C ∧ x ≤ n)) (fun _ d _ => cntB (intOf d).toNat)
  case atStart => exact ⟨0, n, rfl, rfl, rfl, Nat.zero_le _, by rw [HC.out]; exact ⟨Nat.zero_add _, Nat.le_refl _⟩⟩
  case round =>
    obtain ⟨j, x, rfl, rfl, rfl, hj, hx⟩ := hrel
    by_cases h0 : x = 0
    · subst h0
      have hjC : j = C := by have := hx.out.1; rw [cntB_zero] at this; omega
      subst hjC
      clear hx hj
      go_wp2_with fail
      go_region_with (go_at_call 34; refine (HF.out _).mono ?_; rintro e w2 ⟨rfl, b2⟩; try (have hcv2 := conv_then _ _ _ HK.out.1 b2))
      all_goals
        go_wp2
        go_ret
        first
          | exact ⟨rfl, (chain ((Below.refl _ _).alloc (Nat.le_refl _) _).drew b2)⟩
          | exact ⟨rfl, chain (Below.refl _ _).drew b2⟩
          | exact ⟨rfl, (chain (Below.refl _ _).drew b2).alloc (chain (Below.refl _ _).drew b2).size _⟩
    · have h1 : (0 : Int) < (x : Int) := by omega
      have HX : Hid (j + 1 + cntB (x / 256) = C ∧ x / 256 ≤ n ∧ cntB x = cntB (x / 256) + 1) := by
        have := cntB_next x (by omega)
        have h2 := hx.out
        exact ⟨by omega, by omega, this⟩
      have hq : Int.tdiv (x : Int) 256 = ((x / 256 : Nat) : Int) := by rw [Int.tdiv_eq_ediv_of_nonneg (by omega)]; omega
      have hq2 : IntKind.u64.wrap (Int.tdiv (x : Int) 256) = ((x / 256 : Nat) : Int) := by
        rw [hq, IntKind.wrap_u64]
        have h2 := hx.out.2
        have h3 := HN.out
        omega
      have hq3 : IntKind.u64.wrap ((x : Int) / 256) = ((x / 256 : Nat) : Int) := by
        rw [IntKind.wrap_u64]
        have h2 := hx.out.2
        have h3 := HN.out
        omega
      have hj7 : (j : Int) ≤ 7 := by have := HX.out; omega
      clear h0 hx hj
      go_wp2_with fail
      go_roundw
      case rel => exact ⟨j + 1, x / 256, by go_num, congrArg (Value.int .u64) (by omega), by first | rfl | trivial, by have := HX.out.1; omega, HX.out.1, HX.out.2.1⟩
      case measure =>
        have hq4 : (x : Int) / 256 = ((x / 256 : Nat) : Int) := by omega
        rw [hq4]
        simp only [intOf, Int.toNat_natCast]
        have := HX.out.2.2
        omega

set_option maxHeartbeats 1000000 in
theorem rputText_any (s : List UInt8) (w : World) (hs : s.length ≤ 80000) :
    Calls Try.prog 18 #[.string (str s)] w fun e w' => e = .returned (.string (str (putT s))) ∧ Below w.heap.size w w' := by
  have hsz : (str s).size = s.length := str_size s
  have h1 : (s.length : Int) ≤ 80000 := by omega
  have hap : str (putL s.length) ++ str s = str (putT s) := str_append _ _
  have hsz2 : (str (putL s.length)).size ≤ 9 := by
    rw [str_size, putL_length]
    have := cntB_le s.length (by omega)
    omega
  go_enter Try.func18, Try.ntmps18
  go_wp2_with fail
  refine (rput_n s.length _ (by omega)).mono ?_
  rintro e w1 ⟨rfl, b1⟩
  have H1 : Hid (Below w.heap.size w w1) := b1
  clear b1
  go_wp2_with fail
  go_ret
  exact ⟨rfl, H1.out⟩
end Go.Proofs.Ytmmbgfbliekkgaa

/-! The reference's PutNat. -/
namespace Go.Proofs.Ytmmbgfbliekkgaa
open Go.RowKit

set_option maxHeartbeats 1000000 in
theorem rputNat_bad (ao : Option Addr) (n cap : Nat) (xs : List Int) (w : World) (h : RowAt w ao n cap xs) (hm : ¬ May xs) :
    Calls Try.prog 12 #[.slice ao n cap] w fun e w' => e = .returned (.tuple #[.string (str []), .int .i64 1]) ∧ Below w.heap.size w w' := by
  have H : Hid (RowAt w ao n cap xs ∧ ¬ May xs) := ⟨h, hm⟩
  clear h hm
  go_enter Try.func12, Try.ntmps12
  go_wp2_with fail
  refine (rmay_val _ _ _ _ _ H.out.1 false ⟨(fun e => by cases e), fun e => absurd e H.out.2⟩).mono ?_
  rintro e w1 ⟨rfl, rfl⟩
  go_wp2_with fail
  go_ret2
  exact ⟨rfl, Below.refl _ _⟩

set_option maxRecDepth 100000 in
set_option maxHeartbeats 4000000 in
theorem rputNat_ok (ao : Option Addr) (n cap : Nat) (xs : List Int) (w : World) (h : RowAt w ao n cap xs) (hm : May xs) :
    Calls Try.prog 12 #[.slice ao n cap] w fun e w' => e = .returned (.tuple #[.string (str (putN xs)), .int .i64 0]) ∧ Below w.heap.size w w' := by
  have hlen := h.len
  have h8 : n ≤ 8 := by have := hm.1; omega
  have h8' : (n : Int) ≤ 8 := by omega
  have HA : Hid (RowAt w ao n cap xs ∧ May xs ∧ xs.length = n) := ⟨h, hm, hlen⟩
  obtain ⟨S, hS⟩ : ∃ S, S = putL n := ⟨_, rfl⟩
  have HS : Hid (S = putL n) := hS
  have hS9 : S.length ≤ 9 := by rw [hS, putL_length]; have := cntB_le n (by omega); omega
  clear h hm hlen hS
  go_enter Try.func12, Try.ntmps12
  go_wp2_with fail
  refine (rmay_val _ _ _ _ _ HA.out.1 true ⟨fun _ => HA.out.2.1, fun _ => rfl⟩).mono ?_
  rintro e w0 ⟨rfl, rfl⟩
  go_wp2_with fail
  refine (rput_n n _ (by omega)).mono ?_
  rw [← HS.out]
  rintro e w1 ⟨rfl, b1⟩
  have H1 : Hid (Below w.heap.size w w1) := b1
  clear b1
  go_wp2_with fail
  go_loopg [4, 5] n (fun r s i wr => ∃ (j : Nat) (A : List UInt8), j ≤ n ∧ n - j ≤ r ∧ s = .string (str A) ∧ i = .int .i64 ((n : Int) - 1 - (j : Int)) ∧ A.length ≤ 9 + 8 * j ∧ Hid (A = S ++ limbB (xs.reverse.take j) ∧ Below w.heap.size w wr))
  case atStart => exact ⟨0, S, Nat.zero_le _, by omega, rfl, by go_num, by omega, by simp [limbB], H1.out⟩
  case round =>
    obtain ⟨j, A, hj, hjr, rfl, rfl, hA, hO⟩ := hrel
    by_cases h0 : j = n
    · subst h0
      have e0 : (j : Int) - 1 - (j : Int) = -1 := by omega
      rw [e0]
      have HE : Hid (A = putN xs ∧ Below w.heap.size w wr) := by
        refine ⟨?_, hO.out.2⟩
        rw [hO.out.1, List.take_of_length_le (by rw [List.length_reverse, HA.out.2.2]; exact Nat.le_refl _), HS.out, ← HA.out.2.2]
        rfl
      clear hO e0
      go_wp2_with fail
      go_ret2
      exact ⟨by rw [← HE.out.1]; rfl, HE.out.2⟩
    · obtain ⟨i, hi⟩ : ∃ i, n = i + 1 + j := ⟨n - 1 - j, by omega⟩
      have hij : (n : Int) - 1 - (j : Int) = (i : Int) := by omega
      rw [hij]
      have hil : (i : Int) < (n : Int) := by omega
      have hiN : i < n := by omega
      have hne : xs ≠ [] := by intro e; have := HA.out.2.2; rw [e] at this; simp at this; omega
      obtain ⟨b, off, rfl, hlt, hc⟩ := (HA.out.1.below hO.out.2).cells hne
      have hxi : i < xs.length := by rw [HA.out.2.2]; exact hiN
      have hci := hc i hxi
      obtain ⟨d, hd⟩ : ∃ d : Nat, (xs.getD i 0) = (d : Int) ∧ d < 18446744073709551616 := by
        have hm := HA.out.1.limbs (xs.getD i 0) (by rw [List.getD_eq_getElem?_getD, List.getElem?_eq_getElem hxi]; exact List.getElem_mem _)
        unfold BB at hm
        exact ⟨(xs.getD i 0).toNat, by omega, by omega⟩
      have hci2 : wr.cell? ⟨b, off + i, none⟩ = some (.int .u64 (d : Int)) := by rw [hci]; simp only [hd.1]
      have HD : Hid (d < 18446744073709551616 ∧ limbB (xs.reverse.take (j + 1)) = limbB (xs.reverse.take j) ++ lowB d 8 ∧ n = i + 1 + j) := by
        refine ⟨hd.2, ?_, hi⟩
        have hjl : j < xs.reverse.length := by rw [List.length_reverse, HA.out.2.2]; omega
        have e1 : xs.reverse[j] = (d : Int) := by
          rw [List.getElem_reverse, ← hd.1, List.getD_eq_getElem?_getD, List.getElem?_eq_getElem hxi]
          simp only [Option.getD_some]
          congr 1
          have := HA.out.2.2
          omega
        rw [take_nextY _ j hjl, limbB_snoc, e1, Int.toNat_natCast]
      have HK : Hid (0 ≤ n ∧ _) := ⟨Nat.zero_le _, hjr⟩
      have hA72 : ((str A).size : Int) ≤ 100 := by rw [str_size]; omega
      obtain ⟨T, hT⟩ : ∃ T, T = lowB d 8 := ⟨_, rfl⟩
      have hTs : (str T).size = 8 := by rw [str_size, hT, lowB_length]
      have hap : str A ++ str T = str (A ++ T) := str_append _ _
      have hsA : (str A).size = A.length := str_size A
      have HT : Hid (T = lowB d 8) := hT
      clear hd hci hc hi hij hjr hne hT h0 hj
      go_wp2_with fail
      refine (fixed_any d 8 _ HD.out.1 (by decide)).mono ?_
      rw [← HT.out]
      rintro e w2 ⟨rfl, b2⟩
      have H2 : Hid (Below w.heap.size w w2) := chain hO.out.2 b2
      clear b2 hci2
      go_wp2_with fail
      go_roundg (n - (j + 1))
      case measure => have := HD.out; have := HK.out; omega
      case rel =>
        refine ⟨j + 1, A ++ T, by have := HD.out; omega, Nat.le_refl _, rfl, ?_, ?_, ?_, H2.out⟩
        · congr 1
          have := HD.out
          omega
        · rw [List.length_append, HT.out, lowB_length]; omega
        · rw [HD.out.2.1, hO.out.1, HT.out, List.append_assoc]
end Go.Proofs.Ytmmbgfbliekkgaa

/-! The reference's PutRat. -/
namespace Go.Proofs.Ytmmbgfbliekkgaa
open Go.RowKit

set_option maxRecDepth 100000 in
set_option maxHeartbeats 2000000 in
theorem rputRat_bad (neg : Bool) (no : Option Addr) (nn nc : Nat) (eo : Option Addr) (en ec : Nat) (r : RatL) (w : World) (h : RatAt w no nn nc eo en ec r) (hg : r.neg = neg) (hm : ¬ MayR r) :
    Calls Try.prog 14 #[.agg #[.bool neg, .slice no nn nc, .slice eo en ec]] w fun e w' => e = .returned (.tuple #[.string (str []), .int .i64 1]) ∧ Below w.heap.size w w' := by
  have bx := RBox.new w neg no nn nc eo en ec
  have hB0 : Below w.heap.size w (w.alloc (.cells #[.bool neg, .slice no nn nc, .slice eo en ec] 26)) := (Below.refl _ _).alloc (Nat.le_refl _) _
  have H : Hid (RatAt (w.alloc (.cells #[.bool neg, .slice no nn nc, .slice eo en ec] 26)) no nn nc eo en ec r ∧ Below w.heap.size w (w.alloc (.cells #[.bool neg, .slice no nn nc, .slice eo en ec] 26)) ∧ r.neg = neg ∧ ¬ MayR r) := ⟨h.below hB0, hB0, hg, hm⟩
  have c0 := bx.c0
  have c1 := bx.c1
  have c2 := bx.c2
  clear bx hB0 h hg hm
  go_enter Try.func14, Try.ntmps14
  go_wp2_with fail
  refine (rrmay_r _ _ _ _ _ _ _ r _ H.out.1 H.out.2.2.1 false ⟨(fun e => by cases e), fun e => absurd e H.out.2.2.2⟩).mono ?_
  rintro e w1 ⟨rfl, b1⟩
  have H1 : Hid (Below w.heap.size w w1) := chain H.out.2.1 b1
  clear b1
  go_wp2_with fail
  go_ret2
  exact ⟨rfl, H1.out⟩

set_option maxRecDepth 100000 in
set_option maxHeartbeats 2000000 in
theorem rputRat_ok (neg : Bool) (no : Option Addr) (nn nc : Nat) (eo : Option Addr) (en ec : Nat) (r : RatL) (w : World) (h : RatAt w no nn nc eo en ec r) (hg : r.neg = neg) (hm : MayR r) :
    Calls Try.prog 14 #[.agg #[.bool neg, .slice no nn nc, .slice eo en ec]] w fun e w' => e = .returned (.tuple #[.string (str (putR r)), .int .i64 0]) ∧ Below w.heap.size w w' := by
  have bx := RBox.new w neg no nn nc eo en ec
  have hB0 : Below w.heap.size w (w.alloc (.cells #[.bool neg, .slice no nn nc, .slice eo en ec] 26)) := (Below.refl _ _).alloc (Nat.le_refl _) _
  have H : Hid (RatAt (w.alloc (.cells #[.bool neg, .slice no nn nc, .slice eo en ec] 26)) no nn nc eo en ec r ∧ RBox (w.alloc (.cells #[.bool neg, .slice no nn nc, .slice eo en ec] 26)) w.heap.size neg no nn nc eo en ec ∧ Below w.heap.size w (w.alloc (.cells #[.bool neg, .slice no nn nc, .slice eo en ec] 26)) ∧ r.neg = neg ∧ MayR r) := ⟨h.below hB0, bx, hB0, hg, hm⟩
  have c0 := bx.c0
  have c1 := bx.c1
  have c2 := bx.c2
  have z1 := putN_small hm.num
  have z2 := putN_small hm.den
  obtain ⟨X, hX⟩ : ∃ X, X = putN r.num := ⟨_, rfl⟩
  obtain ⟨Y, hY⟩ : ∃ Y, Y = putN r.den := ⟨_, rfl⟩
  rw [← hX] at z1
  rw [← hY] at z2
  have a1 := str_cons 0 X
  have a2 := str_cons 1 X
  have a3 := str_append (0 :: X) Y
  have a4 := str_append (1 :: X) Y
  have z3 : (str (0 :: X)).size = (str X).size + 1 := by rw [str_size, str_size]; rfl
  have z4 : (str (1 :: X)).size = (str X).size + 1 := by rw [str_size, str_size]; rfl
  have HX : Hid (X = putN r.num ∧ Y = putN r.den) := ⟨hX, hY⟩
  clear bx hB0 h hg hm hX hY
  go_enter Try.func14, Try.ntmps14
  go_wp2_with fail
  refine (rrmay_r _ _ _ _ _ _ _ r _ H.out.1 H.out.2.2.2.1 true ⟨fun _ => H.out.2.2.2.2, fun _ => rfl⟩).mono ?_
  rintro e w1 ⟨rfl, b1⟩
  have bx1 := H.out.2.1.below b1
  have H1 : Hid (RatAt w1 no nn nc eo en ec r ∧ RBox w1 w.heap.size neg no nn nc eo en ec ∧ Below w.heap.size w w1) := ⟨H.out.1.below b1, bx1, chain H.out.2.2.1 b1⟩
  have d0 := bx1.c0
  have d1 := bx1.c1
  clear b1 bx1 c0 c1 c2
  have HN : Hid (r.neg = neg) := H.out.2.2.2.1
  cases neg with
  | false =>
    go_wp2_with fail
    refine (rputNat_ok _ _ _ r.num _ H1.out.1.num H.out.2.2.2.2.num).mono ?_
    rw [← HX.out.1]
    rintro e w2 ⟨rfl, b2⟩
    have bx2 := H1.out.2.1.below b2
    have H2 : Hid (RatAt w2 no nn nc eo en ec r ∧ Below w.heap.size w w2) := ⟨H1.out.1.below b2, chain H1.out.2.2 b2⟩
    have e2 := bx2.c2
    clear b2 bx2 d0 d1
    go_wp2_with fail
    refine (rputNat_ok _ _ _ r.den _ H2.out.1.den H.out.2.2.2.2.den).mono ?_
    rw [← HX.out.2]
    rintro e w3 ⟨rfl, b3⟩
    have H3 : Hid (Below w.heap.size w w3) := chain H2.out.2 b3
    clear b3 e2
    go_wp2_with fail
    go_ret2
    refine ⟨?_, H3.out⟩
    unfold putR
    rw [HN.out, ← HX.out.1, ← HX.out.2]
    rfl
  | true =>
    go_wp2_with fail
    refine (rputNat_ok _ _ _ r.num _ H1.out.1.num H.out.2.2.2.2.num).mono ?_
    rw [← HX.out.1]
    rintro e w2 ⟨rfl, b2⟩
    have bx2 := H1.out.2.1.below b2
    have H2 : Hid (RatAt w2 no nn nc eo en ec r ∧ Below w.heap.size w w2) := ⟨H1.out.1.below b2, chain H1.out.2.2 b2⟩
    have e2 := bx2.c2
    clear b2 bx2 d0 d1
    go_wp2_with fail
    refine (rputNat_ok _ _ _ r.den _ H2.out.1.den H.out.2.2.2.2.den).mono ?_
    rw [← HX.out.2]
    rintro e w3 ⟨rfl, b3⟩
    have H3 : Hid (Below w.heap.size w w3) := chain H2.out.2 b3
    clear b3 e2
    go_wp2_with fail
    go_ret2
    refine ⟨?_, H3.out⟩
    unfold putR
    rw [HN.out, ← HX.out.1, ← HX.out.2]
    rfl

/-- What PutNat tells. -/
def NatPut (xs : List Int) (S : List UInt8) (k : Int) : Prop := (May xs ∧ S = putN xs ∧ k = 0) ∨ (¬ May xs ∧ S = [] ∧ k = 1)
theorem NatPut.ex (xs : List Int) : ∃ S k, NatPut xs S k ∧ S.length ≤ 100 := by
  by_cases h : May xs
  · exact ⟨putN xs, 0, .inl ⟨h, rfl, rfl⟩, by have := putN_small h; rwa [str_size] at this⟩
  · exact ⟨[], 1, .inr ⟨h, rfl, rfl⟩, by simp⟩
theorem putNat_told (ao : Option Addr) (n cap : Nat) (xs : List Int) (S : List UInt8) (k : Int) (w : World) (h : RowAt w ao n cap xs) (hp : NatPut xs S k) :
    Calls Try.prog 11 #[.slice ao n cap] w fun e w' => e = .returned (.tuple #[.string (str S), .int .i64 k]) ∧ Below w.heap.size w w' := by
  rcases hp with ⟨hm, rfl, rfl⟩ | ⟨hm, rfl, rfl⟩
  · exact putNat_ok ao n cap xs w h hm
  · exact putNat_bad ao n cap xs w h hm
theorem rputNat_told (ao : Option Addr) (n cap : Nat) (xs : List Int) (S : List UInt8) (k : Int) (w : World) (h : RowAt w ao n cap xs) (hp : NatPut xs S k) :
    Calls Try.prog 12 #[.slice ao n cap] w fun e w' => e = .returned (.tuple #[.string (str S), .int .i64 k]) ∧ Below w.heap.size w w' := by
  rcases hp with ⟨hm, rfl, rfl⟩ | ⟨hm, rfl, rfl⟩
  · exact rputNat_ok ao n cap xs w h hm
  · exact rputNat_bad ao n cap xs w h hm

/-- What PutRat tells. -/
def RatPut (r : RatL) (S : List UInt8) (k : Int) : Prop := (MayR r ∧ S = putR r ∧ k = 0) ∨ (¬ MayR r ∧ S = [] ∧ k = 1)
theorem RatPut.ex (r : RatL) : ∃ S k, RatPut r S k ∧ S.length ≤ 300 := by
  by_cases h : MayR r
  · exact ⟨putR r, 0, .inl ⟨h, rfl, rfl⟩, putR_small h⟩
  · exact ⟨[], 1, .inr ⟨h, rfl, rfl⟩, by simp⟩
theorem putRat_told (neg : Bool) (no : Option Addr) (nn nc : Nat) (eo : Option Addr) (en ec : Nat) (r : RatL) (S : List UInt8) (k : Int) (w : World) (h : RatAt w no nn nc eo en ec r) (hg : r.neg = neg) (hp : RatPut r S k) :
    Calls Try.prog 13 #[.agg #[.bool neg, .slice no nn nc, .slice eo en ec]] w fun e w' => e = .returned (.tuple #[.string (str S), .int .i64 k]) ∧ Below w.heap.size w w' := by
  rcases hp with ⟨hm, rfl, rfl⟩ | ⟨hm, rfl, rfl⟩
  · exact putRat_ok neg no nn nc eo en ec r w h hg hm
  · exact putRat_bad neg no nn nc eo en ec r w h hg hm
theorem rputRat_told (neg : Bool) (no : Option Addr) (nn nc : Nat) (eo : Option Addr) (en ec : Nat) (r : RatL) (S : List UInt8) (k : Int) (w : World) (h : RatAt w no nn nc eo en ec r) (hg : r.neg = neg) (hp : RatPut r S k) :
    Calls Try.prog 14 #[.agg #[.bool neg, .slice no nn nc, .slice eo en ec]] w fun e w' => e = .returned (.tuple #[.string (str S), .int .i64 k]) ∧ Below w.heap.size w w' := by
  rcases hp with ⟨hm, rfl, rfl⟩ | ⟨hm, rfl, rfl⟩
  · exact rputRat_ok neg no nn nc eo en ec r w h hg hm
  · exact rputRat_bad neg no nn nc eo en ec r w h hg hm
end Go.Proofs.Ytmmbgfbliekkgaa

/-! OctetPuts, walked. -/
namespace Go.Proofs.Ytmmbgfbliekkgaa
open Go.RowKit

set_option maxRecDepth 100000 in
set_option maxHeartbeats 8000000 in
theorem heavy_yes (ao : Option Addr) (na ca : Nat) (neg : Bool) (no : Option Addr) (nn nc : Nat) (eo : Option Addr) (en ec : Nat) (s : List UInt8) (w : World) (hna : (na : Int) ≤ 9223372036854775807) (hnn : (nn : Int) ≤ 9223372036854775807) (hen : (en : Int) ≤ 9223372036854775807) (hs : s.length ≤ 9223372036854775807)
    (h : 20 < na ∨ 20 < nn ∨ 20 < en ∨ 1000 < s.length) :
    Calls Try.prog 9 #[.slice ao na ca, .agg #[.bool neg, .slice no nn nc, .slice eo en ec], .string (str s)] w fun e w' => e = .returned (.bool true) ∧ Below w.heap.size w w' := by
  have hsz : (str s).size = s.length := str_size s
  have hs2 : (s.length : Int) ≤ 9223372036854775807 := by omega
  have bx := RBox.new w neg no nn nc eo en ec
  have hB0 : Below w.heap.size w (w.alloc (.cells #[.bool neg, .slice no nn nc, .slice eo en ec] 26)) := (Below.refl _ _).alloc (Nat.le_refl _) _
  have HB : Hid (Below w.heap.size w (w.alloc (.cells #[.bool neg, .slice no nn nc, .slice eo en ec] 26))) := hB0
  have c0 := bx.c0
  have c1 := bx.c1
  have c2 := bx.c2
  clear bx hB0 hs
  by_cases h1 : 20 < na
  · have g1 : (20 : Int) < (na : Int) := by omega
    clear h h1
    go_enter Try.func9, Try.ntmps9
    go_wp2
    go_ret
    exact ⟨rfl, HB.out⟩
  have g1 : ¬ (20 : Int) < (na : Int) := by omega
  by_cases h2 : 20 < nn
  · have g2 : (20 : Int) < (nn : Int) := by omega
    clear h h1 h2
    go_enter Try.func9, Try.ntmps9
    go_wp2
    go_ret
    exact ⟨rfl, HB.out⟩
  have g2 : ¬ (20 : Int) < (nn : Int) := by omega
  by_cases h3 : 20 < en
  · have g3 : (20 : Int) < (en : Int) := by omega
    clear h h1 h2 h3
    go_enter Try.func9, Try.ntmps9
    go_wp2
    go_ret
    exact ⟨rfl, HB.out⟩
  have g3 : ¬ (20 : Int) < (en : Int) := by omega
  have g4 : (1000 : Int) < (s.length : Int) := by omega
  clear h h1 h2 h3
  go_enter Try.func9, Try.ntmps9
  go_wp2
  go_ret
  exact ⟨rfl, HB.out⟩

set_option maxRecDepth 100000 in
set_option maxHeartbeats 8000000 in
theorem heavy_no (ao : Option Addr) (na ca : Nat) (neg : Bool) (no : Option Addr) (nn nc : Nat) (eo : Option Addr) (en ec : Nat) (s : List UInt8) (w : World) (h : ¬ (20 < na ∨ 20 < nn ∨ 20 < en ∨ 1000 < s.length)) :
    Calls Try.prog 9 #[.slice ao na ca, .agg #[.bool neg, .slice no nn nc, .slice eo en ec], .string (str s)] w fun e w' => e = .returned (.bool false) ∧ Below w.heap.size w w' := by
  have hsz : (str s).size = s.length := str_size s
  have bx := RBox.new w neg no nn nc eo en ec
  have hB0 : Below w.heap.size w (w.alloc (.cells #[.bool neg, .slice no nn nc, .slice eo en ec] 26)) := (Below.refl _ _).alloc (Nat.le_refl _) _
  have HB : Hid (Below w.heap.size w (w.alloc (.cells #[.bool neg, .slice no nn nc, .slice eo en ec] 26))) := hB0
  have c0 := bx.c0
  have c1 := bx.c1
  have c2 := bx.c2
  have g1 : ¬ (20 : Int) < (na : Int) := by omega
  have g2 : ¬ (20 : Int) < (nn : Int) := by omega
  have g3 : ¬ (20 : Int) < (en : Int) := by omega
  have g4 : ¬ (1000 : Int) < (s.length : Int) := by omega
  clear bx hB0 h
  go_enter Try.func9, Try.ntmps9
  go_wp2
  go_ret
  exact ⟨rfl, HB.out⟩

/-- What lies there: the arguments, and the number's variable. -/
structure PS (w W : World) (ao : Option Addr) (na ca : Nat) (xs : List Int) (neg : Bool) (no : Option Addr) (nn nc : Nat) (eo : Option Addr) (en ec : Nat) (r : RatL) : Prop where
  bel : Below w.heap.size w W
  row : RowAt W ao na ca xs
  rat : RatAt W no nn nc eo en ec r
  box : RBox W w.heap.size neg no nn nc eo en ec
theorem PS.next {w W W' : World} {ao : Option Addr} {na ca : Nat} {xs : List Int} {neg : Bool} {no : Option Addr} {nn nc : Nat} {eo : Option Addr} {en ec : Nat} {r : RatL} (h : PS w W ao na ca xs neg no nn nc eo en ec r) (b : Below W.heap.size W W') : PS w W' ao na ca xs neg no nn nc eo en ec r :=
  ⟨chain h.bel b, h.row.below b, h.rat.below b, h.box.below b⟩

set_option maxRecDepth 100000 in
set_option maxHeartbeats 8000000 in
theorem puts_walk (n : Nat) (ao : Option Addr) (na ca : Nat) (xs : List Int) (neg : Bool) (no : Option Addr) (nn nc : Nat) (eo : Option Addr) (en ec : Nat) (r : RatL) (s : List UInt8) (w : World)
    (hn : n < 18446744073709551616) (ha : RowAt w ao na ca xs) (hr : RatAt w no nn nc eo en ec r) (hg : r.neg = neg) (hl : s.length ≤ 9223372036854775807) :
    Calls Try.prog 3 #[.int .u64 (n : Int), .slice ao na ca, .agg #[.bool neg, .slice no nn nc, .slice eo en ec], .string (str s)] w fun e w' => e = .returned (.bool true) ∧ Below w.heap.size w w' := by
  have hB0 : Below w.heap.size w (w.alloc (.cells #[.bool neg, .slice no nn nc, .slice eo en ec] 26)) := (Below.refl _ _).alloc (Nat.le_refl _) _
  have bx := RBox.new w neg no nn nc eo en ec
  have HA : Hid (RowAt (w.alloc (.cells #[.bool neg, .slice no nn nc, .slice eo en ec] 26)) ao na ca xs ∧ RatAt (w.alloc (.cells #[.bool neg, .slice no nn nc, .slice eo en ec] 26)) no nn nc eo en ec r ∧ RBox (w.alloc (.cells #[.bool neg, .slice no nn nc, .slice eo en ec] 26)) w.heap.size neg no nn nc eo en ec ∧ Below w.heap.size w (w.alloc (.cells #[.bool neg, .slice no nn nc, .slice eo en ec] 26)) ∧ r.neg = neg ∧ n < 18446744073709551616 ∧ s.length ≤ 9223372036854775807 ∧ (na : Int) ≤ 9223372036854775807 ∧ (nn : Int) ≤ 9223372036854775807 ∧ (en : Int) ≤ 9223372036854775807) :=
    ⟨ha.below hB0, hr.below hB0, bx, hB0, hg, hn, hl, nn_most ha, nn_most hr.num, nn_most hr.den⟩
  have c0 := bx.c0
  have c1 := bx.c1
  have c2 := bx.c2
  have hsz : (str s).size = s.length := str_size s
  clear bx hB0 ha hr hg hn hl
  by_cases hv : 20 < na ∨ 20 < nn ∨ 20 < en ∨ 1000 < s.length
  · have HV : Hid (20 < na ∨ 20 < nn ∨ 20 < en ∨ 1000 < s.length) := hv
    clear hv
    go_enter Try.func3, Try.ntmps3
    go_wp2_with fail
    refine (heavy_yes ao na ca neg no nn nc eo en ec s _ HA.out.2.2.2.2.2.2.2.1 HA.out.2.2.2.2.2.2.2.2.1 HA.out.2.2.2.2.2.2.2.2.2 HA.out.2.2.2.2.2.2.1 HV.out).mono ?_
    rintro e w1 ⟨rfl, b1⟩
    have H1 : Hid (Below w.heap.size w w1) := chain HA.out.2.2.2.1 b1
    clear b1 c0 c1 c2
    go_wp2_with fail
    refine (shown_any _).mono ?_
    rintro e w2 ⟨rfl, b2⟩
    have H2 : Hid (Below w.heap.size w w2) := chain H1.out b2
    clear b2
    go_wp2_with fail
    go_ret
    exact ⟨rfl, H2.out⟩
  obtain ⟨S, k, hp, hS⟩ := NatPut.ex xs
  obtain ⟨T, j, hq, hT⟩ := RatPut.ex r
  have HV : Hid (¬ (20 < na ∨ 20 < nn ∨ 20 < en ∨ 1000 < s.length) ∧ s.length ≤ 80000 ∧ NatPut xs S k ∧ RatPut r T j) := ⟨hv, by omega, hp, hq⟩
  clear hv hp hq hS hT
  go_enter Try.func3, Try.ntmps3
  go_wp2_with fail
  refine (heavy_no ao na ca neg no nn nc eo en ec s _ HV.out.1).mono ?_
  rintro e w1 ⟨rfl, b1⟩
  have H1 : Hid (PS w w1 ao na ca xs neg no nn nc eo en ec r) := (PS.mk HA.out.2.2.2.1 HA.out.1 HA.out.2.1 HA.out.2.2.1).next b1
  clear b1 c0 c1 c2
  go_wp2_with fail
  refine (shown_any _).mono ?_
  rintro e w2 ⟨rfl, b2⟩
  have H2 : Hid (PS w w2 ao na ca xs neg no nn nc eo en ec r) := H1.out.next b2
  clear b2 H1
  go_wp2_with fail
  refine (putNat_told _ _ _ xs S k _ H2.out.row HV.out.2.2.1).mono ?_
  rintro e w3 ⟨rfl, b3⟩
  have H3 : Hid (PS w w3 ao na ca xs neg no nn nc eo en ec r) := H2.out.next b3
  clear b3 H2
  go_wp2_with fail
  refine (rputNat_told _ _ _ xs S k _ H3.out.row HV.out.2.2.1).mono ?_
  rintro e w4 ⟨rfl, b4⟩
  have H4 : Hid (PS w w4 ao na ca xs neg no nn nc eo en ec r) := H3.out.next b4
  clear b4 H3
  have p4 := H4.out.box
  have c0 := p4.c0
  have c1 := p4.c1
  have c2 := p4.c2
  clear p4
  go_wp2_with fail
  refine (putRat_told neg _ _ _ _ _ _ r T j _ H4.out.rat HA.out.2.2.2.2.1 HV.out.2.2.2).mono ?_
  rintro e w5 ⟨rfl, b5⟩
  have H5 : Hid (PS w w5 ao na ca xs neg no nn nc eo en ec r) := H4.out.next b5
  clear b5 H4 c0 c1 c2
  have p5 := H5.out.box
  have c0 := p5.c0
  have c1 := p5.c1
  have c2 := p5.c2
  clear p5
  go_wp2_with fail
  refine (rputRat_told neg _ _ _ _ _ _ r T j _ H5.out.rat HA.out.2.2.2.2.1 HV.out.2.2.2).mono ?_
  rintro e w6 ⟨rfl, b6⟩
  have H6 : Hid (PS w w6 ao na ca xs neg no nn nc eo en ec r) := H5.out.next b6
  clear b6 H5 c0 c1 c2
  go_wp2_with fail
  refine (put_n n _ HA.out.2.2.2.2.2.1).mono ?_
  rintro e w7 ⟨rfl, b7⟩
  have H7 : Hid (PS w w7 ao na ca xs neg no nn nc eo en ec r) := H6.out.next b7
  clear b7 H6
  go_wp2_with fail
  refine (rput_n n _ HA.out.2.2.2.2.2.1).mono ?_
  rintro e w8 ⟨rfl, b8⟩
  have H8 : Hid (PS w w8 ao na ca xs neg no nn nc eo en ec r) := H7.out.next b8
  clear b8 H7
  go_wp2_with fail
  refine (putText_any s _ HV.out.2.1).mono ?_
  rintro e w9 ⟨rfl, b9⟩
  have H9 : Hid (PS w w9 ao na ca xs neg no nn nc eo en ec r) := H8.out.next b9
  clear b9 H8
  go_wp2_with fail
  refine (rputText_any s _ HV.out.2.1).mono ?_
  rintro e w10 ⟨rfl, b10⟩
  have H10 : Hid (PS w w10 ao na ca xs neg no nn nc eo en ec r) := H9.out.next b10
  clear b10 H9
  go_wp2_with fail
  go_ret
  exact ⟨rfl, H10.out.bel⟩
end Go.Proofs.Ytmmbgfbliekkgaa

/-! What was put is got again: numbers, texts, naturals, ratios. -/
namespace Go.Proofs.Ytmmbgfbliekkgaa
open Go.RowKit

theorem limbs_back : ∀ l : List Int, Limbs l → limbsL (limbB l) l.length = l.reverse
  | [], _ => rfl
  | x :: l, h => by
    have e : limbB (x :: l) = lowB x.toNat 8 ++ limbB l := by simp [limbB]
    have h8 : (lowB x.toNat 8).length = 8 := lowB_length _ _
    have hx := h x (List.mem_cons_self)
    have hl : Limbs l := fun y hy => h y (List.mem_cons_of_mem _ hy)
    rw [e, List.length_cons, limbsL_succ _ _ (by rw [List.length_append, h8, limbB_length]; omega), List.drop_left' h8, List.take_left' h8, limbs_back l hl, List.reverse_cons, join_low]
    congr 2
    have h256 : (256 : Nat) ^ 8 = 18446744073709551616 := by decide
    rw [h256]
    unfold BB at hx
    omega

theorem natL_put (xs : List Int) (hm : May xs) (hl : Limbs xs) (r : List UInt8) : natL (putN xs ++ r) = .ok (xs, r) := by
  have h8 := hm.1
  have hr : Limbs xs.reverse := fun y hy => hl y (List.mem_reverse.1 hy)
  have hb := limbs_back xs.reverse hr
  rw [List.length_reverse, List.reverse_reverse] at hb
  have hlen : (limbB xs.reverse).length = 8 * xs.length := by rw [limbB_length, List.length_reverse]
  unfold natL putN
  rw [List.append_assoc, numL_put _ (by omega)]
  simp only
  rw [if_neg (by omega), if_neg (by rw [List.length_append, hlen]; omega), List.take_left' hlen, List.drop_left' hlen, hb, if_pos ((mayB_iff xs).2 hm)]

theorem textL_put (s : List UInt8) (hs : s.length ≤ 80000) (r : List UInt8) : textL (putT s ++ r) = .ok (s, r) := by
  unfold textL putT
  rw [List.append_assoc, numL_put _ (by omega)]
  simp only
  rw [if_neg (by rw [List.length_append]; omega), List.take_left' rfl, List.drop_left' rfl]

theorem RatIs.put (q : RatL) (hm : MayR q) (hl : LimR q) (r : List UInt8) : RatIs (putR q ++ r) (.ok (q, r)) := by
  obtain ⟨g, x, y⟩ := q
  have h1 := natL_put x hm.num hl.1 (putN y ++ r)
  have h2 := natL_put y hm.den hl.2 r
  have e : putR ⟨g, x, y⟩ ++ r = (if g then 1 else 0) :: (putN x ++ (putN y ++ r)) := by
    unfold putR
    rw [List.cons_append, List.append_assoc]
  rw [e]
  cases g with
  | false =>
    show RatIs ((0 : UInt8) :: (putN x ++ (putN y ++ r))) _
    unfold RatIs
    simp only
    rw [if_neg (by decide), h1]
    simp only
    rw [h2]
    exact ⟨fun _ => rfl, fun h => absurd hm h⟩
  | true =>
    show RatIs ((1 : UInt8) :: (putN x ++ (putN y ++ r))) _
    unfold RatIs
    simp only
    rw [if_neg (by decide), h1]
    simp only
    rw [h2]
    exact ⟨fun _ => rfl, fun h => absurd hm h⟩
end Go.Proofs.Ytmmbgfbliekkgaa

/-! OctetBack, walked. -/
namespace Go.Proofs.Ytmmbgfbliekkgaa
open Go.RowKit

set_option maxRecDepth 100000 in
set_option maxHeartbeats 16000000 in
theorem back_heavy (n : Nat) (ao : Option Addr) (na ca : Nat) (xs : List Int) (neg : Bool) (no : Option Addr) (nn nc : Nat) (eo : Option Addr) (en ec : Nat) (r : RatL) (s rest : List UInt8) (w : World)
    (hn : n < 18446744073709551616) (ha : RowAt w ao na ca xs) (hr : RatAt w no nn nc eo en ec r) (hg : r.neg = neg) (hl : s.length ≤ 9223372036854775807) (_hlr : rest.length ≤ 9223372036854775807)
    (hv : 20 < na ∨ 20 < nn ∨ 20 < en ∨ 1000 < s.length) :
    Calls Try.prog 5 #[.int .u64 (n : Int), .slice ao na ca, .agg #[.bool neg, .slice no nn nc, .slice eo en ec], .string (str s), .string (str rest)] w fun e w' => e = .returned (.bool true) ∧ Below w.heap.size w w' := by
  have hB0 : Below w.heap.size w (w.alloc (.cells #[.bool neg, .slice no nn nc, .slice eo en ec] 26)) := (Below.refl _ _).alloc (Nat.le_refl _) _
  have bx := RBox.new w neg no nn nc eo en ec
  have HP : Hid (PS w (w.alloc (.cells #[.bool neg, .slice no nn nc, .slice eo en ec] 26)) ao na ca xs neg no nn nc eo en ec r) := ⟨hB0, ha.below hB0, hr.below hB0, bx⟩
  have HA : Hid (r.neg = neg ∧ n < 18446744073709551616 ∧ s.length ≤ 9223372036854775807 ∧ (na : Int) ≤ 9223372036854775807 ∧ (nn : Int) ≤ 9223372036854775807 ∧ (en : Int) ≤ 9223372036854775807) :=
    ⟨hg, hn, hl, nn_most ha, nn_most hr.num, nn_most hr.den⟩
  have c0 := bx.c0
  have c1 := bx.c1
  have c2 := bx.c2
  have hsz : (str s).size = s.length := str_size s
  have hsr : (str rest).size = rest.length := str_size rest
  have HV : Hid (20 < na ∨ 20 < nn ∨ 20 < en ∨ 1000 < s.length) := hv
  clear bx hB0 ha hr hg hn hl _hlr hv
  go_enter Try.func5, Try.ntmps5
  go_wp2_with fail
  refine (heavy_yes ao na ca neg no nn nc eo en ec s _ HA.out.2.2.2.1 HA.out.2.2.2.2.1 HA.out.2.2.2.2.2 HA.out.2.2.1 HV.out).mono ?_
  rintro e w1 ⟨rfl, b1⟩
  have H1 : Hid (PS w w1 ao na ca xs neg no nn nc eo en ec r) := HP.out.next b1
  clear b1 HP c0 c1 c2
  go_wp2_with fail
  refine (shown_any _).mono ?_
  rintro e w2 ⟨rfl, b2⟩
  have H2 : Hid (PS w w2 ao na ca xs neg no nn nc eo en ec r) := H1.out.next b2
  clear b2 H1
  go_wp2_with fail
  go_ret
  exact ⟨rfl, H2.out.bel⟩

set_option maxRecDepth 100000 in
set_option maxHeartbeats 16000000 in
theorem back_long (n : Nat) (ao : Option Addr) (na ca : Nat) (xs : List Int) (neg : Bool) (no : Option Addr) (nn nc : Nat) (eo : Option Addr) (en ec : Nat) (r : RatL) (s rest : List UInt8) (w : World)
    (hn : n < 18446744073709551616) (ha : RowAt w ao na ca xs) (hr : RatAt w no nn nc eo en ec r) (hg : r.neg = neg) (hl : s.length ≤ 9223372036854775807) (hlr : rest.length ≤ 9223372036854775807)
    (hv : ¬ (20 < na ∨ 20 < nn ∨ 20 < en ∨ 1000 < s.length)) (h3 : 300 < rest.length) :
    Calls Try.prog 5 #[.int .u64 (n : Int), .slice ao na ca, .agg #[.bool neg, .slice no nn nc, .slice eo en ec], .string (str s), .string (str rest)] w fun e w' => e = .returned (.bool true) ∧ Below w.heap.size w w' := by
  have hB0 : Below w.heap.size w (w.alloc (.cells #[.bool neg, .slice no nn nc, .slice eo en ec] 26)) := (Below.refl _ _).alloc (Nat.le_refl _) _
  have bx := RBox.new w neg no nn nc eo en ec
  have HP : Hid (PS w (w.alloc (.cells #[.bool neg, .slice no nn nc, .slice eo en ec] 26)) ao na ca xs neg no nn nc eo en ec r) := ⟨hB0, ha.below hB0, hr.below hB0, bx⟩
  have HA : Hid (r.neg = neg ∧ n < 18446744073709551616 ∧ s.length ≤ 9223372036854775807 ∧ (na : Int) ≤ 9223372036854775807 ∧ (nn : Int) ≤ 9223372036854775807 ∧ (en : Int) ≤ 9223372036854775807) :=
    ⟨hg, hn, hl, nn_most ha, nn_most hr.num, nn_most hr.den⟩
  have c0 := bx.c0
  have c1 := bx.c1
  have c2 := bx.c2
  have hsz : (str s).size = s.length := str_size s
  have hsr : (str rest).size = rest.length := str_size rest
  have HV : Hid (¬ (20 < na ∨ 20 < nn ∨ 20 < en ∨ 1000 < s.length)) := hv
  have g3 : (300 : Int) < (rest.length : Int) := by omega
  have g4 : (rest.length : Int) ≤ 9223372036854775807 := by omega
  clear bx hB0 ha hr hg hn hl hlr hv h3
  go_enter Try.func5, Try.ntmps5
  go_wp2_with fail
  refine (heavy_no ao na ca neg no nn nc eo en ec s _ HV.out).mono ?_
  rintro e w1 ⟨rfl, b1⟩
  have H1 : Hid (PS w w1 ao na ca xs neg no nn nc eo en ec r) := HP.out.next b1
  clear b1 HP c0 c1 c2
  go_wp2_with fail
  refine (shown_any _).mono ?_
  rintro e w2 ⟨rfl, b2⟩
  have H2 : Hid (PS w w2 ao na ca xs neg no nn nc eo en ec r) := H1.out.next b2
  clear b2 H1
  go_wp2_with fail
  go_ret
  exact ⟨rfl, H2.out.bel⟩

set_option maxRecDepth 100000 in
set_option maxHeartbeats 16000000 in
theorem back_00 (n : Nat) (ao : Option Addr) (na ca : Nat) (xs : List Int) (neg : Bool) (no : Option Addr) (nn nc : Nat) (eo : Option Addr) (en ec : Nat) (r : RatL) (s rest : List UInt8) (w : World)
    (hn : n < 18446744073709551616) (ha : RowAt w ao na ca xs) (hr : RatAt w no nn nc eo en ec r) (hg : r.neg = neg) (hl : s.length ≤ 9223372036854775807) (hlr : rest.length ≤ 9223372036854775807)
    (hv : ¬ (20 < na ∨ 20 < nn ∨ 20 < en ∨ 1000 < s.length)) (h3 : ¬ 300 < rest.length) (hmx : ¬ May xs) (hmr : ¬ MayR r) :
    Calls Try.prog 5 #[.int .u64 (n : Int), .slice ao na ca, .agg #[.bool neg, .slice no nn nc, .slice eo en ec], .string (str s), .string (str rest)] w fun e w' => e = .returned (.bool true) ∧ Below w.heap.size w w' := by
  have hB0 : Below w.heap.size w (w.alloc (.cells #[.bool neg, .slice no nn nc, .slice eo en ec] 26)) := (Below.refl _ _).alloc (Nat.le_refl _) _
  have bx := RBox.new w neg no nn nc eo en ec
  have HP : Hid (PS w (w.alloc (.cells #[.bool neg, .slice no nn nc, .slice eo en ec] 26)) ao na ca xs neg no nn nc eo en ec r) := ⟨hB0, ha.below hB0, hr.below hB0, bx⟩
  have HA : Hid (r.neg = neg ∧ n < 18446744073709551616 ∧ s.length ≤ 9223372036854775807 ∧ (na : Int) ≤ 9223372036854775807 ∧ (nn : Int) ≤ 9223372036854775807 ∧ (en : Int) ≤ 9223372036854775807) :=
    ⟨hg, hn, hl, nn_most ha, nn_most hr.num, nn_most hr.den⟩
  have c0 := bx.c0
  have c1 := bx.c1
  have c2 := bx.c2
  have hsz : (str s).size = s.length := str_size s
  have hsr : (str rest).size = rest.length := str_size rest
  obtain ⟨A, hA⟩ : ∃ A, A = putL n ++ rest := ⟨_, rfl⟩
  obtain ⟨T, hT⟩ : ∃ T, T = putT s ++ rest := ⟨_, rfl⟩
  have a1 : str (putL n) ++ str rest = str A := by rw [str_append, hA]
  have a2 : str (putT s) ++ str rest = str T := by rw [str_append, hT]
  have z1 : (str (putL n)).size ≤ 9 := by rw [str_size]; exact putL_small n hn
  have z2 : (str (putT s)).size ≤ 1009 := by
    have := putL_small s.length (by omega)
    rw [str_size]
    unfold putT
    rw [List.length_append]
    omega
  have HV : Hid (¬ (20 < na ∨ 20 < nn ∨ 20 < en ∨ 1000 < s.length) ∧ s.length ≤ 80000 ∧ numL A = .ok (n, rest) ∧ A.length ≤ 80000 ∧ textL T = .ok (s, rest) ∧ T.length ≤ 70000) :=
    ⟨hv, by omega, by rw [hA]; exact numL_put n hn rest, by rw [hA, List.length_append]; have := putL_small n hn; omega, by rw [hT]; exact textL_put s (by omega) rest, by rw [hT, List.length_append]; rw [str_size] at z2; omega⟩
  have g3 : ¬ (300 : Int) < (rest.length : Int) := by omega
  have HX : Hid (NatPut xs [] 1) := .inr ⟨hmx, rfl, rfl⟩
  have HR : Hid (RatPut r [] 1) := .inr ⟨hmr, rfl, rfl⟩
  have s0 : str [] = ByteArray.mk #[] := rfl
  clear bx hB0 ha hg hn hl hlr hv h3 hA hT hr hmx hmr
  go_enter Try.func5, Try.ntmps5
  go_wp2_with fail
  refine (heavy_no ao na ca neg no nn nc eo en ec s _ HV.out.1).mono ?_
  rintro e w1 ⟨rfl, b1⟩
  have H1 : Hid (PS w w1 ao na ca xs neg no nn nc eo en ec r) := HP.out.next b1
  clear b1 HP c0 c1 c2
  go_wp2_with fail
  refine (shown_any _).mono ?_
  rintro e w2 ⟨rfl, b2⟩
  have H2 : Hid (PS w w2 ao na ca xs neg no nn nc eo en ec r) := H1.out.next b2
  clear b2 H1
  go_wp2_with fail
  refine (put_n n _ HA.out.2.1).mono ?_
  rintro e w3 ⟨rfl, b3⟩
  have H3 : Hid (PS w w3 ao na ca xs neg no nn nc eo en ec r) := H2.out.next b3
  clear b3 H2
  go_wp2_with fail
  refine (get_ok A n rest _ HV.out.2.2.1 HV.out.2.2.2.1).mono ?_
  rintro e w4 ⟨rfl, b4⟩
  have H4 : Hid (PS w w4 ao na ca xs neg no nn nc eo en ec r) := H3.out.next b4
  clear b4 H3
  go_wp2_with fail
  refine (putText_any s _ HV.out.2.1).mono ?_
  rintro e w5 ⟨rfl, b5⟩
  have H5 : Hid (PS w w5 ao na ca xs neg no nn nc eo en ec r) := H4.out.next b5
  clear b5 H4
  go_wp2_with fail
  refine (getText_ok T s rest _ HV.out.2.2.2.2.1 (Nat.le_trans HV.out.2.2.2.2.2 (by decide))).mono ?_
  rintro e w6 ⟨rfl, b6⟩
  have H6 : Hid (PS w w6 ao na ca xs neg no nn nc eo en ec r) := H5.out.next b6
  clear b6 H5
  go_wp2_with fail
  refine (putNat_told _ _ _ xs [] 1 _ H6.out.row HX.out).mono ?_
  rintro e w9 ⟨rfl, b9⟩
  have H9 : Hid (PS w w9 ao na ca xs neg no nn nc eo en ec r) := H6.out.next b9
  clear b9 H6
  have p9 := H9.out.box
  have c0 := p9.c0
  have c1 := p9.c1
  have c2 := p9.c2
  clear p9
  go_wp2_with fail
  refine (putRat_told neg _ _ _ _ _ _ r [] 1 _ H9.out.rat HA.out.1 HR.out).mono ?_
  rintro e w10 ⟨rfl, b10⟩
  have H10 : Hid (PS w w10 ao na ca xs neg no nn nc eo en ec r) := H9.out.next b10
  clear b10 H9 c0 c1 c2
  go_wp2_with fail
  go_ret
  exact ⟨rfl, H10.out.bel⟩

set_option maxRecDepth 100000 in
set_option maxHeartbeats 16000000 in
theorem back_01 (n : Nat) (ao : Option Addr) (na ca : Nat) (xs : List Int) (neg : Bool) (no : Option Addr) (nn nc : Nat) (eo : Option Addr) (en ec : Nat) (r : RatL) (s rest : List UInt8) (w : World)
    (hn : n < 18446744073709551616) (ha : RowAt w ao na ca xs) (hr : RatAt w no nn nc eo en ec r) (hg : r.neg = neg) (hl : s.length ≤ 9223372036854775807) (hlr : rest.length ≤ 9223372036854775807)
    (hv : ¬ (20 < na ∨ 20 < nn ∨ 20 < en ∨ 1000 < s.length)) (h3 : ¬ 300 < rest.length) (hmx : ¬ May xs) (hmr : MayR r) :
    Calls Try.prog 5 #[.int .u64 (n : Int), .slice ao na ca, .agg #[.bool neg, .slice no nn nc, .slice eo en ec], .string (str s), .string (str rest)] w fun e w' => e = .returned (.bool true) ∧ Below w.heap.size w w' := by
  have hB0 : Below w.heap.size w (w.alloc (.cells #[.bool neg, .slice no nn nc, .slice eo en ec] 26)) := (Below.refl _ _).alloc (Nat.le_refl _) _
  have bx := RBox.new w neg no nn nc eo en ec
  have HP : Hid (PS w (w.alloc (.cells #[.bool neg, .slice no nn nc, .slice eo en ec] 26)) ao na ca xs neg no nn nc eo en ec r) := ⟨hB0, ha.below hB0, hr.below hB0, bx⟩
  have HA : Hid (r.neg = neg ∧ n < 18446744073709551616 ∧ s.length ≤ 9223372036854775807 ∧ (na : Int) ≤ 9223372036854775807 ∧ (nn : Int) ≤ 9223372036854775807 ∧ (en : Int) ≤ 9223372036854775807) :=
    ⟨hg, hn, hl, nn_most ha, nn_most hr.num, nn_most hr.den⟩
  have c0 := bx.c0
  have c1 := bx.c1
  have c2 := bx.c2
  have hsz : (str s).size = s.length := str_size s
  have hsr : (str rest).size = rest.length := str_size rest
  obtain ⟨A, hA⟩ : ∃ A, A = putL n ++ rest := ⟨_, rfl⟩
  obtain ⟨T, hT⟩ : ∃ T, T = putT s ++ rest := ⟨_, rfl⟩
  have a1 : str (putL n) ++ str rest = str A := by rw [str_append, hA]
  have a2 : str (putT s) ++ str rest = str T := by rw [str_append, hT]
  have z1 : (str (putL n)).size ≤ 9 := by rw [str_size]; exact putL_small n hn
  have z2 : (str (putT s)).size ≤ 1009 := by
    have := putL_small s.length (by omega)
    rw [str_size]
    unfold putT
    rw [List.length_append]
    omega
  have HV : Hid (¬ (20 < na ∨ 20 < nn ∨ 20 < en ∨ 1000 < s.length) ∧ s.length ≤ 80000 ∧ numL A = .ok (n, rest) ∧ A.length ≤ 80000 ∧ textL T = .ok (s, rest) ∧ T.length ≤ 70000) :=
    ⟨hv, by omega, by rw [hA]; exact numL_put n hn rest, by rw [hA, List.length_append]; have := putL_small n hn; omega, by rw [hT]; exact textL_put s (by omega) rest, by rw [hT, List.length_append]; rw [str_size] at z2; omega⟩
  have g3 : ¬ (300 : Int) < (rest.length : Int) := by omega
  have HX : Hid (NatPut xs [] 1) := .inr ⟨hmx, rfl, rfl⟩
  obtain ⟨R, hR⟩ : ∃ R, R = putR r ++ rest := ⟨_, rfl⟩
  have a4 : str (putR r) ++ str rest = str R := by rw [str_append, hR]
  have z4 : (str (putR r)).size ≤ 300 := by rw [str_size]; exact putR_small hmr
  have HR : Hid (RatPut r (putR r) 0 ∧ RatIs R (.ok (r, rest)) ∧ R.length ≤ 70000) :=
    ⟨.inl ⟨hmr, rfl, rfl⟩, by rw [hR]; exact RatIs.put r hmr hr.lim rest, by rw [hR, List.length_append]; rw [str_size] at z4; omega⟩
  clear bx hB0 ha hg hn hl hlr hv h3 hA hT hR hr hmx hmr
  go_enter Try.func5, Try.ntmps5
  go_wp2_with fail
  refine (heavy_no ao na ca neg no nn nc eo en ec s _ HV.out.1).mono ?_
  rintro e w1 ⟨rfl, b1⟩
  have H1 : Hid (PS w w1 ao na ca xs neg no nn nc eo en ec r) := HP.out.next b1
  clear b1 HP c0 c1 c2
  go_wp2_with fail
  refine (shown_any _).mono ?_
  rintro e w2 ⟨rfl, b2⟩
  have H2 : Hid (PS w w2 ao na ca xs neg no nn nc eo en ec r) := H1.out.next b2
  clear b2 H1
  go_wp2_with fail
  refine (put_n n _ HA.out.2.1).mono ?_
  rintro e w3 ⟨rfl, b3⟩
  have H3 : Hid (PS w w3 ao na ca xs neg no nn nc eo en ec r) := H2.out.next b3
  clear b3 H2
  go_wp2_with fail
  refine (get_ok A n rest _ HV.out.2.2.1 HV.out.2.2.2.1).mono ?_
  rintro e w4 ⟨rfl, b4⟩
  have H4 : Hid (PS w w4 ao na ca xs neg no nn nc eo en ec r) := H3.out.next b4
  clear b4 H3
  go_wp2_with fail
  refine (putText_any s _ HV.out.2.1).mono ?_
  rintro e w5 ⟨rfl, b5⟩
  have H5 : Hid (PS w w5 ao na ca xs neg no nn nc eo en ec r) := H4.out.next b5
  clear b5 H4
  go_wp2_with fail
  refine (getText_ok T s rest _ HV.out.2.2.2.2.1 (Nat.le_trans HV.out.2.2.2.2.2 (by decide))).mono ?_
  rintro e w6 ⟨rfl, b6⟩
  have H6 : Hid (PS w w6 ao na ca xs neg no nn nc eo en ec r) := H5.out.next b6
  clear b6 H5
  go_wp2_with fail
  refine (putNat_told _ _ _ xs [] 1 _ H6.out.row HX.out).mono ?_
  rintro e w9 ⟨rfl, b9⟩
  have H9 : Hid (PS w w9 ao na ca xs neg no nn nc eo en ec r) := H6.out.next b9
  clear b9 H6
  have p9 := H9.out.box
  have c0 := p9.c0
  have c1 := p9.c1
  have c2 := p9.c2
  clear p9
  go_wp2_with fail
  refine (putRat_told neg _ _ _ _ _ _ r (putR r) 0 _ H9.out.rat HA.out.1 HR.out.1).mono ?_
  rintro e w10 ⟨rfl, b10⟩
  have H10 : Hid (PS w w10 ao na ca xs neg no nn nc eo en ec r) := H9.out.next b10
  clear b10 H9 c0 c1 c2
  go_wp2_with fail
  refine (getRat_ok R r rest _ HR.out.2.1 HR.out.2.2).mono ?_
  rw [HA.out.1]
  rintro e w11 ⟨po, pn, qo, qn, rfl, rq, b11⟩
  have hb : Below w11.heap.size w11 (w11.alloc (.cells #[.bool neg, .slice po pn pn, .slice qo qn qn] 26)) := (Below.refl _ _).alloc (Nat.le_refl _) _
  have bx := RBox.new w11 neg po pn pn qo qn qn
  have H11 : Hid (PS w (w11.alloc (.cells #[.bool neg, .slice po pn pn, .slice qo qn qn] 26)) ao na ca xs neg no nn nc eo en ec r ∧ RatAt (w11.alloc (.cells #[.bool neg, .slice po pn pn, .slice qo qn qn] 26)) po pn pn qo qn qn r) := ⟨(H10.out.next b11).next hb, rq.below hb⟩
  have c0 := bx.c0
  have c1 := bx.c1
  have c2 := bx.c2
  have p11 := H11.out.1.box
  have d0 := p11.c0
  have d1 := p11.c1
  have d2 := p11.c2
  clear b11 rq hb bx p11 H10
  go_wp2_with fail
  refine (rsame_r neg _ _ _ _ _ _ _ _ _ _ _ _ r _ H11.out.2 H11.out.1.rat).mono ?_
  rintro e w12 ⟨rfl, b12⟩
  have H12 : Hid (PS w w12 ao na ca xs neg no nn nc eo en ec r) := H11.out.1.next b12
  clear b12 H11 c0 c1 c2 d0 d1 d2
  go_wp2_with fail
  go_ret
  exact ⟨rfl, H12.out.bel⟩

set_option maxRecDepth 100000 in
set_option maxHeartbeats 16000000 in
theorem back_10 (n : Nat) (ao : Option Addr) (na ca : Nat) (xs : List Int) (neg : Bool) (no : Option Addr) (nn nc : Nat) (eo : Option Addr) (en ec : Nat) (r : RatL) (s rest : List UInt8) (w : World)
    (hn : n < 18446744073709551616) (ha : RowAt w ao na ca xs) (hr : RatAt w no nn nc eo en ec r) (hg : r.neg = neg) (hl : s.length ≤ 9223372036854775807) (hlr : rest.length ≤ 9223372036854775807)
    (hv : ¬ (20 < na ∨ 20 < nn ∨ 20 < en ∨ 1000 < s.length)) (h3 : ¬ 300 < rest.length) (hmx : May xs) (hmr : ¬ MayR r) :
    Calls Try.prog 5 #[.int .u64 (n : Int), .slice ao na ca, .agg #[.bool neg, .slice no nn nc, .slice eo en ec], .string (str s), .string (str rest)] w fun e w' => e = .returned (.bool true) ∧ Below w.heap.size w w' := by
  have hB0 : Below w.heap.size w (w.alloc (.cells #[.bool neg, .slice no nn nc, .slice eo en ec] 26)) := (Below.refl _ _).alloc (Nat.le_refl _) _
  have bx := RBox.new w neg no nn nc eo en ec
  have HP : Hid (PS w (w.alloc (.cells #[.bool neg, .slice no nn nc, .slice eo en ec] 26)) ao na ca xs neg no nn nc eo en ec r) := ⟨hB0, ha.below hB0, hr.below hB0, bx⟩
  have HA : Hid (r.neg = neg ∧ n < 18446744073709551616 ∧ s.length ≤ 9223372036854775807 ∧ (na : Int) ≤ 9223372036854775807 ∧ (nn : Int) ≤ 9223372036854775807 ∧ (en : Int) ≤ 9223372036854775807) :=
    ⟨hg, hn, hl, nn_most ha, nn_most hr.num, nn_most hr.den⟩
  have c0 := bx.c0
  have c1 := bx.c1
  have c2 := bx.c2
  have hsz : (str s).size = s.length := str_size s
  have hsr : (str rest).size = rest.length := str_size rest
  obtain ⟨A, hA⟩ : ∃ A, A = putL n ++ rest := ⟨_, rfl⟩
  obtain ⟨T, hT⟩ : ∃ T, T = putT s ++ rest := ⟨_, rfl⟩
  have a1 : str (putL n) ++ str rest = str A := by rw [str_append, hA]
  have a2 : str (putT s) ++ str rest = str T := by rw [str_append, hT]
  have z1 : (str (putL n)).size ≤ 9 := by rw [str_size]; exact putL_small n hn
  have z2 : (str (putT s)).size ≤ 1009 := by
    have := putL_small s.length (by omega)
    rw [str_size]
    unfold putT
    rw [List.length_append]
    omega
  have HV : Hid (¬ (20 < na ∨ 20 < nn ∨ 20 < en ∨ 1000 < s.length) ∧ s.length ≤ 80000 ∧ numL A = .ok (n, rest) ∧ A.length ≤ 80000 ∧ textL T = .ok (s, rest) ∧ T.length ≤ 70000) :=
    ⟨hv, by omega, by rw [hA]; exact numL_put n hn rest, by rw [hA, List.length_append]; have := putL_small n hn; omega, by rw [hT]; exact textL_put s (by omega) rest, by rw [hT, List.length_append]; rw [str_size] at z2; omega⟩
  have g3 : ¬ (300 : Int) < (rest.length : Int) := by omega
  obtain ⟨N, hN⟩ : ∃ N, N = putN xs ++ rest := ⟨_, rfl⟩
  have a3 : str (putN xs) ++ str rest = str N := by rw [str_append, hN]
  have z3 := putN_small hmx
  have HX : Hid (NatPut xs (putN xs) 0 ∧ natL N = .ok (xs, rest) ∧ N.length ≤ 70000) :=
    ⟨.inl ⟨hmx, rfl, rfl⟩, by rw [hN]; exact natL_put xs hmx ha.limbs rest, by rw [hN, List.length_append]; rw [str_size] at z3; omega⟩
  have HR : Hid (RatPut r [] 1) := .inr ⟨hmr, rfl, rfl⟩
  have s0 : str [] = ByteArray.mk #[] := rfl
  clear bx hB0 ha hg hn hl hlr hv h3 hA hT hN hr hmx hmr
  go_enter Try.func5, Try.ntmps5
  go_wp2_with fail
  refine (heavy_no ao na ca neg no nn nc eo en ec s _ HV.out.1).mono ?_
  rintro e w1 ⟨rfl, b1⟩
  have H1 : Hid (PS w w1 ao na ca xs neg no nn nc eo en ec r) := HP.out.next b1
  clear b1 HP c0 c1 c2
  go_wp2_with fail
  refine (shown_any _).mono ?_
  rintro e w2 ⟨rfl, b2⟩
  have H2 : Hid (PS w w2 ao na ca xs neg no nn nc eo en ec r) := H1.out.next b2
  clear b2 H1
  go_wp2_with fail
  refine (put_n n _ HA.out.2.1).mono ?_
  rintro e w3 ⟨rfl, b3⟩
  have H3 : Hid (PS w w3 ao na ca xs neg no nn nc eo en ec r) := H2.out.next b3
  clear b3 H2
  go_wp2_with fail
  refine (get_ok A n rest _ HV.out.2.2.1 HV.out.2.2.2.1).mono ?_
  rintro e w4 ⟨rfl, b4⟩
  have H4 : Hid (PS w w4 ao na ca xs neg no nn nc eo en ec r) := H3.out.next b4
  clear b4 H3
  go_wp2_with fail
  refine (putText_any s _ HV.out.2.1).mono ?_
  rintro e w5 ⟨rfl, b5⟩
  have H5 : Hid (PS w w5 ao na ca xs neg no nn nc eo en ec r) := H4.out.next b5
  clear b5 H4
  go_wp2_with fail
  refine (getText_ok T s rest _ HV.out.2.2.2.2.1 (Nat.le_trans HV.out.2.2.2.2.2 (by decide))).mono ?_
  rintro e w6 ⟨rfl, b6⟩
  have H6 : Hid (PS w w6 ao na ca xs neg no nn nc eo en ec r) := H5.out.next b6
  clear b6 H5
  go_wp2_with fail
  refine (putNat_told _ _ _ xs (putN xs) 0 _ H6.out.row HX.out.1).mono ?_
  rintro e w7 ⟨rfl, b7⟩
  have H7 : Hid (PS w w7 ao na ca xs neg no nn nc eo en ec r) := H6.out.next b7
  clear b7 H6
  go_wp2_with fail
  refine (getNat_ok N xs rest _ HX.out.2.1 (Nat.le_trans HX.out.2.2 (by decide))).mono ?_
  rintro e w8 ⟨yo, ym, rfl, ry, _, b8⟩
  have H8 : Hid (PS w w8 ao na ca xs neg no nn nc eo en ec r ∧ RowAt w8 yo ym ym xs) := ⟨H7.out.next b8, ry⟩
  clear b8 ry H7
  go_wp2_with fail
  refine (nsame_b _ _ _ _ _ _ xs xs _ H8.out.2 H8.out.1.row true ⟨fun _ => rfl, fun _ => rfl⟩).mono ?_
  rintro e w9 ⟨rfl, b9⟩
  have H9 : Hid (PS w w9 ao na ca xs neg no nn nc eo en ec r) := H8.out.1.next b9
  clear b9 H8
  have p9 := H9.out.box
  have c0 := p9.c0
  have c1 := p9.c1
  have c2 := p9.c2
  clear p9
  go_wp2_with fail
  refine (putRat_told neg _ _ _ _ _ _ r [] 1 _ H9.out.rat HA.out.1 HR.out).mono ?_
  rintro e w10 ⟨rfl, b10⟩
  have H10 : Hid (PS w w10 ao na ca xs neg no nn nc eo en ec r) := H9.out.next b10
  clear b10 H9 c0 c1 c2
  go_wp2_with fail
  go_ret
  exact ⟨rfl, H10.out.bel⟩

set_option maxRecDepth 100000 in
set_option maxHeartbeats 16000000 in
theorem back_11 (n : Nat) (ao : Option Addr) (na ca : Nat) (xs : List Int) (neg : Bool) (no : Option Addr) (nn nc : Nat) (eo : Option Addr) (en ec : Nat) (r : RatL) (s rest : List UInt8) (w : World)
    (hn : n < 18446744073709551616) (ha : RowAt w ao na ca xs) (hr : RatAt w no nn nc eo en ec r) (hg : r.neg = neg) (hl : s.length ≤ 9223372036854775807) (hlr : rest.length ≤ 9223372036854775807)
    (hv : ¬ (20 < na ∨ 20 < nn ∨ 20 < en ∨ 1000 < s.length)) (h3 : ¬ 300 < rest.length) (hmx : May xs) (hmr : MayR r) :
    Calls Try.prog 5 #[.int .u64 (n : Int), .slice ao na ca, .agg #[.bool neg, .slice no nn nc, .slice eo en ec], .string (str s), .string (str rest)] w fun e w' => e = .returned (.bool true) ∧ Below w.heap.size w w' := by
  have hB0 : Below w.heap.size w (w.alloc (.cells #[.bool neg, .slice no nn nc, .slice eo en ec] 26)) := (Below.refl _ _).alloc (Nat.le_refl _) _
  have bx := RBox.new w neg no nn nc eo en ec
  have HP : Hid (PS w (w.alloc (.cells #[.bool neg, .slice no nn nc, .slice eo en ec] 26)) ao na ca xs neg no nn nc eo en ec r) := ⟨hB0, ha.below hB0, hr.below hB0, bx⟩
  have HA : Hid (r.neg = neg ∧ n < 18446744073709551616 ∧ s.length ≤ 9223372036854775807 ∧ (na : Int) ≤ 9223372036854775807 ∧ (nn : Int) ≤ 9223372036854775807 ∧ (en : Int) ≤ 9223372036854775807) :=
    ⟨hg, hn, hl, nn_most ha, nn_most hr.num, nn_most hr.den⟩
  have c0 := bx.c0
  have c1 := bx.c1
  have c2 := bx.c2
  have hsz : (str s).size = s.length := str_size s
  have hsr : (str rest).size = rest.length := str_size rest
  obtain ⟨A, hA⟩ : ∃ A, A = putL n ++ rest := ⟨_, rfl⟩
  obtain ⟨T, hT⟩ : ∃ T, T = putT s ++ rest := ⟨_, rfl⟩
  have a1 : str (putL n) ++ str rest = str A := by rw [str_append, hA]
  have a2 : str (putT s) ++ str rest = str T := by rw [str_append, hT]
  have z1 : (str (putL n)).size ≤ 9 := by rw [str_size]; exact putL_small n hn
  have z2 : (str (putT s)).size ≤ 1009 := by
    have := putL_small s.length (by omega)
    rw [str_size]
    unfold putT
    rw [List.length_append]
    omega
  have HV : Hid (¬ (20 < na ∨ 20 < nn ∨ 20 < en ∨ 1000 < s.length) ∧ s.length ≤ 80000 ∧ numL A = .ok (n, rest) ∧ A.length ≤ 80000 ∧ textL T = .ok (s, rest) ∧ T.length ≤ 70000) :=
    ⟨hv, by omega, by rw [hA]; exact numL_put n hn rest, by rw [hA, List.length_append]; have := putL_small n hn; omega, by rw [hT]; exact textL_put s (by omega) rest, by rw [hT, List.length_append]; rw [str_size] at z2; omega⟩
  have g3 : ¬ (300 : Int) < (rest.length : Int) := by omega
  obtain ⟨N, hN⟩ : ∃ N, N = putN xs ++ rest := ⟨_, rfl⟩
  have a3 : str (putN xs) ++ str rest = str N := by rw [str_append, hN]
  have z3 := putN_small hmx
  have HX : Hid (NatPut xs (putN xs) 0 ∧ natL N = .ok (xs, rest) ∧ N.length ≤ 70000) :=
    ⟨.inl ⟨hmx, rfl, rfl⟩, by rw [hN]; exact natL_put xs hmx ha.limbs rest, by rw [hN, List.length_append]; rw [str_size] at z3; omega⟩
  obtain ⟨R, hR⟩ : ∃ R, R = putR r ++ rest := ⟨_, rfl⟩
  have a4 : str (putR r) ++ str rest = str R := by rw [str_append, hR]
  have z4 : (str (putR r)).size ≤ 300 := by rw [str_size]; exact putR_small hmr
  have HR : Hid (RatPut r (putR r) 0 ∧ RatIs R (.ok (r, rest)) ∧ R.length ≤ 70000) :=
    ⟨.inl ⟨hmr, rfl, rfl⟩, by rw [hR]; exact RatIs.put r hmr hr.lim rest, by rw [hR, List.length_append]; rw [str_size] at z4; omega⟩
  clear bx hB0 ha hg hn hl hlr hv h3 hA hT hN hR hr hmx hmr
  go_enter Try.func5, Try.ntmps5
  go_wp2_with fail
  refine (heavy_no ao na ca neg no nn nc eo en ec s _ HV.out.1).mono ?_
  rintro e w1 ⟨rfl, b1⟩
  have H1 : Hid (PS w w1 ao na ca xs neg no nn nc eo en ec r) := HP.out.next b1
  clear b1 HP c0 c1 c2
  go_wp2_with fail
  refine (shown_any _).mono ?_
  rintro e w2 ⟨rfl, b2⟩
  have H2 : Hid (PS w w2 ao na ca xs neg no nn nc eo en ec r) := H1.out.next b2
  clear b2 H1
  go_wp2_with fail
  refine (put_n n _ HA.out.2.1).mono ?_
  rintro e w3 ⟨rfl, b3⟩
  have H3 : Hid (PS w w3 ao na ca xs neg no nn nc eo en ec r) := H2.out.next b3
  clear b3 H2
  go_wp2_with fail
  refine (get_ok A n rest _ HV.out.2.2.1 HV.out.2.2.2.1).mono ?_
  rintro e w4 ⟨rfl, b4⟩
  have H4 : Hid (PS w w4 ao na ca xs neg no nn nc eo en ec r) := H3.out.next b4
  clear b4 H3
  go_wp2_with fail
  refine (putText_any s _ HV.out.2.1).mono ?_
  rintro e w5 ⟨rfl, b5⟩
  have H5 : Hid (PS w w5 ao na ca xs neg no nn nc eo en ec r) := H4.out.next b5
  clear b5 H4
  go_wp2_with fail
  refine (getText_ok T s rest _ HV.out.2.2.2.2.1 (Nat.le_trans HV.out.2.2.2.2.2 (by decide))).mono ?_
  rintro e w6 ⟨rfl, b6⟩
  have H6 : Hid (PS w w6 ao na ca xs neg no nn nc eo en ec r) := H5.out.next b6
  clear b6 H5
  go_wp2_with fail
  refine (putNat_told _ _ _ xs (putN xs) 0 _ H6.out.row HX.out.1).mono ?_
  rintro e w7 ⟨rfl, b7⟩
  have H7 : Hid (PS w w7 ao na ca xs neg no nn nc eo en ec r) := H6.out.next b7
  clear b7 H6
  go_wp2_with fail
  refine (getNat_ok N xs rest _ HX.out.2.1 (Nat.le_trans HX.out.2.2 (by decide))).mono ?_
  rintro e w8 ⟨yo, ym, rfl, ry, _, b8⟩
  have H8 : Hid (PS w w8 ao na ca xs neg no nn nc eo en ec r ∧ RowAt w8 yo ym ym xs) := ⟨H7.out.next b8, ry⟩
  clear b8 ry H7
  go_wp2_with fail
  refine (nsame_b _ _ _ _ _ _ xs xs _ H8.out.2 H8.out.1.row true ⟨fun _ => rfl, fun _ => rfl⟩).mono ?_
  rintro e w9 ⟨rfl, b9⟩
  have H9 : Hid (PS w w9 ao na ca xs neg no nn nc eo en ec r) := H8.out.1.next b9
  clear b9 H8
  have p9 := H9.out.box
  have c0 := p9.c0
  have c1 := p9.c1
  have c2 := p9.c2
  clear p9
  go_wp2_with fail
  refine (putRat_told neg _ _ _ _ _ _ r (putR r) 0 _ H9.out.rat HA.out.1 HR.out.1).mono ?_
  rintro e w10 ⟨rfl, b10⟩
  have H10 : Hid (PS w w10 ao na ca xs neg no nn nc eo en ec r) := H9.out.next b10
  clear b10 H9 c0 c1 c2
  go_wp2_with fail
  refine (getRat_ok R r rest _ HR.out.2.1 HR.out.2.2).mono ?_
  rw [HA.out.1]
  rintro e w11 ⟨po, pn, qo, qn, rfl, rq, b11⟩
  have hb : Below w11.heap.size w11 (w11.alloc (.cells #[.bool neg, .slice po pn pn, .slice qo qn qn] 26)) := (Below.refl _ _).alloc (Nat.le_refl _) _
  have bx := RBox.new w11 neg po pn pn qo qn qn
  have H11 : Hid (PS w (w11.alloc (.cells #[.bool neg, .slice po pn pn, .slice qo qn qn] 26)) ao na ca xs neg no nn nc eo en ec r ∧ RatAt (w11.alloc (.cells #[.bool neg, .slice po pn pn, .slice qo qn qn] 26)) po pn pn qo qn qn r) := ⟨(H10.out.next b11).next hb, rq.below hb⟩
  have c0 := bx.c0
  have c1 := bx.c1
  have c2 := bx.c2
  have p11 := H11.out.1.box
  have d0 := p11.c0
  have d1 := p11.c1
  have d2 := p11.c2
  clear b11 rq hb bx p11 H10
  go_wp2_with fail
  refine (rsame_r neg _ _ _ _ _ _ _ _ _ _ _ _ r _ H11.out.2 H11.out.1.rat).mono ?_
  rintro e w12 ⟨rfl, b12⟩
  have H12 : Hid (PS w w12 ao na ca xs neg no nn nc eo en ec r) := H11.out.1.next b12
  clear b12 H11 c0 c1 c2 d0 d1 d2
  go_wp2_with fail
  go_ret
  exact ⟨rfl, H12.out.bel⟩

theorem back_walk (n : Nat) (ao : Option Addr) (na ca : Nat) (xs : List Int) (neg : Bool) (no : Option Addr) (nn nc : Nat) (eo : Option Addr) (en ec : Nat) (r : RatL) (s rest : List UInt8) (w : World)
    (hn : n < 18446744073709551616) (ha : RowAt w ao na ca xs) (hr : RatAt w no nn nc eo en ec r) (hg : r.neg = neg) (hl : s.length ≤ 9223372036854775807) (hlr : rest.length ≤ 9223372036854775807) :
    Calls Try.prog 5 #[.int .u64 (n : Int), .slice ao na ca, .agg #[.bool neg, .slice no nn nc, .slice eo en ec], .string (str s), .string (str rest)] w fun e w' => e = .returned (.bool true) ∧ Below w.heap.size w w' := by
  by_cases hv : 20 < na ∨ 20 < nn ∨ 20 < en ∨ 1000 < s.length
  · exact back_heavy n ao na ca xs neg no nn nc eo en ec r s rest w hn ha hr hg hl hlr hv
  by_cases h3 : 300 < rest.length
  · exact back_long n ao na ca xs neg no nn nc eo en ec r s rest w hn ha hr hg hl hlr hv h3
  by_cases hx : May xs
  · by_cases hm : MayR r
    · exact back_11 n ao na ca xs neg no nn nc eo en ec r s rest w hn ha hr hg hl hlr hv h3 hx hm
    · exact back_10 n ao na ca xs neg no nn nc eo en ec r s rest w hn ha hr hg hl hlr hv h3 hx hm
  · by_cases hm : MayR r
    · exact back_01 n ao na ca xs neg no nn nc eo en ec r s rest w hn ha hr hg hl hlr hv h3 hx hm
    · exact back_00 n ao na ca xs neg no nn nc eo en ec r s rest w hn ha hr hg hl hlr hv h3 hx hm
end Go.Proofs.Ytmmbgfbliekkgaa
