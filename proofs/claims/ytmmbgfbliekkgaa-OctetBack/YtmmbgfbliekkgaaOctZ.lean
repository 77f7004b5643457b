/-
  The reference's Put and PutText.
-/
import Derived.Test.YtmmbgfbliekkgaaOctY
import Derived.Test.YtmmbgfbliekkgaaOctG
import Derived.Deep.RegionWith
namespace Go.Proofs.Ytmmbgfbliekkgaa
open Go.RowKit

theorem cntB_zero : cntB 0 = 0 := by decide
theorem cntB_next (x : Nat) (h : 0 < x) : cntB x = cntB (x / 256) + 1 := by
  have h1 := cntB_lt (x / 256)
  have h2 := cntB_lt x
  have h3 : cntB x ≤ cntB (x / 256) + 1 := cntB_min x _ (by rw [Nat.pow_succ]; omega)
  have h4 : 0 < cntB x := by
    rcases Nat.eq_zero_or_pos (cntB x) with e | e
    · rw [e] at h2; omega
    · exact e
  obtain ⟨c, hc⟩ : ∃ c, cntB x = c + 1 := ⟨cntB x - 1, by omega⟩
  rw [hc, Nat.pow_succ] at h2
  have h5 := cntB_min (x / 256) c (by omega)
  omega

theorem conv_now (W : World) (c : Nat) (h : c ≤ 8) :
    (convert 53 9 (.slice (some ⟨W.heap.size, 0, none⟩) 1 1)).run Try.prog (W.alloc (.cells #[.int .u8 c] 5)).drew = .ok (.string (str [UInt8.ofNat c])) (W.alloc (.cells #[.int .u8 c] 5)).drew :=
  (OwnB.one W (.int .u8 c) (UInt8.ofNat c) (by unfold u8v; rw [byte_toNat h])).drew.string 53 9 (by kernel_rfl) (by kernel_rfl) (by kernel_rfl)
theorem conv_here (W : World) (c : Nat) (h : c ≤ 8) :
    (convert 53 9 (.slice (some ⟨W.heap.size, 0, none⟩) 1 1)).run Try.prog (W.alloc (.cells #[.int .u8 c] 5)) = .ok (.string (str [UInt8.ofNat c])) (W.alloc (.cells #[.int .u8 c] 5)) :=
  (OwnB.one W (.int .u8 c) (UInt8.ofNat c) (by unfold u8v; rw [byte_toNat h])).string 53 9 (by kernel_rfl) (by kernel_rfl) (by kernel_rfl)
theorem conv_then (W w' : World) (c : Nat) (h : c ≤ 8) (hb : Below (W.alloc (.cells #[.int .u8 c] 5)).drew.heap.size (W.alloc (.cells #[.int .u8 c] 5)).drew w') :
    (convert 53 9 (.slice (some ⟨W.heap.size, 0, none⟩) 1 1)).run Try.prog w' = .ok (.string (str [UInt8.ofNat c])) w' :=
  OwnB.string ((OwnB.one W (.int .u8 c) (UInt8.ofNat c) (by unfold u8v; rw [byte_toNat h])).drew.block (hb.block _ (by simp [World.drew]))) 53 9 (by kernel_rfl) (by kernel_rfl) (by kernel_rfl)

set_option maxRecDepth 100000 in
set_option maxHeartbeats 4000000 in
theorem rput_n (n : Nat) (w : World) (h : n < 18446744073709551616) : Calls Try.prog 16 #[.int .u64 (n : Int)] w fun e w' => e = .returned (.string (str (putL n))) ∧ Below w.heap.size w w' := by
  have h8 := cntB_le n h
  have HN : Hid (n < 18446744073709551616) := h
  clear h
  obtain ⟨C, hC⟩ : ∃ C, C = cntB n := ⟨_, rfl⟩
  have HC : Hid (C = cntB n) := hC
  rw [← hC] at h8
  clear hC
  have hc8 : (C : Int) ≤ 8 := by omega
  have hcm : (C : Int) % 256 = (C : Int) := by omega
  have hf := fun w1 => fixed_any n C w1 HN.out h8
  obtain ⟨T, hT⟩ : ∃ T, T = lowB n C := ⟨_, rfl⟩
  rw [← hT] at hf
  have hsz : (str T).size = C := by rw [str_size, hT, lowB_length]
  have hs1 : (str [UInt8.ofNat C]).size = 1 := by rw [str_size]; rfl
  have hap : str [UInt8.ofNat C] ++ str T = str (putL n) := by rw [str_append, hT, HC.out]; rfl
  have HF : Hid (∀ w1, Calls Try.prog 34 #[.int .u64 (n : Int), .int .i64 (C : Int)] w1 fun e w' => e = .returned (.string (str T)) ∧ Below w1.heap.size w1 w') := hf
  have HK : Hid (C ≤ 8 ∧ (C : Int) % 256 = C) := ⟨h8, hcm⟩
  have hcv := fun W => conv_now W C h8
  have hcv3 := fun W => conv_here W C h8
  have hwc : IntKind.u8.wrap (C : Int) = (C : Int) := by rw [IntKind.wrap_u8]; exact hcm
  have HB0 : Hid (Below w.heap.size w w) := Below.refl _ _
  clear hf hT
  go_enter Try.func16, Try.ntmps16
  go_wp2_with fail
  go_loopw [3, 4] (fun i d wr => ∃ (j x : Nat), i = .int .i64 j ∧ d = .int .u64 x ∧ wr = w ∧ j ≤ C ∧ Hid (j + cntB x = C ∧ x ≤ n)) (fun _ d _ => cntB (intOf d).toNat)
  case atStart => exact ⟨0, n, rfl, rfl, rfl, Nat.zero_le _, by rw [HC.out]; exact ⟨Nat.zero_add _, Nat.le_refl _⟩⟩
  case round =>
    obtain ⟨j, x, rfl, rfl, rfl, hj, hx⟩ := hrel
    by_cases h0 : x = 0
    · subst h0
      have hjC : j = C := by have := hx.out.1; rw [cntB_zero] at this; omega
      subst hjC
      clear hx hj
      go_wp2_with fail
      go_region_with (go_at_call 34; refine (HF.out _).mono ?_; rintro e w2 ⟨rfl, b2⟩; try (have hcv2 := conv_then _ _ _ HK.out.1 b2))
      all_goals
        go_wp2
        go_ret
        first
          | exact ⟨rfl, (chain ((Below.refl _ _).alloc (Nat.le_refl _) _).drew b2)⟩
          | exact ⟨rfl, chain (Below.refl _ _).drew b2⟩
          | exact ⟨rfl, (chain (Below.refl _ _).drew b2).alloc (chain (Below.refl _ _).drew b2).size _⟩
    · have h1 : (0 : Int) < (x : Int) := by omega
      have HX : Hid (j + 1 + cntB (x / 256) = C ∧ x / 256 ≤ n ∧ cntB x = cntB (x / 256) + 1) := by
        have := cntB_next x (by omega)
        have h2 := hx.out
        exact ⟨by omega, by omega, this⟩
      have hq : Int.tdiv (x : Int) 256 = ((x / 256 : Nat) : Int) := by rw [Int.tdiv_eq_ediv_of_nonneg (by omega)]; omega
      have hq2 : IntKind.u64.wrap (Int.tdiv (x : Int) 256) = ((x / 256 : Nat) : Int) := by
        rw [hq, IntKind.wrap_u64]
        have h2 := hx.out.2
        have h3 := HN.out
        omega
      have hq3 : IntKind.u64.wrap ((x : Int) / 256) = ((x / 256 : Nat) : Int) := by
        rw [IntKind.wrap_u64]
        have h2 := hx.out.2
        have h3 := HN.out
        omega
      have hj7 : (j : Int) ≤ 7 := by have := HX.out; omega
      clear h0 hx hj
      go_wp2_with fail
      go_roundw
      case rel => exact ⟨j + 1, x / 256, by go_num, congrArg (Value.int .u64) (by omega), by first | rfl | trivial, by have := HX.out.1; omega, HX.out.1, HX.out.2.1⟩
      case measure =>
        have hq4 : (x : Int) / 256 = ((x / 256 : Nat) : Int) := by omega
        rw [hq4]
        simp only [intOf, Int.toNat_natCast]
        have := HX.out.2.2
        omega

set_option maxHeartbeats 1000000 in
theorem rputText_any (s : List UInt8) (w : World) (hs : s.length ≤ 80000) :
    Calls Try.prog 18 #[.string (str s)] w fun e w' => e = .returned (.string (str (putT s))) ∧ Below w.heap.size w w' := by
  have hsz : (str s).size = s.length := str_size s
  have h1 : (s.length : Int) ≤ 80000 := by omega
  have hap : str (putL s.length) ++ str s = str (putT s) := str_append _ _
  have hsz2 : (str (putL s.length)).size ≤ 9 := by
    rw [str_size, putL_length]
    have := cntB_le s.length (by omega)
    omega
  go_enter Try.func18, Try.ntmps18
  go_wp2_with fail
  refine (rput_n s.length _ (by omega)).mono ?_
  rintro e w1 ⟨rfl, b1⟩
  have H1 : Hid (Below w.heap.size w w1) := b1
  clear b1
  go_wp2_with fail
  go_ret
  exact ⟨rfl, H1.out⟩
end Go.Proofs.Ytmmbgfbliekkgaa
