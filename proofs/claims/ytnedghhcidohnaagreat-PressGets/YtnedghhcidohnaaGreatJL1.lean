/-
  Joined: OctE · OctG · OctZ.
-/
import Derived.Test.YtnedghhcidohnaaGreatJJ1
import Derived.RegionTactic
import Derived.Deep.RegionWith

/-! octet.Get: the reader's number, its panics recovered. -/
namespace Go.Proofs.YtnedghhcidohnaaGreat
open Go.RowKit

/-- The variable of an error at block A. -/
def ErrBox (W : World) (A : Nat) (n : Int) : Prop := W.heap[A]? = some (.cells #[.int .i64 n] 27 (0, 0))
theorem ErrBox.lt {W : World} {A : Nat} {n : Int} (h : ErrBox W A n) : A < W.heap.size := (Array.getElem?_eq_some_iff.1 h).1
theorem ErrBox.c {W : World} {A : Nat} {n : Int} (h : ErrBox W A n) : W.cell? ⟨A, 0, none⟩ = some (.int .i64 n) := by rw [cell_of_row _ _ _ _ _ _ h]; rfl
theorem ErrBox.f {W : World} {A : Nat} {n : Int} (h : ErrBox W A n) : W.frozen? ⟨A, 0, none⟩ = false := by
  unfold ErrBox at h
  simp [World.frozen?, h]
theorem ErrBox.set {W : World} {A : Nat} {n : Int} (h : ErrBox W A n) (m : Int) : ErrBox (W.setCell ⟨A, 0, none⟩ (.int .i64 m)) A m := by
  rw [setCell_eq_setRow W A 0 #[.int .i64 n] 27 (0, 0) _ h]
  exact setRow_heap W A #[.int .i64 n] _ 27 _ h

theorem left_new (w : World) (o : Obj) (S : ByteArray) : Left ((w.alloc o).alloc (.cells #[.string S] 149)) (w.heap.size + 1) S := by
  have h := heap_alloc_new (w.alloc o) (.cells #[.string S] 149)
  rw [show (w.alloc o).heap.size = w.heap.size + 1 by simp] at h
  exact h
theorem err_new (w : World) (n : Int) (o : Obj) : ErrBox ((w.alloc (.cells #[.int .i64 n] 27)).alloc o) w.heap.size n :=
  (heap_alloc_old (w.alloc (.cells #[.int .i64 n] 27)) o (by simp)).trans (heap_alloc_new w _)

theorem catch54 (p : Addr) (x n : Int) (w : World) (hc : w.cell? p = some (.int .i64 x)) (hz : w.frozen? p = false) :
    CallsD Tryz.prog 103 #[.pointer (some p)] (.panicking [{ v := .iface 27 (.int .i64 n), recovered := false }]) w fun e u' w' =>
      e = .returned (.tuple #[]) ∧ u' = .panicking [{ v := .iface 27 (.int .i64 n), recovered := true }] ∧ w' = w.setCell p (.int .i64 n) := by
  have hta : ∀ w : World, (binOp BinOp.neq 20 (.iface 27 (.int .i64 n)) .nilIface).run Tryz.prog w = .ok (.bool true) w := fun _ => by kernel_rfl
  have hass : ∀ w : World, (Instr.typeAssert (.iface 27 (.int .i64 n)) 20 27 false).run Tryz.prog w = .ok (.int .i64 n) w := fun _ => by kernel_rfl
  refine callsD_of_wpS Tryz.func103 rfl fun c₀ cs hu => ?_
  apply wpS_seq
  apply wpS_region
  simp [wpOpsS, go_sem, recoverD, hu, Tryz.ntmps103, Exit.thenS]
  apply wpS_seq
  apply wpS_region
  simp [wpOpsS, go_sem, hta, Exit.thenS]
  refine wpS_cond (t := true) (by simp [Act.eval, Array.replicate]) ?_
  simp only [if_true]
  apply wpS_region
  simp [wpOpsS, go_sem, hass, hc, hz, bodyPostS, results, Tryz.results103]

theorem idle54 (p : Addr) (w : World) :
    CallsD Tryz.prog 103 #[.pointer (some p)] .returning w fun e u' w' => e = .returned (.tuple #[]) ∧ u' = .returning ∧ w' = w := by
  have hta : ∀ w : World, (binOp BinOp.neq 20 .nilIface .nilIface).run Tryz.prog w = .ok (.bool false) w := fun _ => by kernel_rfl
  refine callsD_of_wpS Tryz.func103 rfl fun c₀ cs hu => ?_
  apply wpS_seq
  apply wpS_region
  simp [wpOpsS, go_sem, recoverD, hu, Tryz.ntmps103, Exit.thenS]
  apply wpS_seq
  apply wpS_region
  simp [wpOpsS, go_sem, hta, Exit.thenS]
  refine wpS_cond (t := false) (by simp [Act.eval, Array.replicate]) ?_
  simp only [Bool.false_eq_true, if_false]
  refine wpS_of_wp (wp_skip ?_)
  cases c₀
  simp_all [bodyPostS, results, Tryz.results103]

set_option maxRecDepth 100000 in
set_option maxHeartbeats 2000000 in
theorem begin_ok (s : List UInt8) (n : Nat) (rest : List UInt8) (w : World) (hn : numL s = .ok (n, rest)) (hs : s.length ≤ 800000) :
    Calls Tryz.prog 82 #[.string (str s), .func (.func 83) #[] #[]] w fun e w' => e = .returned (.tuple #[.int .u64 n, .string (str rest), .int .i64 0]) ∧ Below w.heap.size w w' := by
  have hmf : ∀ (fn : Fn) (first cap : Array Value) (w : World), (Instr.makeFunc fn first cap).run Tryz.prog w = .ok (.func fn first cap) w := fun _ _ _ _ => rfl
  have H0 : Hid (numL s = .ok (n, rest) ∧ s.length ≤ 800000) := ⟨hn, hs⟩
  clear hn hs
  go_enter_defers Tryz.func82, Tryz.ntmps82
  go_wp2_with fail
  refine (number_ok (w.heap.size + 1) s n rest _ ?_ H0.out.1 H0.out.2).mono ?_
  · exact left_new _ _ _
  rintro e w1 ⟨rfl, h1, h2⟩
  have hA : ErrBox w1 w.heap.size 0 := by
    have h3 := h2.block w.heap.size (by simp; omega) (by simp)
    exact h3.trans (err_new w 0 _)
  have hBl : Below w.heap.size w w1 := by
    refine below_grow (w1 := (w.alloc (.cells #[.int .i64 0] 27)).alloc (.cells #[.string (str s)] 149)) ?_ h2 (by omega)
    exact ((Below.refl _ _).alloc (Nat.le_refl _) _).alloc (by simp) _
  have c1 := hA.c
  have f1 := hA.f
  have c2 := h1.c
  have f2 := h1.f
  have HA : Hid (ErrBox w1 w.heap.size 0 ∧ Below w.heap.size w w1) := ⟨hA, hBl⟩
  clear hA hBl h1 h2
  go_wp2_with fail
  go_region
  go_wp2
  refine leaves_cons (f := 103) (args := #[.pointer (some ⟨w.heap.size, 0, none⟩)]) (by simp) (by simp [go_sem]) ?_
  refine (idle54 ⟨w.heap.size, 0, none⟩ _).mono ?_
  rintro e u' w'' ⟨rfl, rfl, rfl⟩
  have c3 : (w1.setCell ⟨w.heap.size, 0, none⟩ (.int .i64 0)).cell? ⟨w.heap.size, 0, none⟩ = some (.int .i64 0) := (HA.out.1.set 0).c
  simp [Leaves, settle, results, Tryz.results82, go_sem, c3]
  exact (below_grow HA.out.2 (grown_set _ _ _) (Nat.le_refl _)).drew

set_option maxRecDepth 100000 in
set_option maxHeartbeats 2000000 in
theorem begin_err (s : List UInt8) (n : Int) (w : World) (hn : numL s = .error n) (hs : s.length ≤ 800000) :
    Calls Tryz.prog 82 #[.string (str s), .func (.func 83) #[] #[]] w fun e w' => e = .returned (.tuple #[.int .u64 0, .string (str []), .int .i64 n]) ∧ Below w.heap.size w w' := by
  have hmf : ∀ (fn : Fn) (first cap : Array Value) (w : World), (Instr.makeFunc fn first cap).run Tryz.prog w = .ok (.func fn first cap) w := fun _ _ _ _ => rfl
  have H0 : Hid (numL s = .error n ∧ s.length ≤ 800000) := ⟨hn, hs⟩
  clear hn hs
  go_enter_defers Tryz.func82, Tryz.ntmps82
  go_wp2_with fail
  refine (number_err (w.heap.size + 1) s n _ (left_new _ _ _) H0.out.1 H0.out.2).mono ?_
  rintro e w1 ⟨rfl, h2⟩
  have hA : ErrBox w1 w.heap.size 0 := (h2.block w.heap.size (by simp; omega) (by simp)).trans (err_new w 0 _)
  have hBl : Below w.heap.size w w1 := by
    refine below_grow (w1 := (w.alloc (.cells #[.int .i64 0] 27)).alloc (.cells #[.string (str s)] 149)) ?_ h2 (by omega)
    exact ((Below.refl _ _).alloc (Nat.le_refl _) _).alloc (by simp) _
  show Leaves _ _ _ _ _ _ _
  refine leaves_cons (f := 103) (args := #[.pointer (some ⟨w.heap.size, 0, none⟩)]) (by simp) (by simp [go_sem]) ?_
  refine (catch54 ⟨w.heap.size, 0, none⟩ 0 n _ hA.c hA.f).mono ?_
  rintro e u' w'' ⟨rfl, rfl, rfl⟩
  have c3 : (w1.setCell ⟨w.heap.size, 0, none⟩ (.int .i64 n)).cell? ⟨w.heap.size, 0, none⟩ = some (.int .i64 n) := (hA.set n).c
  simp [Leaves, settle, results, Tryz.results82, go_sem, c3]
  exact ⟨rfl, below_grow hBl (grown_set _ _ _) (Nat.le_refl _)⟩

set_option maxHeartbeats 1000000 in
theorem get_ok (s : List UInt8) (n : Nat) (rest : List UInt8) (w : World) (hn : numL s = .ok (n, rest)) (hs : s.length ≤ 800000) :
    Calls Tryz.prog 54 #[.string (str s)] w fun e w' => e = .returned (.tuple #[.int .u64 n, .string (str rest), .int .i64 0]) ∧ Below w.heap.size w w' := by
  go_enter Tryz.func54, Tryz.ntmps54
  go_wp2_with (go_at_call 82; refine (begin_ok s n rest _ hn hs).mono ?_; rintro e w1 ⟨rfl, h1⟩)
  go_ret3
  exact ⟨rfl, h1⟩

set_option maxHeartbeats 1000000 in
theorem get_err (s : List UInt8) (n : Int) (w : World) (hn : numL s = .error n) (hs : s.length ≤ 800000) :
    Calls Tryz.prog 54 #[.string (str s)] w fun e w' => e = .returned (.tuple #[.int .u64 0, .string (str []), .int .i64 n]) ∧ Below w.heap.size w w' := by
  go_enter Tryz.func54, Tryz.ntmps54
  go_wp2_with (go_at_call 82; refine (begin_err s n _ hn hs).mono ?_; rintro e w1 ⟨rfl, h1⟩)
  go_ret3
  exact ⟨rfl, h1⟩
end Go.Proofs.YtnedghhcidohnaaGreat

/-! The reader's text; octet.GetText; octet.PutText. -/
namespace Go.Proofs.YtnedghhcidohnaaGreat
open Go.RowKit

/-- The text that s begins by, and what is behind; or the error. -/
def textL (s : List UInt8) : Except Int (List UInt8 × List UInt8) :=
  match numL s with
  | .error e => .error e
  | .ok (n, r) => if r.length < n then .error 60 else .ok (r.take n, r.drop n)

theorem numL_rest {s : List UInt8} {n : Nat} {r : List UInt8} (h : numL s = .ok (n, r)) : r.length ≤ s.length ∧ n < 2 ^ 64 := by
  cases s with
  | nil => cases h
  | cons k t =>
    simp only [numL] at h
    split at h
    · cases h
    rename_i h8
    split at h
    · cases h
    split at h
    · cases h
    injection h with h
    obtain ⟨rfl, rfl⟩ := Prod.mk.inj h
    refine ⟨by simp; omega, ?_⟩
    have h1 := joinL_lt (t.take k.toNat)
    have h2 : 256 ^ (t.take k.toNat).length ≤ 256 ^ 8 := Nat.pow_le_pow_right (by decide) (by simp; omega)
    have h3 : (256 : Nat) ^ 8 = 2 ^ 64 := by decide
    omega

/-- A text as bytes. -/
def putT (s : List UInt8) : List UInt8 := putL s.length ++ s
theorem str_append (s t : List UInt8) : str s ++ str t = str (s ++ t) := by
  apply ByteArray.ext
  simp [str, ByteArray.data_append]

end Go.Proofs.YtnedghhcidohnaaGreat

/-! The reference's Put and PutText. -/
namespace Go.Proofs.YtnedghhcidohnaaGreat
open Go.RowKit

theorem cntB_zero : cntB 0 = 0 := by decide
theorem cntB_next (x : Nat) (h : 0 < x) : cntB x = cntB (x / 256) + 1 := by
  have h1 := cntB_lt (x / 256)
  have h2 := cntB_lt x
  have h3 : cntB x ≤ cntB (x / 256) + 1 := cntB_min x _ (by rw [Nat.pow_succ]; omega)
  have h4 : 0 < cntB x := by
    rcases Nat.eq_zero_or_pos (cntB x) with e | e
    · rw [e] at h2; omega
    · exact e
  obtain ⟨c, hc⟩ : ∃ c, cntB x = c + 1 := ⟨cntB x - 1, by omega⟩
  rw [hc, Nat.pow_succ] at h2
  have h5 := cntB_min (x / 256) c (by omega)
  omega

theorem conv_now (W : World) (c : Nat) (h : c ≤ 8) :
    (convert 58 9 (.slice (some ⟨W.heap.size, 0, none⟩) 1 1)).run Tryz.prog (W.alloc (.cells #[.int .u8 c] 5)).drew = .ok (.string (str [UInt8.ofNat c])) (W.alloc (.cells #[.int .u8 c] 5)).drew :=
  (OwnB.one W (.int .u8 c) (UInt8.ofNat c) (by unfold u8v; rw [byte_toNat h])).drew.string 58 9 (by kernel_rfl) (by kernel_rfl) (by kernel_rfl)
theorem conv_here (W : World) (c : Nat) (h : c ≤ 8) :
    (convert 58 9 (.slice (some ⟨W.heap.size, 0, none⟩) 1 1)).run Tryz.prog (W.alloc (.cells #[.int .u8 c] 5)) = .ok (.string (str [UInt8.ofNat c])) (W.alloc (.cells #[.int .u8 c] 5)) :=
  (OwnB.one W (.int .u8 c) (UInt8.ofNat c) (by unfold u8v; rw [byte_toNat h])).string 58 9 (by kernel_rfl) (by kernel_rfl) (by kernel_rfl)
theorem conv_then (W w' : World) (c : Nat) (h : c ≤ 8) (hb : Below (W.alloc (.cells #[.int .u8 c] 5)).drew.heap.size (W.alloc (.cells #[.int .u8 c] 5)).drew w') :
    (convert 58 9 (.slice (some ⟨W.heap.size, 0, none⟩) 1 1)).run Tryz.prog w' = .ok (.string (str [UInt8.ofNat c])) w' :=
  OwnB.string ((OwnB.one W (.int .u8 c) (UInt8.ofNat c) (by unfold u8v; rw [byte_toNat h])).drew.block (hb.block _ (by simp [World.drew]))) 58 9 (by kernel_rfl) (by kernel_rfl) (by kernel_rfl)

set_option maxRecDepth 100000 in
set_option maxHeartbeats 4000000 in
theorem rput_n (n : Nat) (w : World) (h : n < 18446744073709551616) : Calls Tryz.prog 26 #[.int .u64 (n : Int)] w fun e w' => e = .returned (.string (str (putL n))) ∧ Below w.heap.size w w' := by
  have h8 := cntB_le n h
  have HN : Hid (n < 18446744073709551616) := h
  clear h
  obtain ⟨C, hC⟩ : ∃ C, C = cntB n := ⟨_, rfl⟩
  have HC : Hid (C = cntB n) := hC
  rw [← hC] at h8
  clear hC
  have hc8 : (C : Int) ≤ 8 := by omega
  have hcm : (C : Int) % 256 = (C : Int) := by omega
  have hf := fun w1 => fixed_any n C w1 HN.out h8
  obtain ⟨T, hT⟩ : ∃ T, T = lowB n C := ⟨_, rfl⟩
  rw [← hT] at hf
  have hsz : (str T).size = C := by rw [str_size, hT, lowB_length]
  have hs1 : (str [UInt8.ofNat C]).size = 1 := by rw [str_size]; rfl
  have hap : str [UInt8.ofNat C] ++ str T = str (putL n) := by rw [str_append, hT, HC.out]; rfl
  have HF : Hid (∀ w1, Calls Tryz.prog 52 #[.int .u64 (n : Int), .int .i64 (C : Int)] w1 fun e w' => e = .returned (.string (str T)) ∧ Below w1.heap.size w1 w') := hf
  have HK : Hid (C ≤ 8 ∧ (C : Int) % 256 = C) := ⟨h8, hcm⟩
  have hcv := fun W => conv_now W C h8
  have hcv3 := fun W => conv_here W C h8
  have hwc : IntKind.u8.wrap (C : Int) = (C : Int) := by rw [IntKind.wrap_u8]; exact hcm
  have HB0 : Hid (Below w.heap.size w w) := Below.refl _ _
  clear hf hT
  go_enter Tryz.func26, Tryz.ntmps26
  go_wp2_with fail
  go_loopw [3, 4] (fun i d wr => ∃ (j x : Nat), i = .int .i64 j ∧ d = .int .u64 x ∧ wr = w ∧ j ≤ C ∧ Hid (j + cntB x = C ∧ x ≤ n)) (fun _ d _ => cntB (intOf d).toNat)
  case atStart => exact ⟨0, n, rfl, rfl, rfl, Nat.zero_le _, by rw [HC.out]; exact ⟨Nat.zero_add _, Nat.le_refl _⟩⟩
  case round =>
    obtain ⟨j, x, rfl, rfl, rfl, hj, hx⟩ := hrel
    by_cases h0 : x = 0
    · subst h0
      have hjC : j = C := by have := hx.out.1; rw [cntB_zero] at this; omega
      subst hjC
      clear hx hj
      go_wp2_with fail
      go_region_with (go_at_call 52; refine (HF.out _).mono ?_; rintro e w2 ⟨rfl, b2⟩; try (have hcv2 := conv_then _ _ _ HK.out.1 b2))
      all_goals
        go_wp2
        go_ret
        first
          | exact ⟨rfl, (chain ((Below.refl _ _).alloc (Nat.le_refl _) _).drew b2)⟩
          | exact ⟨rfl, chain (Below.refl _ _).drew b2⟩
          | exact ⟨rfl, (chain (Below.refl _ _).drew b2).alloc (chain (Below.refl _ _).drew b2).size _⟩
    · have h1 : (0 : Int) < (x : Int) := by omega
      have HX : Hid (j + 1 + cntB (x / 256) = C ∧ x / 256 ≤ n ∧ cntB x = cntB (x / 256) + 1) := by
        have := cntB_next x (by omega)
        have h2 := hx.out
        exact ⟨by omega, by omega, this⟩
      have hq : Int.tdiv (x : Int) 256 = ((x / 256 : Nat) : Int) := by rw [Int.tdiv_eq_ediv_of_nonneg (by omega)]; omega
      have hq2 : IntKind.u64.wrap (Int.tdiv (x : Int) 256) = ((x / 256 : Nat) : Int) := by
        rw [hq, IntKind.wrap_u64]
        have h2 := hx.out.2
        have h3 := HN.out
        omega
      have hq3 : IntKind.u64.wrap ((x : Int) / 256) = ((x / 256 : Nat) : Int) := by
        rw [IntKind.wrap_u64]
        have h2 := hx.out.2
        have h3 := HN.out
        omega
      have hj7 : (j : Int) ≤ 7 := by have := HX.out; omega
      clear h0 hx hj
      go_wp2_with fail
      go_roundw
      case rel => exact ⟨j + 1, x / 256, by go_num, congrArg (Value.int .u64) (by omega), by first | rfl | trivial, by have := HX.out.1; omega, HX.out.1, HX.out.2.1⟩
      case measure =>
        have hq4 : (x : Int) / 256 = ((x / 256 : Nat) : Int) := by omega
        rw [hq4]
        simp only [intOf, Int.toNat_natCast]
        have := HX.out.2.2
        omega

end Go.Proofs.YtnedghhcidohnaaGreat
