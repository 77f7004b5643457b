/-
  The reader's text; octet.GetText; octet.PutText.
-/
import Derived.Test.YtmmbgfbliekkgaaOctE
import Derived.Test.YtmmbgfbliekkgaaOctM
namespace Go.Proofs.Ytmmbgfbliekkgaa
open Go.RowKit

/-- The text that s begins by, and what is behind; or the error. -/
def textL (s : List UInt8) : Except Int (List UInt8 × List UInt8) :=
  match numL s with
  | .error e => .error e
  | .ok (n, r) => if r.length < n then .error 60 else .ok (r.take n, r.drop n)

theorem numL_rest {s : List UInt8} {n : Nat} {r : List UInt8} (h : numL s = .ok (n, r)) : r.length ≤ s.length ∧ n < 2 ^ 64 := by
  cases s with
  | nil => cases h
  | cons k t =>
    simp only [numL] at h
    split at h
    · cases h
    rename_i h8
    split at h
    · cases h
    split at h
    · cases h
    injection h with h
    obtain ⟨rfl, rfl⟩ := Prod.mk.inj h
    refine ⟨by simp; omega, ?_⟩
    have h1 := joinL_lt (t.take k.toNat)
    have h2 : 256 ^ (t.take k.toNat).length ≤ 256 ^ 8 := Nat.pow_le_pow_right (by decide) (by simp; omega)
    have h3 : (256 : Nat) ^ 8 = 2 ^ 64 := by decide
    omega

set_option maxRecDepth 100000 in
set_option maxHeartbeats 2000000 in
theorem text_ok (R : Nat) (s t rest : List UInt8) (w : World) (h : Left w R (str s)) (hn : textL s = .ok (t, rest)) (hs : s.length ≤ 80000) :
    Calls Try.prog 46 #[.pointer (some ⟨R, 0, none⟩)] w fun e w' => e = .returned (.string (str t)) ∧ Left w' R (str rest) ∧ w.grownBy w' (some R) := by
  unfold textL at hn
  split at hn
  · cases hn
  rename_i n r hnum
  split at hn
  · cases hn
  rename_i hl
  injection hn with hn
  obtain ⟨rfl, rfl⟩ := Prod.mk.inj hn
  have H0 : Hid (Left w R (str s) ∧ numL s = .ok (n, r) ∧ s.length ≤ 80000 ∧ n ≤ r.length ∧ r.length ≤ s.length) := ⟨h, hnum, hs, by omega, (numL_rest hnum).1⟩
  clear h hnum hs hl hn
  go_enter Try.func46, Try.ntmps46
  go_wp2_with fail
  refine (number_ok R s n r _ H0.out.1 H0.out.2.1 H0.out.2.2.1).mono ?_
  rintro e w1 ⟨rfl, h1, h2⟩
  have H1 : Hid (Left w1 R (str r) ∧ w.grownBy w1 (some R)) := ⟨h1, h2⟩
  clear h1 h2
  go_wp2_with fail
  refine (takeS_ok R r n _ H1.out.1 H0.out.2.2.2.1 (by have := H0.out.2.2; omega)).mono ?_
  rintro e w2 ⟨rfl, h1, h2⟩
  have H2 : Hid (Left w2 R (str (r.drop n)) ∧ w.grownBy w2 (some R)) := ⟨h1, grown2 H1.out.2 h2⟩
  clear h1 h2
  go_wp2_with fail
  go_ret
  exact ⟨rfl, H2.out⟩

set_option maxRecDepth 100000 in
set_option maxHeartbeats 2000000 in
theorem text_err (R : Nat) (s : List UInt8) (n : Int) (w : World) (h : Left w R (str s)) (hn : textL s = .error n) (hs : s.length ≤ 80000) :
    Calls Try.prog 46 #[.pointer (some ⟨R, 0, none⟩)] w fun e w' => e = pan n ∧ w.grownBy w' (some R) := by
  unfold textL at hn
  split at hn
  · cases hn
    rename_i hnum
    have H0 : Hid (Left w R (str s) ∧ numL s = .error n ∧ s.length ≤ 80000) := ⟨h, hnum, hs⟩
    clear h hnum hs
    go_enter Try.func46, Try.ntmps46
    go_wp2_with fail
    refine (number_err R s n _ H0.out.1 H0.out.2.1 H0.out.2.2).mono ?_
    rintro e w1 ⟨rfl, h1⟩
    exact ⟨rfl, rfl, h1⟩
  rename_i m r hnum
  split at hn
  · rename_i hl
    cases hn
    have h64 := (numL_rest hnum).2
    have H0 : Hid (Left w R (str s) ∧ numL s = .ok (m, r) ∧ s.length ≤ 80000 ∧ r.length < m ∧ r.length ≤ s.length ∧ (m : Int) < BB) := ⟨h, hnum, hs, hl, (numL_rest hnum).1, by unfold BB; omega⟩
    clear h hnum hs hl h64
    go_enter Try.func46, Try.ntmps46
    go_wp2_with fail
    refine (number_ok R s m r _ H0.out.1 H0.out.2.1 H0.out.2.2.1).mono ?_
    rintro e w1 ⟨rfl, h1, h2⟩
    have H1 : Hid (Left w1 R (str r) ∧ w.grownBy w1 (some R)) := ⟨h1, h2⟩
    clear h1 h2
    go_wp2_with fail
    refine (takeS_err R r m _ H1.out.1 H0.out.2.2.2.1 (by have := H0.out.2.2; omega) H0.out.2.2.2.2.2).mono ?_
    rintro e w2 ⟨rfl, rfl⟩
    exact ⟨rfl, rfl, H1.out.2⟩
  · cases hn

theorem catch61 (p : Addr) (x n : Int) (w : World) (hc : w.cell? p = some (.int .i64 x)) (hz : w.frozen? p = false) :
    CallsD Try.prog 61 #[.pointer (some p)] (.panicking [{ v := .iface 29 (.int .i64 n), recovered := false }]) w fun e u' w' =>
      e = .returned (.tuple #[]) ∧ u' = .panicking [{ v := .iface 29 (.int .i64 n), recovered := true }] ∧ w' = w.setCell p (.int .i64 n) := by
  have hta : ∀ w : World, (binOp BinOp.neq 20 (.iface 29 (.int .i64 n)) .nilIface).run Try.prog w = .ok (.bool true) w := fun _ => by kernel_rfl
  have hass : ∀ w : World, (Instr.typeAssert (.iface 29 (.int .i64 n)) 20 29 false).run Try.prog w = .ok (.int .i64 n) w := fun _ => by kernel_rfl
  refine callsD_of_wpS Try.func61 rfl fun c₀ cs hu => ?_
  apply wpS_seq
  apply wpS_region
  simp [wpOpsS, go_sem, recoverD, hu, Try.ntmps61, Exit.thenS]
  apply wpS_seq
  apply wpS_region
  simp [wpOpsS, go_sem, hta, Exit.thenS]
  refine wpS_cond (t := true) (by simp [Act.eval, Array.replicate]) ?_
  simp only [if_true]
  apply wpS_region
  simp [wpOpsS, go_sem, hass, hc, hz, bodyPostS, results, Try.results61]

theorem idle61 (p : Addr) (w : World) :
    CallsD Try.prog 61 #[.pointer (some p)] .returning w fun e u' w' => e = .returned (.tuple #[]) ∧ u' = .returning ∧ w' = w := by
  have hta : ∀ w : World, (binOp BinOp.neq 20 .nilIface .nilIface).run Try.prog w = .ok (.bool false) w := fun _ => by kernel_rfl
  refine callsD_of_wpS Try.func61 rfl fun c₀ cs hu => ?_
  apply wpS_seq
  apply wpS_region
  simp [wpOpsS, go_sem, recoverD, hu, Try.ntmps61, Exit.thenS]
  apply wpS_seq
  apply wpS_region
  simp [wpOpsS, go_sem, hta, Exit.thenS]
  refine wpS_cond (t := false) (by simp [Act.eval, Array.replicate]) ?_
  simp only [Bool.false_eq_true, if_false]
  refine wpS_of_wp (wp_skip ?_)
  cases c₀
  simp_all [bodyPostS, results, Try.results61]

set_option maxRecDepth 100000 in
set_option maxHeartbeats 2000000 in
theorem beginT_ok (s n rest : List UInt8) (w : World) (hn : textL s = .ok (n, rest)) (hs : s.length ≤ 80000) :
    Calls Try.prog 45 #[.string (str s), .func (.func 46) #[] #[]] w fun e w' => e = .returned (.tuple #[.string (str n), .string (str rest), .int .i64 0]) ∧ Below w.heap.size w w' := by
  have hmf : ∀ (fn : Fn) (first cap : Array Value) (w : World), (Instr.makeFunc fn first cap).run Try.prog w = .ok (.func fn first cap) w := fun _ _ _ _ => rfl
  have H0 : Hid (textL s = .ok (n, rest) ∧ s.length ≤ 80000) := ⟨hn, hs⟩
  clear hn hs
  go_enter_defers Try.func45, Try.ntmps45
  go_wp2_with fail
  refine (text_ok (w.heap.size + 1) s n rest _ ?_ H0.out.1 H0.out.2).mono ?_
  · exact left_new _ _ _
  rintro e w1 ⟨rfl, h1, h2⟩
  have hA : ErrBox w1 w.heap.size 0 := by
    have h3 := h2.block w.heap.size (by simp; omega) (by simp)
    exact h3.trans (err_new w 0 _)
  have hBl : Below w.heap.size w w1 := by
    refine below_grow (w1 := (w.alloc (.cells #[.int .i64 0] 29)).alloc (.cells #[.string (str s)] 82)) ?_ h2 (by omega)
    exact ((Below.refl _ _).alloc (Nat.le_refl _) _).alloc (by simp) _
  have c1 := hA.c
  have f1 := hA.f
  have c2 := h1.c
  have f2 := h1.f
  have HA : Hid (ErrBox w1 w.heap.size 0 ∧ Below w.heap.size w w1) := ⟨hA, hBl⟩
  clear hA hBl h1 h2
  go_wp2_with fail
  go_region
  go_wp2
  refine leaves_cons (f := 61) (args := #[.pointer (some ⟨w.heap.size, 0, none⟩)]) (by simp) (by simp [go_sem]) ?_
  refine (idle61 ⟨w.heap.size, 0, none⟩ _).mono ?_
  rintro e u' w'' ⟨rfl, rfl, rfl⟩
  have c3 : (w1.setCell ⟨w.heap.size, 0, none⟩ (.int .i64 0)).cell? ⟨w.heap.size, 0, none⟩ = some (.int .i64 0) := (HA.out.1.set 0).c
  simp [Leaves, settle, results, Try.results45, go_sem, c3]
  exact (below_grow HA.out.2 (grown_set _ _ _) (Nat.le_refl _)).drew

set_option maxRecDepth 100000 in
set_option maxHeartbeats 2000000 in
theorem beginT_err (s : List UInt8) (n : Int) (w : World) (hn : textL s = .error n) (hs : s.length ≤ 80000) :
    Calls Try.prog 45 #[.string (str s), .func (.func 46) #[] #[]] w fun e w' => e = .returned (.tuple #[.string (str []), .string (str []), .int .i64 n]) ∧ Below w.heap.size w w' := by
  have hmf : ∀ (fn : Fn) (first cap : Array Value) (w : World), (Instr.makeFunc fn first cap).run Try.prog w = .ok (.func fn first cap) w := fun _ _ _ _ => rfl
  have H0 : Hid (textL s = .error n ∧ s.length ≤ 80000) := ⟨hn, hs⟩
  clear hn hs
  go_enter_defers Try.func45, Try.ntmps45
  go_wp2_with fail
  refine (text_err (w.heap.size + 1) s n _ (left_new _ _ _) H0.out.1 H0.out.2).mono ?_
  rintro e w1 ⟨rfl, h2⟩
  have hA : ErrBox w1 w.heap.size 0 := (h2.block w.heap.size (by simp; omega) (by simp)).trans (err_new w 0 _)
  have hBl : Below w.heap.size w w1 := by
    refine below_grow (w1 := (w.alloc (.cells #[.int .i64 0] 29)).alloc (.cells #[.string (str s)] 82)) ?_ h2 (by omega)
    exact ((Below.refl _ _).alloc (Nat.le_refl _) _).alloc (by simp) _
  show Leaves _ _ _ _ _ _ _
  refine leaves_cons (f := 61) (args := #[.pointer (some ⟨w.heap.size, 0, none⟩)]) (by simp) (by simp [go_sem]) ?_
  refine (catch61 ⟨w.heap.size, 0, none⟩ 0 n _ hA.c hA.f).mono ?_
  rintro e u' w'' ⟨rfl, rfl, rfl⟩
  have c3 : (w1.setCell ⟨w.heap.size, 0, none⟩ (.int .i64 n)).cell? ⟨w.heap.size, 0, none⟩ = some (.int .i64 n) := (hA.set n).c
  simp [Leaves, settle, results, Try.results45, go_sem, c3]
  exact ⟨rfl, below_grow hBl (grown_set _ _ _) (Nat.le_refl _)⟩

set_option maxHeartbeats 1000000 in
theorem getText_ok (s n rest : List UInt8) (w : World) (hn : textL s = .ok (n, rest)) (hs : s.length ≤ 80000) :
    Calls Try.prog 25 #[.string (str s)] w fun e w' => e = .returned (.tuple #[.string (str n), .string (str rest), .int .i64 0]) ∧ Below w.heap.size w w' := by
  go_enter Try.func25, Try.ntmps25
  go_wp2_with (go_at_call 45; refine (beginT_ok s n rest _ hn hs).mono ?_; rintro e w1 ⟨rfl, h1⟩)
  go_ret3
  exact ⟨rfl, h1⟩

set_option maxHeartbeats 1000000 in
theorem getText_err (s : List UInt8) (n : Int) (w : World) (hn : textL s = .error n) (hs : s.length ≤ 80000) :
    Calls Try.prog 25 #[.string (str s)] w fun e w' => e = .returned (.tuple #[.string (str []), .string (str []), .int .i64 n]) ∧ Below w.heap.size w w' := by
  go_enter Try.func25, Try.ntmps25
  go_wp2_with (go_at_call 45; refine (beginT_err s n _ hn hs).mono ?_; rintro e w1 ⟨rfl, h1⟩)
  go_ret3
  exact ⟨rfl, h1⟩

/-- A text as bytes. -/
def putT (s : List UInt8) : List UInt8 := putL s.length ++ s
theorem str_append (s t : List UInt8) : str s ++ str t = str (s ++ t) := by
  apply ByteArray.ext
  simp [str, ByteArray.data_append]

set_option maxHeartbeats 1000000 in
theorem putText_any (s : List UInt8) (w : World) (hs : s.length ≤ 80000) :
    Calls Try.prog 17 #[.string (str s)] w fun e w' => e = .returned (.string (str (putT s))) ∧ Below w.heap.size w w' := by
  have hsz : (str s).size = s.length := str_size s
  have h1 : (s.length : Int) ≤ 80000 := by omega
  have hap : str (putL s.length) ++ str s = str (putT s) := str_append _ _
  have hsz2 : (str (putL s.length)).size ≤ 9 := by
    rw [str_size, putL_length]
    have := cntB_le s.length (by omega)
    omega
  go_enter Try.func17, Try.ntmps17
  go_wp2_with fail
  refine (put_s (s.length : Int) _ (by omega) (by unfold BB; omega)).mono ?_
  rw [Int.toNat_natCast]
  rintro e w1 ⟨rfl, b1⟩
  have H1 : Hid (Below w.heap.size w w1) := b1
  clear b1
  go_wp2_with fail
  go_ret
  exact ⟨rfl, H1.out⟩
end Go.Proofs.Ytmmbgfbliekkgaa
