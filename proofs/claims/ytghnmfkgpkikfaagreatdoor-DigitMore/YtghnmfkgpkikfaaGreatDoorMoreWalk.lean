/-
  DigitMore, walked.
-/
import Derived.Test.YtghnmfkgpkikfaaGreatDoorBackWalk
import Derived.Test.YtghnmfkgpkikfaaGreatDoorRPrint
import Derived.Test.YtghnmfkgpkikfaaGreatDoorJ2
import Derived.Test.YtghnmfkgpkikfaaGreatDoorRFrom
import Derived.Deep.RegionHeld3
namespace Go.Proofs.YtghnmfkgpkikfaaGreatDoor
open Go.RowKit
attribute [local go_sem ↓] Go.wp_at_zero Go.wp_at_succ

/-- A text with a digit behind it. -/
theorem txt_more {t : List UInt8} {v d : Int} (h : Txt t v) (hv : v ≠ 0) (h0 : 0 ≤ d) (h1 : d < 10) : IsNum (t ++ [dch d]) ∧ nv (t ++ [dch d]) = v * 10 + d := by
  have hn := h.isNum
  have hvv := h.nv
  have hd := dch_nat h0 h1
  have hhead : t.getD 0 0 ≠ 48 := by
    obtain ⟨l, hl, rfl⟩ := h
    have hne : l ≠ [] := fun e => by
      rw [e] at hl
      exact hv hl.val.symm
    rw [txt, if_neg hne]
    exact dtext_head hl.digs hl.trim hne
  have hlen : 0 < t.length := by rcases hn.2 with h | h <;> omega
  refine ⟨⟨fun c hc => ?_, .inr ⟨by simp; omega, ?_⟩⟩, ?_⟩
  · rcases List.mem_append.1 hc with h | h
    · exact hn.1 c h
    · simp at h
      subst h
      omega
  · cases t with
    | nil => simp at hlen
    | cons c r => simpa using hhead
  · rw [nv_snoc, hvv, hd]
    omega

theorem ten_slice0 (wx : World) : (Instr.slice 9 (.string ⟨#[48, 49, 50, 51, 52, 53, 54, 55, 56, 57]⟩) (some (.int .u64 0)) (some (.int .u64 1)) none).run Tryz.prog wx = .ok (.string ⟨#[48]⟩) wx := by kernel_rfl
theorem ten_slice1 (wx : World) : (Instr.slice 9 (.string ⟨#[48, 49, 50, 51, 52, 53, 54, 55, 56, 57]⟩) (some (.int .u64 1)) (some (.int .u64 2)) none).run Tryz.prog wx = .ok (.string ⟨#[49]⟩) wx := by kernel_rfl
theorem ten_slice2 (wx : World) : (Instr.slice 9 (.string ⟨#[48, 49, 50, 51, 52, 53, 54, 55, 56, 57]⟩) (some (.int .u64 2)) (some (.int .u64 3)) none).run Tryz.prog wx = .ok (.string ⟨#[50]⟩) wx := by kernel_rfl
theorem ten_slice3 (wx : World) : (Instr.slice 9 (.string ⟨#[48, 49, 50, 51, 52, 53, 54, 55, 56, 57]⟩) (some (.int .u64 3)) (some (.int .u64 4)) none).run Tryz.prog wx = .ok (.string ⟨#[51]⟩) wx := by kernel_rfl
theorem ten_slice4 (wx : World) : (Instr.slice 9 (.string ⟨#[48, 49, 50, 51, 52, 53, 54, 55, 56, 57]⟩) (some (.int .u64 4)) (some (.int .u64 5)) none).run Tryz.prog wx = .ok (.string ⟨#[52]⟩) wx := by kernel_rfl
theorem ten_slice5 (wx : World) : (Instr.slice 9 (.string ⟨#[48, 49, 50, 51, 52, 53, 54, 55, 56, 57]⟩) (some (.int .u64 5)) (some (.int .u64 6)) none).run Tryz.prog wx = .ok (.string ⟨#[53]⟩) wx := by kernel_rfl
theorem ten_slice6 (wx : World) : (Instr.slice 9 (.string ⟨#[48, 49, 50, 51, 52, 53, 54, 55, 56, 57]⟩) (some (.int .u64 6)) (some (.int .u64 7)) none).run Tryz.prog wx = .ok (.string ⟨#[54]⟩) wx := by kernel_rfl
theorem ten_slice7 (wx : World) : (Instr.slice 9 (.string ⟨#[48, 49, 50, 51, 52, 53, 54, 55, 56, 57]⟩) (some (.int .u64 7)) (some (.int .u64 8)) none).run Tryz.prog wx = .ok (.string ⟨#[55]⟩) wx := by kernel_rfl
theorem ten_slice8 (wx : World) : (Instr.slice 9 (.string ⟨#[48, 49, 50, 51, 52, 53, 54, 55, 56, 57]⟩) (some (.int .u64 8)) (some (.int .u64 9)) none).run Tryz.prog wx = .ok (.string ⟨#[56]⟩) wx := by kernel_rfl
theorem ten_slice9 (wx : World) : (Instr.slice 9 (.string ⟨#[48, 49, 50, 51, 52, 53, 54, 55, 56, 57]⟩) (some (.int .u64 9)) (some (.int .u64 10)) none).run Tryz.prog wx = .ok (.string ⟨#[57]⟩) wx := by kernel_rfl
theorem ten_slice (d : Nat) (h : d < 10) (wx : World) : (Instr.slice 9 (.string ⟨#[48, 49, 50, 51, 52, 53, 54, 55, 56, 57]⟩) (some (.int .u64 (d : Int))) (some (.int .u64 ((d : Int) + 1))) none).run Tryz.prog wx = .ok (.string ⟨[dch (d : Int)].toArray⟩) wx := by
  have : d = 0 ∨ d = 1 ∨ d = 2 ∨ d = 3 ∨ d = 4 ∨ d = 5 ∨ d = 6 ∨ d = 7 ∨ d = 8 ∨ d = 9 := by omega
  rcases this with rfl | rfl | rfl | rfl | rfl | rfl | rfl | rfl | rfl | rfl
  · exact ten_slice0 wx
  · exact ten_slice1 wx
  · exact ten_slice2 wx
  · exact ten_slice3 wx
  · exact ten_slice4 wx
  · exact ten_slice5 wx
  · exact ten_slice6 wx
  · exact ten_slice7 wx
  · exact ten_slice8 wx
  · exact ten_slice9 wx

/-- Print, its text a name of its own. -/
theorem print_named (ao : Option Addr) (na ca : Nat) (xs : List Int) (w : World) (ha : RowAt w ao na ca xs) (hm : May xs) (ht : Tab w) :
    Calls Tryz.prog 13 #[.slice ao na ca] w fun e w' => ∃ T : ByteArray, e = .returned (.string T) ∧ Hid (∃ t, T = ⟨List.toArray t⟩ ∧ Txt t (val xs)) ∧ T.size ≤ 155 ∧ Below w.heap.size w w' :=
  (print_any ao na ca xs w ha ht).mono fun e w' ⟨t, h1, h2, h3⟩ => ⟨_, h1, ⟨t, rfl, h2.fine hm⟩, by rw [str_size]; exact (txt_few (h2.fine hm) (hm.lt ha.limbs)).1, h3⟩

theorem parse_named (T D : ByteArray) (v : Int) (d : Nat) (hd : d < 10) (w : World) (hT : ∃ t, T = ⟨List.toArray t⟩ ∧ Txt t v) (hs : T.size ≤ 155) (hD : (⟨[dch (d : Int)].toArray⟩ : ByteArray) = D) (hv : v ≠ 0) :
    Calls Tryz.prog 16 #[.string (T ++ D)] w fun e w' => ∃ ro m c r k, e = .returned (.tuple #[.slice ro m c, .int .i64 k]) ∧ RowAt w' ro m c r ∧ Out True False (v * 10 + d) r k ∧ Below w.heap.size w w' := by
  obtain ⟨t, rfl, ht⟩ := hT
  rw [← hD, app_bytes]
  obtain ⟨h1, h2⟩ := txt_more ht hv (show (0 : Int) ≤ (d : Int) by omega) (by omega)
  rw [str_size] at hs
  refine (parse_any (t ++ [dch (d : Int)]) w (by simp; omega)).mono fun e w' ⟨ro, m, c, r, k, e1, e2, e3, e4⟩ => ⟨ro, m, c, r, k, e1, e2, ?_, e4⟩
  rw [← h2]
  exact ⟨fun h => absurd trivial h, fun _ h => h.elim, fun _ _ hb => e3.big h1 hb, fun _ _ hb => e3.fine h1 hb⟩

set_option maxRecDepth 100000 in
set_option maxHeartbeats 4000000 in
theorem more_walk (a0 : Option Addr) (len0 cap0 : Nat) (z0 : List Int) (a1 : Int) (w : World) (w0 : IsRow .u64 w a0 len0 cap0 z0) (w1 : (Lit.int .u8 a1).wf = true) (ht : Tab w) :
    Calls Tryz.prog 6 #[.slice a0 len0 cap0, .int .u8 a1] w fun e w' => e = .returned (.bool true) ∧ Below w.heap.size w w' := by
  have r0 := w0.row
  generalize z0.take len0 = xs at r0
  obtain ⟨p0, p1⟩ := bounds_u8 w1
  have R : Hid (RowAt w a0 len0 cap0 xs ∧ Tab w) := ⟨r0, ht⟩
  clear w0 w1 r0 ht
  obtain ⟨d, hd⟩ : ∃ d : Nat, (d : Int) = a1 % 10 := ⟨(a1 % 10).toNat, by have := Int.emod_nonneg a1 (show (10 : Int) ≠ 0 by decide); omega⟩
  have ht10 : a1.tmod 10 = (d : Int) := by rw [Int.tmod_eq_emod_of_nonneg p0]; omega
  have hd9 : (d : Int) ≤ 9 := by have := Int.emod_lt_of_pos a1 (show (0 : Int) < 10 by decide); omega
  clear hd
  go_enter Tryz.func6, Tryz.ntmps6
  go_wp2_with fail
  refine (lheld_any _ _ _ xs _ R.out.1).mono ?_
  rintro e w1 ⟨xo, xm, xc, x, rfl, g1, g2, g3, g4⟩
  have hvz := val_zero g2.2 g2.1 g1.len
  have hlt := g2.1.lt g2.2
  have A1 : Hid (RowAt w1 xo xm xc x ∧ May x ∧ Limbs x ∧ Below w.heap.size w w1 ∧ (xm = 0 ↔ val x = 0) ∧ val x < Big) := ⟨g1, g2.1, g2.2, g4, hvz, hlt⟩
  have hxm : xm ≤ 8 := g3
  clear g1 g2 g3 g4 hvz hlt
  by_cases h0 : xm = 0
  · have h0b : ((xm : Int) == 0) = true := by rw [h0]; rfl
    clear h0
    go_wp2_with fail
    refine (shown_any _ (R.out.2.below A1.out.2.2.2.1)).mono ?_
    rintro e w2 ⟨rfl, b2⟩
    have A2 : Hid (Below w.heap.size w w2) := chain A1.out.2.2.2.1 b2
    clear b2
    go_wp2
    go_ret
    exact ⟨rfl, A2.out⟩
  · have h0b : ((xm : Int) == 0) = false := by rw [beq_eq_false_iff_ne]; omega
    have HV : Hid (val x ≠ 0) := fun e => h0 (A1.out.2.2.2.2.1.2 e)
    clear h0
    go_wp2_with fail
    refine (shown_any _ (R.out.2.below A1.out.2.2.2.1)).mono ?_
    rintro e w2 ⟨rfl, b2⟩
    have A2 : Hid (RowAt w2 xo xm xc x ∧ Tab w2 ∧ Below w.heap.size w w2) := ⟨A1.out.1.below b2, (R.out.2.below A1.out.2.2.2.1).below b2, chain A1.out.2.2.2.1 b2⟩
    clear b2
    have hpc := ten_piece d (by omega)
    obtain ⟨D, hD⟩ : ∃ D : ByteArray, (⟨[dch (d : Int)].toArray⟩ : ByteArray) = D := ⟨_, rfl⟩
    have hDs : D.size = 1 := by rw [← hD]; rfl
    rw [hD] at hpc
    have HD : Hid ((⟨[dch (d : Int)].toArray⟩ : ByteArray) = D) := hD
    have HR2 : Hid (RowAt w2.drew xo xm xc x ∧ Tab w2.drew) := ⟨A2.out.1.drew, A2.out.2.1.below (Below.refl _ _).drew⟩
    clear hD
    have hd0 : (0 : Int) ≤ (d : Int) := by omega
    have hw1 : IntKind.u64.wrap ((d : Int) + 1) = (d : Int) + 1 := by rw [IntKind.wrap_u64]; omega
    have hsl : ∀ wx : World, (Instr.slice 9 (.string ⟨#[48, 49, 50, 51, 52, 53, 54, 55, 56, 57]⟩) (some (.int .u64 (d : Int))) (some (.int .u64 ((d : Int) + 1))) none).run Tryz.prog wx = .ok (.string D) wx := fun wx => by
      rw [← HD.out]
      exact ten_slice d (by omega) wx
    go_wp2_with fail
    go_region_held3 (fun _ => True) (first | go_keep | trivial)
      (first
        | (go_at_call 13; refine (print_named _ _ _ x _ HR2.out.1 A1.out.2.1 HR2.out.2).mono ?_; rintro e wp ⟨T, rfl, q1, q2, q3⟩; have hadd := fun wx : World => run_string_add_sum (P := Tryz.prog) (w := wx) T D (by omega))
        | (go_at_call 16; refine (parse_named T D (val x) d (by omega) _ q1.out q2 HD.out HV.out).mono ?_; rintro e wy ⟨yo, ym, yc, y, yk, rfl, y1, y2, y3⟩))
    have A3 : Hid (RowAt wy yo ym yc y ∧ Out True False (val x * 10 + (d : Int)) y yk ∧ RowAt wy xo xm xc x ∧ Below w.heap.size w wy) := ⟨y1, y2, (HR2.out.1.below q3).below y3, chain (chain A2.out.2.2 ((Below.refl _ _).drew.trans q3)) y3⟩
    clear y1 y2 y3 q1 q2 q3 hadd hsl hpc HR2
    have HT : Hid (RowAt (wy.alloc (Obj.cells #[.int .u64 10] 24)) (some ⟨wy.heap.size, 0, none⟩) 1 1 [10] ∧ Below wy.heap.size wy (wy.alloc (Obj.cells #[.int .u64 10] 24))) := ⟨one_row wy 10 (by omega) (by unfold BB; omega), (Below.refl _ _).alloc (Nat.le_refl _) _⟩
    go_wp2_with fail
    refine (rmul_any _ _ _ _ _ _ x [10] _ (A3.out.2.2.1.below HT.out.2) HT.out.1 (by omega) (by omega)).mono ?_
    rintro e wm ⟨mo, mm, mc, ms, rfl, m1, m2, m3⟩
    rw [show val [(10 : Int)] = 10 by simp [val]] at m2
    have hmm : mm ≤ 9 := few18 m1.len m2 (val_bd A1.out.2.2.1).1 A1.out.2.2.2.2.2 (by omega) (by unfold BB; omega)
    have A4 : Hid (RowAt wm mo mm mc ms ∧ Num ms (val x * 10) ∧ RowAt wm yo ym yc y ∧ Below w.heap.size w wm) := ⟨m1, m2, (A3.out.1.below HT.out.2).below m3, chain A3.out.2.2.2 (chain HT.out.2 m3)⟩
    have HU : Hid (RowAt (wm.alloc (Obj.cells #[.int .u64 (d : Int)] 24)) (some ⟨wm.heap.size, 0, none⟩) 1 1 [(d : Int)] ∧ Below wm.heap.size wm (wm.alloc (Obj.cells #[.int .u64 (d : Int)] 24))) := ⟨one_row wm d (by omega) (by unfold BB; omega), (Below.refl _ _).alloc (Nat.le_refl _) _⟩
    clear m1 m2 m3
    go_wp2_with fail
    refine (radd_any _ _ _ _ _ _ ms [(d : Int)] _ (A4.out.1.below HU.out.2) HU.out.1 (by omega) (by omega)).mono ?_
    rintro e wn ⟨no, nn, nc, ns, rfl, n1, n2, n3⟩
    rw [A4.out.2.1.val, show val [(d : Int)] = d by simp [val]] at n2
    have hnn : nn ≤ 9223372036854775807 := by have := n1.fits; have := n1.most; unfold maxLen at this; omega
    have h8 := n2.le8
    rw [n1.len] at h8
    have A5 : Hid (RowAt wn no nn nc ns ∧ Num ns (val x * 10 + (d : Int)) ∧ RowAt wn yo ym yc y ∧ Below w.heap.size w wn) := ⟨n1, n2, (A4.out.2.2.1.below HU.out.2).below n3, chain A4.out.2.2.2 (chain HU.out.2 n3)⟩
    clear n1 n2 n3
    rcases Int.lt_or_le (val x * 10 + (d : Int)) Big with hl | hg
    · have h8' : ¬ (8 : Int) < (nn : Int) := by have := h8.2 hl; omega
      obtain ⟨hk0, hnum⟩ := A3.out.2.1.ok_num trivial (fun f => f) hl
      have HE : Hid (y = ns) := hnum.one A5.out.2.1
      subst hk0
      clear hnum hl h8
      go_wp2_with fail
      refine (rnsame_yes _ _ _ _ _ _ y ns _ A5.out.2.2.1 A5.out.1 HE.out).mono ?_
      rintro e w9 ⟨rfl, b9⟩
      have A9 : Hid (Below w.heap.size w w9) := chain A5.out.2.2.2 b9
      clear b9
      go_wp2
      go_ret
      exact ⟨rfl, A9.out⟩
    · have h8' : (8 : Int) < (nn : Int) := by
        have : ¬ nn ≤ 8 := fun h => by have := h8.1 h; omega
        omega
      obtain ⟨hk0, _⟩ := A3.out.2.1.is_big trivial (fun f => f) hg
      subst hk0
      clear hg h8
      go_wp2
      go_ret
      exact ⟨rfl, A5.out.2.2.2⟩

end Go.Proofs.YtghnmfkgpkikfaaGreatDoor
