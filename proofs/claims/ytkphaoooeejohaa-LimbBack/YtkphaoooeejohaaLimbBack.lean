/-
  Proved here: for every input LimbBack returns true, and leaves its arguments as they were. No condition.
-/
import Derived.Test.YtkphaoooeejohaaCame
import Derived.Test.YtkphaoooeejohaaSub
import Derived.Test.YtkphaoooeejohaaRTrim
namespace Go.Proofs.Ytkphaoooeejohaa.limbBack
open Go.ChangeShapes Go.WideShapes Go.ChangeAt Go.RowKit
open Go.ChangeMaps (open_string shut_string)
set_option linter.unusedVariables false

set_option maxHeartbeats 1000000 in
theorem walk (a0 : Option Addr) (len0 cap0 : Nat) (z0 : List Int) (a1 : Option Addr) (len1 cap1 : Nat) (z1 : List Int) (a2 : Option Addr) (len2 cap2 : Nat) (z2 : List Int) (w : World) (w0 : IsRow .u64 w a0 len0 cap0 z0) (w1 : IsRow .u64 w a1 len1 cap1 z1) (w2 : IsRow .u64 w a2 len2 cap2 z2) :
    Calls Try.prog 5 #[.slice a0 len0 cap0, .slice a1 len1 cap1, .slice a2 len2 cap2] w fun e w' => e = .returned (.bool true) ∧ Below w.heap.size w w' := by
  have r0 := w0.row
  have r1 := w1.row
  have r2 := w2.row
  generalize z0.take len0 = xs at r0
  generalize z1.take len1 = ys at r1
  generalize z2.take len2 = zs at r2
  have m0 : len0 ≤ maxLen := Nat.le_trans r0.fits r0.most
  have m1 : len1 ≤ maxLen := Nat.le_trans r1.fits r1.most
  have m2 : len2 ≤ maxLen := Nat.le_trans r2.fits r2.most
  clear w0 w1 w2
  have R0 : Hid (RowAt w a0 len0 cap0 xs) := r0
  have R1 : Hid (RowAt w a1 len1 cap1 ys) := r1
  have R2 : Hid (RowAt w a2 len2 cap2 zs) := r2
  clear r0 r1 r2
  by_cases h1 : 30 < len0 ∨ 30 < len1
  · clear R0 R1 R2
    go_enter Try.func5, Try.ntmps5
    go_wp2_with fail
    refine (heavy_yes _ _ _ _ _ _ _ m0 m1 h1).mono ?_
    rintro e w1 ⟨rfl, rfl⟩
    go_wp2_with fail
    refine (shown_any _).mono ?_
    rintro e w2 ⟨rfl, hb⟩
    go_wp2
    go_ret
    exact ⟨rfl, hb⟩
  · by_cases h2 : 30 < len2
    · clear R0 R1 R2
      go_enter Try.func5, Try.ntmps5
      go_wp2_with fail
      refine (heavy_no _ _ _ _ _ _ _ (by omega) (by omega)).mono ?_
      rintro e w1 ⟨rfl, rfl⟩
      go_wp2_with fail
      refine (heavy_yes _ _ _ _ _ _ _ m2 m2 (Or.inl h2)).mono ?_
      rintro e w1 ⟨rfl, rfl⟩
      go_wp2_with fail
      refine (shown_any _).mono ?_
      rintro e w2 ⟨rfl, hb⟩
      go_wp2
      go_ret
      exact ⟨rfl, hb⟩
    · have k0 : len0 ≤ 30 := by omega
      have k1 : len1 ≤ 30 := by omega
      have k2 : len2 ≤ 30 := by omega
      clear h1 h2 m0 m1 m2
      go_enter Try.func5, Try.ntmps5
      go_wp2_with fail
      refine (heavy_no _ _ _ _ _ _ _ k0 k1).mono ?_
      rintro e w1 ⟨rfl, rfl⟩
      go_wp2_with fail
      refine (heavy_no _ _ _ _ _ _ _ k2 k2).mono ?_
      rintro e w1 ⟨rfl, rfl⟩
      go_wp2_with fail
      refine (shown_any _).mono ?_
      rintro e w1 ⟨rfl, b1⟩
      have A1 : Hid (Below w.heap.size w w1) := b1
      clear b1
      go_wp2_with fail
      refine (add_any _ _ _ _ _ _ xs ys _ (R0.out.below A1.out) (R1.out.below A1.out) (by omega) (by omega)).mono ?_
      rintro e w2 ⟨so, sm, sc, s, rfl, hs, ns, ms, b2⟩
      have A2 : Hid (Below w.heap.size w w2) := chain A1.out b2
      have S2 : Hid (RowAt w2 so sm sc s) := hs
      have NS : Hid _ := ns
      clear hs ns b2 A1
      go_wp2_with fail
      refine (sub_any _ _ _ _ _ _ s ys _ S2.out (R1.out.below A2.out) (by omega) (by omega)).mono ?_
      rintro e w3 ⟨xo, xm, xc, x, b, rfl, hx, mx, b3, hcase⟩
      have hv : b = true ∧ Num x (val xs) := by
        have v1 := NS.out.val
        have v2 := val_bd R1.out.limbs
        have v3 := val_bd R0.out.limbs
        rcases hcase with ⟨e1, h1, h2⟩ | ⟨e1, h1, _⟩
        · rw [v1, show val xs + val ys - val ys = val xs by omega] at h2
          exact ⟨e1, h2⟩
        · rw [v1] at h1; omega
      obtain ⟨rfl, nx⟩ := hv
      clear hcase
      have A3 : Hid (Below w.heap.size w w3) := chain A2.out b3
      have S3 : Hid (RowAt w3 so sm sc s) := S2.out.below b3
      have X3 : Hid (RowAt w3 xo xm xc x) := hx
      have NX : Hid _ := nx
      clear hx nx b3 A2 S2
      go_wp2_with fail
      refine (rtrim_any _ _ _ xs _ (R0.out.below A3.out) (by omega)).mono ?_
      rintro e w4 ⟨to, tm, tc, t, rfl, ht, nt, mt, b4⟩
      have A4 : Hid (Below w.heap.size w w4) := chain A3.out b4
      have S4 : Hid (RowAt w4 so sm sc s) := S3.out.below b4
      have X4 : Hid (RowAt w4 xo xm xc x) := X3.out.below b4
      have T4 : Hid (RowAt w4 to tm tc t) := ht
      have EX : Hid (x = t) := NX.out.one nt
      clear ht nt b4 A3 S3 X3 NX
      go_wp2_with fail
      refine (same_yes _ _ _ _ _ _ x t _ X4.out T4.out EX.out).mono ?_
      rintro e w5 ⟨rfl, b5⟩
      have A5 : Hid (Below w.heap.size w w5) := chain A4.out b5
      have S5 : Hid (RowAt w5 so sm sc s) := S4.out.below b5
      clear b5 A4 S4 X4 T4 EX
      go_wp2_with fail
      refine (add_any _ _ _ _ _ _ ys xs _ (R1.out.below A5.out) (R0.out.below A5.out) (by omega) (by omega)).mono ?_
      rintro e w6 ⟨yo, ym, yc, y, rfl, hy, ny, my, b6⟩
      have A6 : Hid (Below w.heap.size w w6) := chain A5.out b6
      have S6 : Hid (RowAt w6 so sm sc s) := S5.out.below b6
      have Y6 : Hid (RowAt w6 yo ym yc y) := hy
      have EY : Hid (s = y) := NS.out.one (by rw [Int.add_comm]; exact ny)
      clear hy ny b6 A5 S5
      go_wp2_with fail
      refine (same_yes _ _ _ _ _ _ s y _ S6.out Y6.out EY.out).mono ?_
      rintro e w7 ⟨rfl, b7⟩
      have A7 : Hid (Below w.heap.size w w7) := chain A6.out b7
      have S7 : Hid (RowAt w7 so sm sc s) := S6.out.below b7
      clear b7 A6 S6 Y6 EY
      go_wp2_with fail
      refine (add_any _ _ _ _ _ _ s zs _ S7.out (R2.out.below A7.out) (by omega) (by omega)).mono ?_
      rintro e w8 ⟨po, pm, pc, p, rfl, hp, np, mp, b8⟩
      have A8 : Hid (Below w.heap.size w w8) := chain A7.out b8
      have P8 : Hid (RowAt w8 po pm pc p) := hp
      have NP : Hid _ := np
      clear hp np b8 A7 S7
      go_wp2_with fail
      refine (add_any _ _ _ _ _ _ ys zs _ (R1.out.below A8.out) (R2.out.below A8.out) (by omega) (by omega)).mono ?_
      rintro e w9 ⟨qo, qm, qc, q, rfl, hq, nq, mq, b9⟩
      have A9 : Hid (Below w.heap.size w w9) := chain A8.out b9
      have P9 : Hid (RowAt w9 po pm pc p) := P8.out.below b9
      have Q9 : Hid (RowAt w9 qo qm qc q) := hq
      have NQ : Hid _ := nq
      clear hq nq b9 A8 P8
      go_wp2_with fail
      refine (add_any _ _ _ _ _ _ xs q _ (R0.out.below A9.out) Q9.out (by omega) (by omega)).mono ?_
      rintro e w10 ⟨uo, um, uc, u, rfl, hu, nu, mu, b10⟩
      have A10 : Hid (Below w.heap.size w w10) := chain A9.out b10
      have P10 : Hid (RowAt w10 po pm pc p) := P9.out.below b10
      have U10 : Hid (RowAt w10 uo um uc u) := hu
      have EU : Hid (p = u) := NP.out.one (by rw [NQ.out.val] at nu; rw [NS.out.val, Int.add_assoc]; exact nu)
      clear hu nu b10 A9 P9 Q9
      go_wp2_with fail
      refine (same_yes _ _ _ _ _ _ p u _ P10.out U10.out EU.out).mono ?_
      rintro e w11 ⟨rfl, b11⟩
      go_wp2
      go_ret
      exact ⟨rfl, chain A10.out b11⟩

set_option maxRecDepth 100000 in
theorem lifted (os : Os) (started : os.Started) (H : Type) (enc : TypeId × Value → H) :
    ReturnsInHanded {} Try.checked os 5 .any (Rows.limbBackSpec.pre6 enc Try.prog Try.f5 Rows.limbBackRow.domain false) (Rows.limbBackSpec.post enc Try.prog Try.f5 false true false false) := by
  refine returnsInHanded_of_change (C := Try.checked) own started (by kernel_rfl) Try.func5
    (ChangeSpec.witness6 (enc := enc) (C := Try.checked) false ⟨#[], #[.slice none 0 0, .slice none 0 0, .slice none 0 0], []⟩ 8 (by kernel_rfl) (by kernel_rfl) (by kernel_rfl) (by kernel_rfl)) ?_
  intro W base args ds gs before hval0 hW hcnd _
  have hval : ∀ (j : Nat) t v, Try.f5.params[j]? = some t → args[j]? = some v → Value.okWide Try.prog W .any base t v := hval0
  have hW' := hW
  obtain ⟨p, q, hA0, hV, rfl, hfz, hnd⟩ := hW
  have hA : DataW.TrodAll enc Try.prog W 0 (fun _ => true) true Try.f5.params.toList args.toList ds p := hA0
  rw [Try.params5] at hA hval
  obtain ⟨v0, vs0, d0, ds0, p0, q0, hargs, rfl, rfl, h0, r0⟩ := trodAll_cons hA
  obtain ⟨v1, vs1, d1, ds1, p1, q1, rfl, rfl, rfl, h1, r1⟩ := trodAll_cons r0
  obtain ⟨v2, vs2, d2, ds2, p2, q2, rfl, rfl, rfl, h2, r2⟩ := trodAll_cons r1
  obtain ⟨rfl, rfl, rfl⟩ := trodAll_nil r2
  obtain rfl : args = #[v0, v1, v2] := by cases args; simp_all
  obtain ⟨rfl, rfl⟩ := trodVars_none hV
  obtain ⟨a0, len0, cap0, rfl⟩ := okWide_slice Try.underlying22 (hval 0 22 v0 rfl rfl)
  have k0 := h0
  have lt0 : ∀ x ∈ p0, x.block < W.heap.size := by obtain ⟨m, hm⟩ := k0; exact DataW.trod_lt m _ _ _ hm
  obtain ⟨z0, w0⟩ : ∃ zs, IsRow .u64 W a0 len0 cap0 zs := by
    obtain ⟨fuel, hf⟩ := h0
    rcases open_ints Try.underlying22 Try.underlying36 (by kernel_rfl) hf with ⟨hcs, _⟩ | ⟨x, l, c, zs, hcs, _, hl, hm, hz, _, hcell, hwz⟩
    · simp [Value.cells] at hcs
      obtain ⟨rfl, rfl, rfl⟩ := hcs
      exact ⟨[], .inl ⟨rfl, rfl, rfl, rfl⟩⟩
    · simp [Value.cells] at hcs
      obtain ⟨rfl, rfl, rfl⟩ := hcs
      exact ⟨zs, .inr ⟨_, rfl, hl, hm, by simpa using hz, hcell, hwz⟩⟩
  obtain ⟨a1, len1, cap1, rfl⟩ := okWide_slice Try.underlying22 (hval 1 22 v1 rfl rfl)
  have k1 := h1
  have lt1 : ∀ x ∈ p1, x.block < W.heap.size := by obtain ⟨m, hm⟩ := k1; exact DataW.trod_lt m _ _ _ hm
  obtain ⟨z1, w1⟩ : ∃ zs, IsRow .u64 W a1 len1 cap1 zs := by
    obtain ⟨fuel, hf⟩ := h1
    rcases open_ints Try.underlying22 Try.underlying36 (by kernel_rfl) hf with ⟨hcs, _⟩ | ⟨x, l, c, zs, hcs, _, hl, hm, hz, _, hcell, hwz⟩
    · simp [Value.cells] at hcs
      obtain ⟨rfl, rfl, rfl⟩ := hcs
      exact ⟨[], .inl ⟨rfl, rfl, rfl, rfl⟩⟩
    · simp [Value.cells] at hcs
      obtain ⟨rfl, rfl, rfl⟩ := hcs
      exact ⟨zs, .inr ⟨_, rfl, hl, hm, by simpa using hz, hcell, hwz⟩⟩
  obtain ⟨a2, len2, cap2, rfl⟩ := okWide_slice Try.underlying22 (hval 2 22 v2 rfl rfl)
  have k2 := h2
  have lt2 : ∀ x ∈ p2, x.block < W.heap.size := by obtain ⟨m, hm⟩ := k2; exact DataW.trod_lt m _ _ _ hm
  obtain ⟨z2, w2⟩ : ∃ zs, IsRow .u64 W a2 len2 cap2 zs := by
    obtain ⟨fuel, hf⟩ := h2
    rcases open_ints Try.underlying22 Try.underlying36 (by kernel_rfl) hf with ⟨hcs, _⟩ | ⟨x, l, c, zs, hcs, _, hl, hm, hz, _, hcell, hwz⟩
    · simp [Value.cells] at hcs
      obtain ⟨rfl, rfl, rfl⟩ := hcs
      exact ⟨[], .inl ⟨rfl, rfl, rfl, rfl⟩⟩
    · simp [Value.cells] at hcs
      obtain ⟨rfl, rfl, rfl⟩ := hcs
      exact ⟨zs, .inr ⟨_, rfl, hl, hm, by simpa using hz, hcell, hwz⟩⟩
  clear hA0 hval0
  refine (walk a0 len0 cap0 z0 a1 len1 cap1 z1 a2 len2 cap2 z2 W w0 w1 w2).mono fun e W' ⟨he, bel⟩ => ?_
  subst he
  exact ⟨_, rfl, _, _, _, [], _, [], hW', trodAll_mk1 (shut_bool Try.underlying4 _), (trodAll_cons_mk (Below.trod laidOut (by kernel_rfl) (of_decide_eq_true (by kernel_rfl)) k0 bel lt0) (trodAll_cons_mk (Below.trod laidOut (by kernel_rfl) (of_decide_eq_true (by kernel_rfl)) k1 bel lt1) (trodAll_cons_mk (Below.trod laidOut (by kernel_rfl) (of_decide_eq_true (by kernel_rfl)) k2 bel lt2) trodAll_mk0))), rfl, bel.frame _, fun h => by cases h⟩

theorem over : Rows.limbBackRow.holds Try.pinned (OpenSpec.ofChange Rows.limbBackSpec) :=
  OpenClaim.holds_of_wide 5 Try.f5 rfl rfl rfl rfl rfl rfl rfl ⟨rfl, rfl, rfl, rfl, rfl⟩ rfl rfl rfl rfl rfl (by kernel_rfl) Try.func5 (by kernel_rfl)
    (of_decide_eq_true (by kernel_rfl)) (by unfold Func.isWrapper; first | (rw [if_pos (by decide +kernel)]; kernel_rfl) | (rw [if_neg (by decide +kernel)]; exact ⟨rfl, rfl⟩))
    (fun os started H enc _ => lifted os started H enc)

theorem proved : Rows.LimbBackSaid := over
#print axioms proved
end Go.Proofs.Ytkphaoooeejohaa.limbBack
