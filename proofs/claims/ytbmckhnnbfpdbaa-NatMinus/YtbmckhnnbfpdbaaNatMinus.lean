/-
  Proved here: for every input NatMinus returns true, and leaves its arguments as they were. No condition.
-/
import Derived.Test.YtbmckhnnbfpdbaaCame
import Derived.Test.YtbmckhnnbfpdbaaNatShown
import Derived.Test.YtbmckhnnbfpdbaaRNat
namespace Go.Proofs.Ytbmckhnnbfpdbaa.natMinus
open Go.ChangeShapes Go.WideShapes Go.ChangeAt Go.RowKit
open Go.ChangeMaps (open_string shut_string)
set_option linter.unusedVariables false

set_option maxRecDepth 100000 in
set_option maxHeartbeats 4000000 in
theorem walk (a0 : Option Addr) (len0 cap0 : Nat) (z0 : List Int) (a1 : Option Addr) (len1 cap1 : Nat) (z1 : List Int) (w : World) (w0 : IsRow .u64 w a0 len0 cap0 z0) (w1 : IsRow .u64 w a1 len1 cap1 z1) :
    Calls Try.prog 7 #[.slice a0 len0 cap0, .slice a1 len1 cap1] w fun e w' => e = .returned (.bool true) ∧ Below w.heap.size w w' := by
  have r0 := w0.row
  have r1 := w1.row
  generalize z0.take len0 = xs at r0
  generalize z1.take len1 = ys at r1
  have m0 : len0 ≤ maxLen := Nat.le_trans r0.fits r0.most
  have m1 : len1 ≤ maxLen := Nat.le_trans r1.fits r1.most
  clear w0 w1
  have R0 : Hid (RowAt w a0 len0 cap0 xs) := r0
  have R1 : Hid (RowAt w a1 len1 cap1 ys) := r1
  clear r0 r1
  have e0 : xs.length = len0 := R0.out.len
  have e1 : ys.length = len1 := R1.out.len
  clear m0 m1
  by_cases hx : May xs
  · have l0 : len0 ≤ 8 := by have := hx.1; omega
    have HX : Hid (May xs) := hx
    clear hx
    by_cases hy : May ys
    · have l1 : len1 ≤ 8 := by have := hy.1; omega
      have HY : Hid (May ys) := hy
      clear hy e0 e1
      obtain ⟨cv, hcv⟩ : ∃ c, c = cmpI (val xs) (val ys) := ⟨_, rfl⟩
      have HC : Hid (cv = cmpI (val xs) (val ys)) := hcv
      rcases Int.lt_or_le (val xs) (val ys) with hv | hv
      · have HV : Hid (val xs < val ys) := hv
        have hc1 : cv < 0 := by rw [hcv, cmpI, if_pos hv]; omega
        clear hcv hv
        rcases Int.lt_or_le (val xs + val ys) Big with hs | hs
        · have HS : Hid (val xs + val ys < Big) := hs
          clear hs
          go_enter Try.func7, Try.ntmps7
          go_wp2_with fail
          refine (rmay_val _ _ _ xs _ R0.out true (yes_iff HX.out)).mono ?_
          rintro e w' ⟨rfl, rfl⟩
          go_wp2_with fail
          refine (rmay_val _ _ _ ys _ R1.out true (yes_iff HY.out)).mono ?_
          rintro e w' ⟨rfl, rfl⟩
          go_wp2_with fail
          refine (nshown_any _).mono ?_
          rintro e w1 ⟨rfl, b1⟩
          have A1 : Hid (Below w.heap.size w w1) := b1
          clear b1
          go_wp2_with fail
          refine (nadd_any _ _ _ _ _ _ xs ys _ (R0.out.below A1.out) (R1.out.below A1.out)).mono ?_
          rintro e w2 ⟨so, sm, sc, s, sk, rfl, hs, os, b2⟩
          have Os : Hid _ := os
          clear os
          have A2 : Hid (Below w.heap.size w w2) := chain A1.out b2
          have Xs2 : Hid (RowAt w2 so sm sc s) := hs
          clear b2 A1 hs
          have Ns : Hid (Num s (val xs + val ys)) := (Os.out.ok_num ⟨HX.out, HY.out⟩ (fun f => f) HS.out).2
          have eks : sk = 0 := (Os.out.ok_num ⟨HX.out, HY.out⟩ (fun f => f) HS.out).1
          subst eks
          clear Os
          go_wp2_with fail
          refine (nsub_any _ _ _ _ _ _ xs ys _ (R0.out.below A2.out) (R1.out.below A2.out)).mono ?_
          rintro e w3 ⟨xo, xm, xc, x, xk, rfl, hx, ox, b3⟩
          have Ox : Hid _ := ox
          clear ox
          have A3 : Hid (Below w.heap.size w w3) := chain A2.out b3
          have Xs3 : Hid (RowAt w3 so sm sc s) := Xs2.out.below b3
          have Xx3 : Hid (RowAt w3 xo xm xc x) := hx
          clear b3 A2 Xs2 hx
          obtain ⟨ekx, ex⟩ := Ox.out.is_minus ⟨HX.out, HY.out⟩ HV.out
          subst ekx
          subst ex
          clear Ox
          have xm0 : xm = 0 := by have := Xx3.out.len; simpa using this.symm
          subst xm0
          clear Xx3
          go_wp2_with fail
          refine (nsub_any _ _ _ _ _ _ s ys _ Xs3.out (R1.out.below A3.out)).mono ?_
          rintro e w4 ⟨yo, ym, yc, y, yk, rfl, hy, oy, b4⟩
          have Oy : Hid _ := oy
          clear oy
          have A4 : Hid (Below w.heap.size w w4) := chain A3.out b4
          have Xs4 : Hid (RowAt w4 so sm sc s) := Xs3.out.below b4
          have Xy4 : Hid (RowAt w4 yo ym yc y) := hy
          clear b4 A3 Xs3 hy
          have hy : yk = 0 ∧ Num y (val xs) := by
            have h1 := (val_bd R0.out.limbs).1
            have h2 := HX.out.lt R0.out.limbs
            have e : val s - val ys = val xs := by rw [Ns.out.val]; omega
            have h3 := Oy.out.ok_num ⟨Ns.out.may.2 HS.out, HY.out⟩ (by rw [Ns.out.val]; omega) (by rw [e]; exact h2)
            rw [e] at h3
            exact h3
          have Ey : Hid (y = xs) := hy.2.one (num_self R0.out.limbs HX.out)
          have eky := hy.1
          subst eky
          clear Oy hy
          go_wp2_with fail
          refine (rnsame_yes _ _ _ _ _ _ y xs _ Xy4.out (R0.out.below A4.out) Ey.out).mono ?_
          rintro e w5 ⟨rfl, b5⟩
          have A5 : Hid (Below w.heap.size w w5) := chain A4.out b5
          have Xs5 : Hid (RowAt w5 so sm sc s) := Xs4.out.below b5
          have Xy5 : Hid (RowAt w5 yo ym yc y) := Xy4.out.below b5
          clear b5 A4 Xs4 Xy4
          clear Xy5
          go_wp2_with fail
          refine (ncmp_val _ _ _ _ _ _ xs ys _ (R0.out.below A5.out) (R1.out.below A5.out) (by omega) (by omega) cv HC.out).mono ?_
          rintro e w6 ⟨rfl, b6⟩
          have A6 : Hid (Below w.heap.size w w6) := chain A5.out b6
          have Xs6 : Hid (RowAt w6 so sm sc s) := Xs5.out.below b6
          clear b6 A5 Xs5
          go_wp2
          go_ret
          first
            | exact ⟨rfl, A6.out⟩
            | exact ⟨ret_bool (by simp; omega), A6.out⟩
        · have HS : Hid (Big ≤ val xs + val ys) := hs
          clear hs
          go_enter Try.func7, Try.ntmps7
          go_wp2_with fail
          refine (rmay_val _ _ _ xs _ R0.out true (yes_iff HX.out)).mono ?_
          rintro e w' ⟨rfl, rfl⟩
          go_wp2_with fail
          refine (rmay_val _ _ _ ys _ R1.out true (yes_iff HY.out)).mono ?_
          rintro e w' ⟨rfl, rfl⟩
          go_wp2_with fail
          refine (nshown_any _).mono ?_
          rintro e w1 ⟨rfl, b1⟩
          have A1 : Hid (Below w.heap.size w w1) := b1
          clear b1
          go_wp2_with fail
          refine (nadd_any _ _ _ _ _ _ xs ys _ (R0.out.below A1.out) (R1.out.below A1.out)).mono ?_
          rintro e w2 ⟨so, sm, sc, s, sk, rfl, hs, os, b2⟩
          have Os : Hid _ := os
          clear os
          have A2 : Hid (Below w.heap.size w w2) := chain A1.out b2
          have Xs2 : Hid (RowAt w2 so sm sc s) := hs
          clear b2 A1 hs
          obtain ⟨eks, -⟩ := Os.out.is_big ⟨HX.out, HY.out⟩ (fun f => f) HS.out
          subst eks
          clear Os
          go_wp2_with fail
          refine (nsub_any _ _ _ _ _ _ xs ys _ (R0.out.below A2.out) (R1.out.below A2.out)).mono ?_
          rintro e w3 ⟨xo, xm, xc, x, xk, rfl, hx, ox, b3⟩
          have Ox : Hid _ := ox
          clear ox
          have A3 : Hid (Below w.heap.size w w3) := chain A2.out b3
          have Xs3 : Hid (RowAt w3 so sm sc s) := Xs2.out.below b3
          have Xx3 : Hid (RowAt w3 xo xm xc x) := hx
          clear b3 A2 Xs2 hx
          obtain ⟨ekx, ex⟩ := Ox.out.is_minus ⟨HX.out, HY.out⟩ HV.out
          subst ekx
          subst ex
          clear Ox
          have xm0 : xm = 0 := by have := Xx3.out.len; simpa using this.symm
          subst xm0
          clear Xx3
          go_wp2_with fail
          refine (ncmp_val _ _ _ _ _ _ xs ys _ (R0.out.below A3.out) (R1.out.below A3.out) (by omega) (by omega) cv HC.out).mono ?_
          rintro e w4 ⟨rfl, b4⟩
          have A4 : Hid (Below w.heap.size w w4) := chain A3.out b4
          have Xs4 : Hid (RowAt w4 so sm sc s) := Xs3.out.below b4
          clear b4 A3 Xs3
          go_wp2
          go_ret
          first
            | exact ⟨rfl, A4.out⟩
            | exact ⟨ret_bool (by simp; omega), A4.out⟩
      · have HV : Hid (val ys ≤ val xs) := hv
        have hc1 : 0 ≤ cv := by rw [hcv, cmpI, if_neg (by omega)]; split <;> omega
        clear hcv hv
        rcases Int.lt_or_le (val xs + val ys) Big with hs | hs
        · have HS : Hid (val xs + val ys < Big) := hs
          clear hs
          go_enter Try.func7, Try.ntmps7
          go_wp2_with fail
          refine (rmay_val _ _ _ xs _ R0.out true (yes_iff HX.out)).mono ?_
          rintro e w' ⟨rfl, rfl⟩
          go_wp2_with fail
          refine (rmay_val _ _ _ ys _ R1.out true (yes_iff HY.out)).mono ?_
          rintro e w' ⟨rfl, rfl⟩
          go_wp2_with fail
          refine (nshown_any _).mono ?_
          rintro e w1 ⟨rfl, b1⟩
          have A1 : Hid (Below w.heap.size w w1) := b1
          clear b1
          go_wp2_with fail
          refine (nadd_any _ _ _ _ _ _ xs ys _ (R0.out.below A1.out) (R1.out.below A1.out)).mono ?_
          rintro e w2 ⟨so, sm, sc, s, sk, rfl, hs, os, b2⟩
          have Os : Hid _ := os
          clear os
          have A2 : Hid (Below w.heap.size w w2) := chain A1.out b2
          have Xs2 : Hid (RowAt w2 so sm sc s) := hs
          clear b2 A1 hs
          have Ns : Hid (Num s (val xs + val ys)) := (Os.out.ok_num ⟨HX.out, HY.out⟩ (fun f => f) HS.out).2
          have eks : sk = 0 := (Os.out.ok_num ⟨HX.out, HY.out⟩ (fun f => f) HS.out).1
          subst eks
          clear Os
          go_wp2_with fail
          refine (nsub_any _ _ _ _ _ _ xs ys _ (R0.out.below A2.out) (R1.out.below A2.out)).mono ?_
          rintro e w3 ⟨xo, xm, xc, x, xk, rfl, hx, ox, b3⟩
          have Ox : Hid _ := ox
          clear ox
          have A3 : Hid (Below w.heap.size w w3) := chain A2.out b3
          have Xs3 : Hid (RowAt w3 so sm sc s) := Xs2.out.below b3
          have Xx3 : Hid (RowAt w3 xo xm xc x) := hx
          clear b3 A2 Xs2 hx
          obtain ⟨ekx, -⟩ := Ox.out.ok_num ⟨HX.out, HY.out⟩ (Int.not_lt.2 HV.out) (sub_lt_big R0.out.limbs R1.out.limbs HX.out)
          subst ekx
          clear Ox
          clear Xx3
          go_wp2_with fail
          refine (nsub_any _ _ _ _ _ _ s ys _ Xs3.out (R1.out.below A3.out)).mono ?_
          rintro e w4 ⟨yo, ym, yc, y, yk, rfl, hy, oy, b4⟩
          have Oy : Hid _ := oy
          clear oy
          have A4 : Hid (Below w.heap.size w w4) := chain A3.out b4
          have Xs4 : Hid (RowAt w4 so sm sc s) := Xs3.out.below b4
          have Xy4 : Hid (RowAt w4 yo ym yc y) := hy
          clear b4 A3 Xs3 hy
          have hy : yk = 0 ∧ Num y (val xs) := by
            have h1 := (val_bd R0.out.limbs).1
            have h2 := HX.out.lt R0.out.limbs
            have e : val s - val ys = val xs := by rw [Ns.out.val]; omega
            have h3 := Oy.out.ok_num ⟨Ns.out.may.2 HS.out, HY.out⟩ (by rw [Ns.out.val]; omega) (by rw [e]; exact h2)
            rw [e] at h3
            exact h3
          have Ey : Hid (y = xs) := hy.2.one (num_self R0.out.limbs HX.out)
          have eky := hy.1
          subst eky
          clear Oy hy
          go_wp2_with fail
          refine (rnsame_yes _ _ _ _ _ _ y xs _ Xy4.out (R0.out.below A4.out) Ey.out).mono ?_
          rintro e w5 ⟨rfl, b5⟩
          have A5 : Hid (Below w.heap.size w w5) := chain A4.out b5
          have Xs5 : Hid (RowAt w5 so sm sc s) := Xs4.out.below b5
          have Xy5 : Hid (RowAt w5 yo ym yc y) := Xy4.out.below b5
          clear b5 A4 Xs4 Xy4
          clear Xy5
          go_wp2_with fail
          refine (ncmp_val _ _ _ _ _ _ xs ys _ (R0.out.below A5.out) (R1.out.below A5.out) (by omega) (by omega) cv HC.out).mono ?_
          rintro e w6 ⟨rfl, b6⟩
          have A6 : Hid (Below w.heap.size w w6) := chain A5.out b6
          have Xs6 : Hid (RowAt w6 so sm sc s) := Xs5.out.below b6
          clear b6 A5 Xs5
          go_wp2
          go_ret
          first
            | exact ⟨rfl, A6.out⟩
            | exact ⟨ret_bool (by simp; omega), A6.out⟩
        · have HS : Hid (Big ≤ val xs + val ys) := hs
          clear hs
          go_enter Try.func7, Try.ntmps7
          go_wp2_with fail
          refine (rmay_val _ _ _ xs _ R0.out true (yes_iff HX.out)).mono ?_
          rintro e w' ⟨rfl, rfl⟩
          go_wp2_with fail
          refine (rmay_val _ _ _ ys _ R1.out true (yes_iff HY.out)).mono ?_
          rintro e w' ⟨rfl, rfl⟩
          go_wp2_with fail
          refine (nshown_any _).mono ?_
          rintro e w1 ⟨rfl, b1⟩
          have A1 : Hid (Below w.heap.size w w1) := b1
          clear b1
          go_wp2_with fail
          refine (nadd_any _ _ _ _ _ _ xs ys _ (R0.out.below A1.out) (R1.out.below A1.out)).mono ?_
          rintro e w2 ⟨so, sm, sc, s, sk, rfl, hs, os, b2⟩
          have Os : Hid _ := os
          clear os
          have A2 : Hid (Below w.heap.size w w2) := chain A1.out b2
          have Xs2 : Hid (RowAt w2 so sm sc s) := hs
          clear b2 A1 hs
          obtain ⟨eks, -⟩ := Os.out.is_big ⟨HX.out, HY.out⟩ (fun f => f) HS.out
          subst eks
          clear Os
          go_wp2_with fail
          refine (nsub_any _ _ _ _ _ _ xs ys _ (R0.out.below A2.out) (R1.out.below A2.out)).mono ?_
          rintro e w3 ⟨xo, xm, xc, x, xk, rfl, hx, ox, b3⟩
          have Ox : Hid _ := ox
          clear ox
          have A3 : Hid (Below w.heap.size w w3) := chain A2.out b3
          have Xs3 : Hid (RowAt w3 so sm sc s) := Xs2.out.below b3
          have Xx3 : Hid (RowAt w3 xo xm xc x) := hx
          clear b3 A2 Xs2 hx
          obtain ⟨ekx, -⟩ := Ox.out.ok_num ⟨HX.out, HY.out⟩ (Int.not_lt.2 HV.out) (sub_lt_big R0.out.limbs R1.out.limbs HX.out)
          subst ekx
          clear Ox
          clear Xx3
          go_wp2_with fail
          refine (ncmp_val _ _ _ _ _ _ xs ys _ (R0.out.below A3.out) (R1.out.below A3.out) (by omega) (by omega) cv HC.out).mono ?_
          rintro e w4 ⟨rfl, b4⟩
          have A4 : Hid (Below w.heap.size w w4) := chain A3.out b4
          have Xs4 : Hid (RowAt w4 so sm sc s) := Xs3.out.below b4
          clear b4 A3 Xs3
          go_wp2
          go_ret
          first
            | exact ⟨rfl, A4.out⟩
            | exact ⟨ret_bool (by simp; omega), A4.out⟩
    · have HY : Hid (¬ May ys) := hy
      clear hy e0 e1
      go_enter Try.func7, Try.ntmps7
      go_wp2_with fail
      refine (rmay_val _ _ _ xs _ R0.out true (yes_iff HX.out)).mono ?_
      rintro e w' ⟨rfl, rfl⟩
      go_wp2_with fail
      refine (rmay_val _ _ _ ys _ R1.out false (no_iff HY.out)).mono ?_
      rintro e w' ⟨rfl, rfl⟩
      go_wp2_with fail
      refine (nshown_any _).mono ?_
      rintro e w1 ⟨rfl, b1⟩
      have A1 : Hid (Below w.heap.size w w1) := b1
      clear b1
      go_wp2
      go_ret
      exact ⟨rfl, A1.out⟩
  · have HX : Hid (¬ May xs) := hx
    clear hx e0 e1
    go_enter Try.func7, Try.ntmps7
    go_wp2_with fail
    refine (rmay_val _ _ _ xs _ R0.out false (no_iff HX.out)).mono ?_
    rintro e w' ⟨rfl, rfl⟩
    go_wp2_with fail
    refine (nshown_any _).mono ?_
    rintro e w1 ⟨rfl, b1⟩
    have A1 : Hid (Below w.heap.size w w1) := b1
    clear b1
    go_wp2
    go_ret
    exact ⟨rfl, A1.out⟩

set_option maxRecDepth 100000 in
theorem lifted (os : Os) (started : os.Started) (H : Type) (enc : TypeId × Value → H) :
    ReturnsInHanded {} Try.checked os 7 .any (Rows.natMinusSpec.pre6 enc Try.prog Try.f7 Rows.natMinusRow.domain false) (Rows.natMinusSpec.post enc Try.prog Try.f7 false true false false) := by
  refine returnsInHanded_of_change (C := Try.checked) own started (by kernel_rfl) Try.func7
    (ChangeSpec.witness6 (enc := enc) (C := Try.checked) false ⟨#[], #[.slice none 0 0, .slice none 0 0], []⟩ 8 (by kernel_rfl) (by kernel_rfl) (by kernel_rfl) (by kernel_rfl)) ?_
  intro W base args ds gs before hval0 hW hcnd _
  have hval : ∀ (j : Nat) t v, Try.f7.params[j]? = some t → args[j]? = some v → Value.okWide Try.prog W .any base t v := hval0
  have hW' := hW
  obtain ⟨p, q, hA0, hV, rfl, hfz, hnd⟩ := hW
  have hA : DataW.TrodAll enc Try.prog W 0 (fun _ => true) true Try.f7.params.toList args.toList ds p := hA0
  rw [Try.params7] at hA hval
  obtain ⟨v0, vs0, d0, ds0, p0, q0, hargs, rfl, rfl, h0, r0⟩ := trodAll_cons hA
  obtain ⟨v1, vs1, d1, ds1, p1, q1, rfl, rfl, rfl, h1, r1⟩ := trodAll_cons r0
  obtain ⟨rfl, rfl, rfl⟩ := trodAll_nil r1
  obtain rfl : args = #[v0, v1] := by cases args; simp_all
  obtain ⟨rfl, rfl⟩ := trodVars_none hV
  obtain ⟨a0, len0, cap0, rfl⟩ := okWide_slice Try.underlying23 (hval 0 23 v0 rfl rfl)
  have k0 := h0
  have lt0 : ∀ x ∈ p0, x.block < W.heap.size := by obtain ⟨m, hm⟩ := k0; exact DataW.trod_lt m _ _ _ hm
  obtain ⟨z0, w0⟩ : ∃ zs, IsRow .u64 W a0 len0 cap0 zs := by
    obtain ⟨fuel, hf⟩ := h0
    rcases open_ints Try.underlying23 Try.underlying24 (by kernel_rfl) hf with ⟨hcs, _⟩ | ⟨x, l, c, zs, hcs, _, hl, hm, hz, _, hcell, hwz⟩
    · simp [Value.cells] at hcs
      obtain ⟨rfl, rfl, rfl⟩ := hcs
      exact ⟨[], .inl ⟨rfl, rfl, rfl, rfl⟩⟩
    · simp [Value.cells] at hcs
      obtain ⟨rfl, rfl, rfl⟩ := hcs
      exact ⟨zs, .inr ⟨_, rfl, hl, hm, by simpa using hz, hcell, hwz⟩⟩
  obtain ⟨a1, len1, cap1, rfl⟩ := okWide_slice Try.underlying23 (hval 1 23 v1 rfl rfl)
  have k1 := h1
  have lt1 : ∀ x ∈ p1, x.block < W.heap.size := by obtain ⟨m, hm⟩ := k1; exact DataW.trod_lt m _ _ _ hm
  obtain ⟨z1, w1⟩ : ∃ zs, IsRow .u64 W a1 len1 cap1 zs := by
    obtain ⟨fuel, hf⟩ := h1
    rcases open_ints Try.underlying23 Try.underlying24 (by kernel_rfl) hf with ⟨hcs, _⟩ | ⟨x, l, c, zs, hcs, _, hl, hm, hz, _, hcell, hwz⟩
    · simp [Value.cells] at hcs
      obtain ⟨rfl, rfl, rfl⟩ := hcs
      exact ⟨[], .inl ⟨rfl, rfl, rfl, rfl⟩⟩
    · simp [Value.cells] at hcs
      obtain ⟨rfl, rfl, rfl⟩ := hcs
      exact ⟨zs, .inr ⟨_, rfl, hl, hm, by simpa using hz, hcell, hwz⟩⟩
  clear hA0 hval0
  refine (walk a0 len0 cap0 z0 a1 len1 cap1 z1 W w0 w1).mono fun e W' ⟨he, bel⟩ => ?_
  subst he
  exact ⟨_, rfl, _, _, _, [], _, [], hW', trodAll_mk1 (shut_bool Try.underlying4 _), (trodAll_cons_mk (Below.trod laidOut (by kernel_rfl) (of_decide_eq_true (by kernel_rfl)) k0 bel lt0) (trodAll_cons_mk (Below.trod laidOut (by kernel_rfl) (of_decide_eq_true (by kernel_rfl)) k1 bel lt1) trodAll_mk0)), rfl, bel.frame _, fun h => by cases h⟩

theorem over : Rows.natMinusRow.holds Try.pinned (OpenSpec.ofChange Rows.natMinusSpec) :=
  OpenClaim.holds_of_wide 7 Try.f7 rfl rfl rfl rfl rfl rfl rfl ⟨rfl, rfl, rfl, rfl, rfl⟩ rfl rfl rfl rfl rfl (by kernel_rfl) Try.func7 (by kernel_rfl)
    (of_decide_eq_true (by kernel_rfl)) (by unfold Func.isWrapper; first | (rw [if_pos (by decide +kernel)]; kernel_rfl) | (rw [if_neg (by decide +kernel)]; exact ⟨rfl, rfl⟩))
    (fun os started H enc _ => lifted os started H enc)

theorem proved : Rows.NatMinusSaid := over
#print axioms proved
end Go.Proofs.Ytbmckhnnbfpdbaa.natMinus
