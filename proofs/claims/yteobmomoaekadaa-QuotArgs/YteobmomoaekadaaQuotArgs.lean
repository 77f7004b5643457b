/-
  Proved here: for every input QuotArgs returns true, and leaves its arguments as they were. No condition.
-/
import Derived.Test.YteobmomoaekadaaRQuot
import Derived.Test.YteobmomoaekadaaCame
namespace Go.Proofs.Yteobmomoaekadaa.quotArgs
open Go.ChangeShapes Go.WideShapes Go.ChangeAt Go.RowKit
open Go.ChangeMaps (open_string shut_string)
set_option linter.unusedVariables false

set_option maxRecDepth 100000 in
set_option maxHeartbeats 4000000 in
theorem walk (a0 : Option Addr) (len0 cap0 : Nat) (z0 : List Int) (a1 : Option Addr) (len1 cap1 : Nat) (z1 : List Int) (w : World) (w0 : IsRow .u64 w a0 len0 cap0 z0) (w1 : IsRow .u64 w a1 len1 cap1 z1) :
    Calls Try.prog 9 #[.slice a0 len0 cap0, .slice a1 len1 cap1] w fun e w' => e = .returned (.bool true) ∧ Below w.heap.size w w' := by
  have r0 := w0.row
  have r1 := w1.row
  generalize z0.take len0 = xs at r0
  generalize z1.take len1 = ys at r1
  have m0 : len0 ≤ maxLen := Nat.le_trans r0.fits r0.most
  have m1 : len1 ≤ maxLen := Nat.le_trans r1.fits r1.most
  clear w0 w1
  have R0 : Hid (RowAt w a0 len0 cap0 xs) := r0
  have R1 : Hid (RowAt w a1 len1 cap1 ys) := r1
  clear r0 r1
  unfold maxLen at m0 m1
  by_cases l0 : 20 < len0
  · have l0' : (20 : Int) < (len0 : Int) := by omega
    go_enter Try.func9, Try.ntmps9
    go_wp2_with fail
    refine (qshown_any _).mono ?_
    rintro e w1 ⟨rfl, b1⟩
    have B1 : Hid _ := b1
    clear b1
    go_wp2
    go_ret
    exact ⟨rfl, B1.out⟩
  · have l0' : ¬ (20 : Int) < (len0 : Int) := by omega
    by_cases l1 : 20 < len1
    · have l1' : (20 : Int) < (len1 : Int) := by omega
      go_enter Try.func9, Try.ntmps9
      go_wp2_with fail
      refine (qshown_any _).mono ?_
      rintro e w1 ⟨rfl, b1⟩
      have B1 : Hid _ := b1
      clear b1
      go_wp2
      go_ret
      exact ⟨rfl, B1.out⟩
    · have l1' : ¬ (20 : Int) < (len1 : Int) := by omega
      by_cases hx : May xs
      · have HX : Hid (May xs) := hx
        by_cases hy : May ys
        · have HY : Hid (May ys) := hy
          have hz := val_zero R1.out.limbs hy R1.out.len
          have HG : Hid (gcdI (val xs) (val ys) < Big) := gcdI_lt (val_bd R0.out.limbs).1 (val_bd R1.out.limbs).1 (hx.lt R0.out.limbs) (hy.lt R1.out.limbs)
          clear hx hy
          go_enter Try.func9, Try.ntmps9
          go_wp2_with fail
          refine (qshown_any _).mono ?_
          rintro e w1 ⟨rfl, b1⟩
          have A1 : Hid (Below w.heap.size w w1) := b1
          clear b1
          go_wp2_with fail
          refine (rmay_val _ _ _ xs _ (R0.out.below A1.out) true (yes_iff HX.out)).mono ?_
          rintro e w' ⟨rfl, rfl⟩
          go_wp2_with fail
          refine (rmay_val _ _ _ ys _ (R1.out.below A1.out) true (yes_iff HY.out)).mono ?_
          rintro e w' ⟨rfl, rfl⟩
          go_wp2_with fail
          refine (qdiv_any _ _ _ _ _ _ xs ys _ (R0.out.below A1.out) (R1.out.below A1.out)).mono ?_
          rintro e w2 ⟨qo, qm, qc, q, ro, rm, rc, r, qk, rfl, hq, hr, oq, b2⟩
          have Oq : Hid (DivOut xs ys q r qk) := oq
          clear oq
          have A2 : Hid (Below w.heap.size w w2) := chain A1.out b2
          have Xq2 : Hid (RowAt w2 qo qm qc q) := hq
          have Xr2 : Hid (RowAt w2 ro rm rc r) := hr
          clear b2 A1 hq hr
          clear Xq2
          clear Xr2
          go_wp2_with fail
          refine (qgcd_any _ _ _ _ _ _ xs ys _ (R0.out.below A2.out) (R1.out.below A2.out)).mono ?_
          rintro e w3 ⟨ao, am, ac, a, ak, rfl, ha, oa, b3⟩
          have Oa : Hid _ := oa
          clear oa
          have A3 : Hid (Below w.heap.size w w3) := chain A2.out b3
          have Xa3 : Hid (RowAt w3 ao am ac a) := ha
          clear b3 A2 ha
          clear Xa3
          go_wp2_with fail
          refine (qlcm_any _ _ _ _ _ _ xs ys _ (R0.out.below A3.out) (R1.out.below A3.out)).mono ?_
          rintro e w4 ⟨bo, bm, bc, b, bk, rfl, hb, ob, b4⟩
          have Ob : Hid _ := ob
          clear ob
          have A4 : Hid (Below w.heap.size w w4) := chain A3.out b4
          have Xb4 : Hid (RowAt w4 bo bm bc b) := hb
          clear b4 A3 hb
          clear Xb4
          go_wp2_with fail
          refine (qsmall_any _ _ _ xs 0 _ (R0.out.below A4.out) (Int.le_refl _) BB_pos).mono ?_
          rintro e w5 ⟨co, cm, cc, c, cv, ck, rfl, hc, oc, b5⟩
          have Oc : Hid (SmallOut xs 0 c cv ck) := oc
          clear oc
          have A5 : Hid (Below w.heap.size w w5) := chain A4.out b5
          have Xc5 : Hid (RowAt w5 co cm cc c) := hc
          clear b5 A4 hc
          clear Xc5
          have k2 := (Oa.out.ok_num ⟨HX.out, HY.out⟩ (fun f => f) HG.out).1
          have k4 := (Oc.out.is_zero HX.out rfl).1
          subst k2
          subst k4
          clear Oa Oc
          have k3 : bk = 0 ∨ bk = 21 := by
            rcases Int.lt_or_le (lcmI (val xs) (val ys)) Big with h | h
            · exact .inl (Ob.out.ok_num ⟨HX.out, HY.out⟩ (fun f => f) h).1
            · exact .inr (Ob.out.is_big ⟨HX.out, HY.out⟩ (fun f => f) h).1
          clear Ob
          by_cases h0 : len1 = 0
          · have k1 := (Oq.out.is_zero ⟨HX.out, HY.out⟩ (hz.1 h0)).1
            subst k1
            subst h0
            clear Oq hz
            rcases k3 with k3 | k3
            · subst k3
              go_wp2
              go_ret
              exact ⟨rfl, A5.out⟩
            · subst k3
              go_wp2
              go_ret
              exact ⟨rfl, A5.out⟩
          · have k1 := (Oq.out.is_fine ⟨HX.out, HY.out⟩ (fun e => h0 (hz.2 e))).1
            have hlb : ((len1 : Int) == 0) = false := by rw [beq_eq_false_iff_ne]; omega
            subst k1
            clear Oq hz
            rcases k3 with k3 | k3
            · subst k3
              go_wp2
              go_ret
              exact ⟨rfl, A5.out⟩
            · subst k3
              go_wp2
              go_ret
              exact ⟨rfl, A5.out⟩
        · have HN : Hid (¬ (May xs ∧ May ys)) := fun c => hy c.2
          have HY : Hid (¬ May ys) := hy
          clear hx hy
          go_enter Try.func9, Try.ntmps9
          go_wp2_with fail
          refine (qshown_any _).mono ?_
          rintro e w1 ⟨rfl, b1⟩
          have A1 : Hid (Below w.heap.size w w1) := b1
          clear b1
          go_wp2_with fail
          refine (rmay_val _ _ _ xs _ (R0.out.below A1.out) true (yes_iff HX.out)).mono ?_
          rintro e w' ⟨rfl, rfl⟩
          go_wp2_with fail
          refine (rmay_val _ _ _ ys _ (R1.out.below A1.out) false (no_iff HY.out)).mono ?_
          rintro e w' ⟨rfl, rfl⟩
          go_wp2_with fail
          refine (qdiv_any _ _ _ _ _ _ xs ys _ (R0.out.below A1.out) (R1.out.below A1.out)).mono ?_
          rintro e w2 ⟨qo, qm, qc, q, ro, rm, rc, r, qk, rfl, hq, hr, oq, b2⟩
          have Oq : Hid (DivOut xs ys q r qk) := oq
          clear oq
          have A2 : Hid (Below w.heap.size w w2) := chain A1.out b2
          have Xq2 : Hid (RowAt w2 qo qm qc q) := hq
          have Xr2 : Hid (RowAt w2 ro rm rc r) := hr
          clear b2 A1 hq hr
          clear Xq2
          clear Xr2
          go_wp2_with fail
          refine (qgcd_any _ _ _ _ _ _ xs ys _ (R0.out.below A2.out) (R1.out.below A2.out)).mono ?_
          rintro e w3 ⟨ao, am, ac, a, ak, rfl, ha, oa, b3⟩
          have Oa : Hid _ := oa
          clear oa
          have A3 : Hid (Below w.heap.size w w3) := chain A2.out b3
          have Xa3 : Hid (RowAt w3 ao am ac a) := ha
          clear b3 A2 ha
          clear Xa3
          go_wp2_with fail
          refine (qlcm_any _ _ _ _ _ _ xs ys _ (R0.out.below A3.out) (R1.out.below A3.out)).mono ?_
          rintro e w4 ⟨bo, bm, bc, b, bk, rfl, hb, ob, b4⟩
          have Ob : Hid _ := ob
          clear ob
          have A4 : Hid (Below w.heap.size w w4) := chain A3.out b4
          have Xb4 : Hid (RowAt w4 bo bm bc b) := hb
          clear b4 A3 hb
          clear Xb4
          go_wp2_with fail
          refine (qsmall_any _ _ _ xs 0 _ (R0.out.below A4.out) (Int.le_refl _) BB_pos).mono ?_
          rintro e w5 ⟨co, cm, cc, c, cv, ck, rfl, hc, oc, b5⟩
          have Oc : Hid (SmallOut xs 0 c cv ck) := oc
          clear oc
          have A5 : Hid (Below w.heap.size w w5) := chain A4.out b5
          have Xc5 : Hid (RowAt w5 co cm cc c) := hc
          clear b5 A4 hc
          clear Xc5
          have k1 := (Oq.out.is_arg HN.out).1
          have k2 := (Oa.out.is_arg HN.out).1
          have k3 := (Ob.out.is_arg HN.out).1
          subst k1
          subst k2
          subst k3
          clear Oq Oa Ob Oc
          go_wp2
          go_ret
          exact ⟨rfl, A5.out⟩
      · have HN : Hid (¬ (May xs ∧ May ys)) := fun c => hx c.1
        have HX : Hid (¬ May xs) := hx
        clear hx
        go_enter Try.func9, Try.ntmps9
        go_wp2_with fail
        refine (qshown_any _).mono ?_
        rintro e w1 ⟨rfl, b1⟩
        have A1 : Hid (Below w.heap.size w w1) := b1
        clear b1
        go_wp2_with fail
        refine (rmay_val _ _ _ xs _ (R0.out.below A1.out) false (no_iff HX.out)).mono ?_
        rintro e w' ⟨rfl, rfl⟩
        go_wp2_with fail
        refine (qdiv_any _ _ _ _ _ _ xs ys _ (R0.out.below A1.out) (R1.out.below A1.out)).mono ?_
        rintro e w2 ⟨qo, qm, qc, q, ro, rm, rc, r, qk, rfl, hq, hr, oq, b2⟩
        have Oq : Hid (DivOut xs ys q r qk) := oq
        clear oq
        have A2 : Hid (Below w.heap.size w w2) := chain A1.out b2
        have Xq2 : Hid (RowAt w2 qo qm qc q) := hq
        have Xr2 : Hid (RowAt w2 ro rm rc r) := hr
        clear b2 A1 hq hr
        clear Xq2
        clear Xr2
        go_wp2_with fail
        refine (qgcd_any _ _ _ _ _ _ xs ys _ (R0.out.below A2.out) (R1.out.below A2.out)).mono ?_
        rintro e w3 ⟨ao, am, ac, a, ak, rfl, ha, oa, b3⟩
        have Oa : Hid _ := oa
        clear oa
        have A3 : Hid (Below w.heap.size w w3) := chain A2.out b3
        have Xa3 : Hid (RowAt w3 ao am ac a) := ha
        clear b3 A2 ha
        clear Xa3
        go_wp2_with fail
        refine (qlcm_any _ _ _ _ _ _ xs ys _ (R0.out.below A3.out) (R1.out.below A3.out)).mono ?_
        rintro e w4 ⟨bo, bm, bc, b, bk, rfl, hb, ob, b4⟩
        have Ob : Hid _ := ob
        clear ob
        have A4 : Hid (Below w.heap.size w w4) := chain A3.out b4
        have Xb4 : Hid (RowAt w4 bo bm bc b) := hb
        clear b4 A3 hb
        clear Xb4
        go_wp2_with fail
        refine (qsmall_any _ _ _ xs 0 _ (R0.out.below A4.out) (Int.le_refl _) BB_pos).mono ?_
        rintro e w5 ⟨co, cm, cc, c, cv, ck, rfl, hc, oc, b5⟩
        have Oc : Hid (SmallOut xs 0 c cv ck) := oc
        clear oc
        have A5 : Hid (Below w.heap.size w w5) := chain A4.out b5
        have Xc5 : Hid (RowAt w5 co cm cc c) := hc
        clear b5 A4 hc
        clear Xc5
        have k1 := (Oq.out.is_arg HN.out).1
        have k2 := (Oa.out.is_arg HN.out).1
        have k3 := (Ob.out.is_arg HN.out).1
        subst k1
        subst k2
        subst k3
        clear Oq Oa Ob Oc
        go_wp2
        go_ret
        exact ⟨rfl, A5.out⟩

set_option maxRecDepth 100000 in
theorem lifted (os : Os) (started : os.Started) (H : Type) (enc : TypeId × Value → H) :
    ReturnsInHanded {} Try.checked os 9 .any (Rows.quotArgsSpec.pre6 enc Try.prog Try.f9 Rows.quotArgsRow.domain false) (Rows.quotArgsSpec.post enc Try.prog Try.f9 false true false false) := by
  refine returnsInHanded_of_change (C := Try.checked) own started (by kernel_rfl) Try.func9
    (ChangeSpec.witness6 (enc := enc) (C := Try.checked) false ⟨#[], #[.slice none 0 0, .slice none 0 0], []⟩ 8 (by kernel_rfl) (by kernel_rfl) (by kernel_rfl) (by kernel_rfl)) ?_
  intro W base args ds gs before hval0 hW hcnd _
  have hval : ∀ (j : Nat) t v, Try.f9.params[j]? = some t → args[j]? = some v → Value.okWide Try.prog W .any base t v := hval0
  have hW' := hW
  obtain ⟨p, q, hA0, hV, rfl, hfz, hnd⟩ := hW
  have hA : DataW.TrodAll enc Try.prog W 0 (fun _ => true) true Try.f9.params.toList args.toList ds p := hA0
  rw [Try.params9] at hA hval
  obtain ⟨v0, vs0, d0, ds0, p0, q0, hargs, rfl, rfl, h0, r0⟩ := trodAll_cons hA
  obtain ⟨v1, vs1, d1, ds1, p1, q1, rfl, rfl, rfl, h1, r1⟩ := trodAll_cons r0
  obtain ⟨rfl, rfl, rfl⟩ := trodAll_nil r1
  obtain rfl : args = #[v0, v1] := by cases args; simp_all
  obtain ⟨rfl, rfl⟩ := trodVars_none hV
  obtain ⟨a0, len0, cap0, rfl⟩ := okWide_slice Try.underlying23 (hval 0 23 v0 rfl rfl)
  have k0 := h0
  have lt0 : ∀ x ∈ p0, x.block < W.heap.size := by obtain ⟨m, hm⟩ := k0; exact DataW.trod_lt m _ _ _ hm
  obtain ⟨z0, w0⟩ : ∃ zs, IsRow .u64 W a0 len0 cap0 zs := by
    obtain ⟨fuel, hf⟩ := h0
    rcases open_ints Try.underlying23 Try.underlying24 (by kernel_rfl) hf with ⟨hcs, _⟩ | ⟨x, l, c, zs, hcs, _, hl, hm, hz, _, hcell, hwz⟩
    · simp [Value.cells] at hcs
      obtain ⟨rfl, rfl, rfl⟩ := hcs
      exact ⟨[], .inl ⟨rfl, rfl, rfl, rfl⟩⟩
    · simp [Value.cells] at hcs
      obtain ⟨rfl, rfl, rfl⟩ := hcs
      exact ⟨zs, .inr ⟨_, rfl, hl, hm, by simpa using hz, hcell, hwz⟩⟩
  obtain ⟨a1, len1, cap1, rfl⟩ := okWide_slice Try.underlying23 (hval 1 23 v1 rfl rfl)
  have k1 := h1
  have lt1 : ∀ x ∈ p1, x.block < W.heap.size := by obtain ⟨m, hm⟩ := k1; exact DataW.trod_lt m _ _ _ hm
  obtain ⟨z1, w1⟩ : ∃ zs, IsRow .u64 W a1 len1 cap1 zs := by
    obtain ⟨fuel, hf⟩ := h1
    rcases open_ints Try.underlying23 Try.underlying24 (by kernel_rfl) hf with ⟨hcs, _⟩ | ⟨x, l, c, zs, hcs, _, hl, hm, hz, _, hcell, hwz⟩
    · simp [Value.cells] at hcs
      obtain ⟨rfl, rfl, rfl⟩ := hcs
      exact ⟨[], .inl ⟨rfl, rfl, rfl, rfl⟩⟩
    · simp [Value.cells] at hcs
      obtain ⟨rfl, rfl, rfl⟩ := hcs
      exact ⟨zs, .inr ⟨_, rfl, hl, hm, by simpa using hz, hcell, hwz⟩⟩
  clear hA0 hval0
  refine (walk a0 len0 cap0 z0 a1 len1 cap1 z1 W w0 w1).mono fun e W' ⟨he, bel⟩ => ?_
  subst he
  exact ⟨_, rfl, _, _, _, [], _, [], hW', trodAll_mk1 (shut_bool Try.underlying4 _), (trodAll_cons_mk (Below.trod laidOut (by kernel_rfl) (of_decide_eq_true (by kernel_rfl)) k0 bel lt0) (trodAll_cons_mk (Below.trod laidOut (by kernel_rfl) (of_decide_eq_true (by kernel_rfl)) k1 bel lt1) trodAll_mk0)), rfl, bel.frame _, fun h => by cases h⟩

theorem over : Rows.quotArgsRow.holds Try.pinned (OpenSpec.ofChange Rows.quotArgsSpec) :=
  OpenClaim.holds_of_wide 9 Try.f9 rfl rfl rfl rfl rfl rfl rfl ⟨rfl, rfl, rfl, rfl, rfl⟩ rfl rfl rfl rfl rfl (by kernel_rfl) Try.func9 (by kernel_rfl)
    (of_decide_eq_true (by kernel_rfl)) (by unfold Func.isWrapper; first | (rw [if_pos (by decide +kernel)]; kernel_rfl) | (rw [if_neg (by decide +kernel)]; exact ⟨rfl, rfl⟩))
    (fun os started H enc _ => lifted os started H enc)

theorem proved : Rows.QuotArgsSaid := over
#print axioms proved
end Go.Proofs.Yteobmomoaekadaa.quotArgs
