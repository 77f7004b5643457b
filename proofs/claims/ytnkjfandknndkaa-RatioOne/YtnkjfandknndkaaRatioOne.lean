/-
  Proved here: for every input RatioOne returns true, and leaves its arguments as they were. No condition.
-/
import Derived.Test.YtnkjfandknndkaaJ1
import Derived.Test.YtnkjfandknndkaaRMul
import Derived.Test.YtnkjfandknndkaaRTrim
namespace Go.Proofs.Ytnkjfandknndkaa.ratioOne
open Go.ChangeShapes Go.WideShapes Go.ChangeAt Go.RowKit
open Go.ChangeMaps (open_string shut_string)
set_option linter.unusedVariables false      -- a walk need not use every 'w<i>' (that an integer argument fits its kind)

theorem sg_cross (neg : Bool) (n d k : Int) : sg neg (n * k) * d = sg neg n * (d * k) := by
  rw [sg_mul]
  grind

set_option maxRecDepth 100000 in
set_option maxHeartbeats 4000000 in
theorem walk (a0 : Bool) (a1 : Int) (a2 : Int) (a3 : Int) (w1 : (Lit.int .u32 a1).wf = true) (w2 : (Lit.int .u32 a2).wf = true) (w3 : (Lit.int .u32 a3).wf = true) (w : World) :
    Calls Try.prog 6 #[.bool a0, .int .u32 a1, .int .u32 a2, .int .u32 a3] w fun e w' => e = .returned (.bool true) ∧ Below w.heap.size w w' := by
  obtain ⟨p0, p1⟩ := bounds_u32 w1
  obtain ⟨q0, q1⟩ := bounds_u32 w2
  obtain ⟨t0, t1⟩ := bounds_u32 w3
  clear w1 w2 w3
  have hB : BB = 18446744073709551616 := rfl
  obtain ⟨x1, x2, x3⟩ := two_rows w a1 (a3 + 1) p0 (by omega) (by omega) (by omega)
  have HB : Hid ((0 ≤ a1 ∧ a1 < BB) ∧ (0 < a2 + 1 ∧ a2 + 1 < BB) ∧ (0 < a3 + 1 ∧ a3 + 1 < BB) ∧ a1 * (a3 + 1) < Big ∧ (a2 + 1) * (a3 + 1) < Big ∧ 0 < (a2 + 1) * (a3 + 1)) := by
    have h1 := Int.mul_le_mul (show a1 ≤ 4294967295 by omega) (show a3 + 1 ≤ 4294967296 by omega) (by omega) (by omega)
    have h2 := Int.mul_le_mul (show a2 + 1 ≤ 4294967296 by omega) (show a3 + 1 ≤ 4294967296 by omega) (by omega) (by omega)
    have h3 := Int.mul_pos (show 0 < a2 + 1 by omega) (show 0 < a3 + 1 by omega)
    have hbb := Big_BB
    refine ⟨⟨p0, by omega⟩, ⟨by omega, by omega⟩, ⟨by omega, by omega⟩, by omega, by omega, h3⟩
  have H : Hid (RowAt _ (some ⟨w.heap.size, 0, none⟩) 1 1 [a1] ∧ RowAt _ (some ⟨w.heap.size + 1, 0, none⟩) 1 1 [a3 + 1] ∧ Below w.heap.size w _) := ⟨x1, x2, x3⟩
  clear x1 x2 x3 hB
  go_enter Try.func6, Try.ntmps6
  go_wp2_with fail
  refine (rmul_any _ _ _ _ _ _ [a1] [a3 + 1] _ H.out.1 H.out.2.1 (by omega) (by omega)).mono ?_
  rintro e w1 ⟨no, nn, nc, num, rfl, n1, n2, n3⟩
  rw [show val [a1] = a1 by simp [val], show val [a3 + 1] = a3 + 1 by simp [val]] at n2
  obtain ⟨y1, y2, y3⟩ := two_rows w1 (a2 + 1) (a3 + 1) (by omega) HB.out.2.1.2 (by omega) HB.out.2.2.1.2
  have N1 : Hid (RowAt _ no nn nc num ∧ Num num (a1 * (a3 + 1)) ∧ RowAt _ (some ⟨w1.heap.size, 0, none⟩) 1 1 [a2 + 1] ∧ RowAt _ (some ⟨w1.heap.size + 1, 0, none⟩) 1 1 [a3 + 1] ∧ Below w.heap.size w _) := ⟨n1.below y3, n2, y1, y2, chain (chain H.out.2.2 n3) y3⟩
  clear n1 n2 n3 y1 y2 y3
  go_wp2_with fail
  refine (rmul_any _ _ _ _ _ _ [a2 + 1] [a3 + 1] _ N1.out.2.2.1 N1.out.2.2.2.1 (by omega) (by omega)).mono ?_
  rintro e w2 ⟨do', dn, dc, den, rfl, n1, n2, n3⟩
  rw [show val [a2 + 1] = a2 + 1 by simp [val], show val [a3 + 1] = a3 + 1 by simp [val]] at n2
  have N2 : Hid (RowAt w2 no nn nc num ∧ RowAt w2 do' dn dc den ∧ Num den ((a2 + 1) * (a3 + 1)) ∧ Below w.heap.size w w2) := ⟨N1.out.1.below n3, n1, n2, chain N1.out.2.2.2.2 n3⟩
  clear n1 n2 n3
  go_wp2_with fail
  refine (make_any a0 _ _ _ _ _ _ num den _ N2.out.1 N2.out.2.1).mono ?_
  rintro e w3 ⟨xg, xo, xn, xc, xeo, xen, xec, x, xk, rfl, q1', q2', q3', q4'⟩
  obtain ⟨hk, his⟩ := q3'.fine ⟨N1.out.2.1.may.2 HB.out.2.2.2.1, N2.out.2.2.1.may.2 HB.out.2.2.2.2.1⟩ (by rw [N2.out.2.2.1.val]; have := HB.out.2.2.2.2.2; omega)
  rw [N1.out.2.1.val, N2.out.2.2.1.val] at his
  subst hk
  have a4 : Below w3.heap.size w3 (w3.alloc (.cells #[.bool xg, .slice xo xn xc, .slice xeo xen xec] 28)) := (Below.refl _ _).alloc (Nat.le_refl _) _
  have bx := RBox.new w3 xg xo xn xc xeo xen xec
  have o5 := one_row (w3.alloc (.cells #[.bool xg, .slice xo xn xc, .slice xeo xen xec] 28)) a1 HB.out.1.1 HB.out.1.2
  rw [World.size_alloc] at o5
  have a5 : Below (w3.alloc (.cells #[.bool xg, .slice xo xn xc, .slice xeo xen xec] 28)).heap.size (w3.alloc (.cells #[.bool xg, .slice xo xn xc, .slice xeo xen xec] 28)) ((w3.alloc (.cells #[.bool xg, .slice xo xn xc, .slice xeo xen xec] 28)).alloc (Obj.cells #[.int .u64 a1] 50)) := (Below.refl _ _).alloc (Nat.le_refl _) _
  have X : Hid (RatAt _ xo xn xc xeo xen xec x ∧ x.neg = xg ∧ Is x (sg a0 (a1 * (a3 + 1))) ((a2 + 1) * (a3 + 1)) ∧ RBox _ w3.heap.size xg xo xn xc xeo xen xec ∧ RowAt _ (some ⟨w3.heap.size + 1, 0, none⟩) 1 1 [a1] ∧ Below w.heap.size w _) := ⟨(q2'.below a4).below a5, q1', his, bx.below a5, o5, chain (chain (chain N2.out.2.2.2 q4') a4) a5⟩
  clear q1' q2' q3' q4' his a4 bx o5 a5
  go_wp2_with fail
  refine (rtrim_any _ _ _ [a1] _ X.out.2.2.2.2.1 (by omega)).mono ?_
  rintro e w5 ⟨po, pn, pc, p, rfl, n1, n2, n3, n4⟩
  rw [show val [a1] = a1 by simp [val]] at n2
  have o6 := one_row w5 (a2 + 1) (by omega) HB.out.2.1.2
  have a6 : Below w5.heap.size w5 (w5.alloc (Obj.cells #[.int .u64 (a2 + 1)] 50)) := (Below.refl _ _).alloc (Nat.le_refl _) _
  have P : Hid (RowAt _ po pn pc p ∧ Num p a1 ∧ RowAt _ (some ⟨w5.heap.size, 0, none⟩) 1 1 [a2 + 1] ∧ RatAt _ xo xn xc xeo xen xec x ∧ RBox _ w3.heap.size xg xo xn xc xeo xen xec ∧ Below w.heap.size w _) := ⟨n1.below a6, n2, o6, (X.out.1.below n4).below a6, (X.out.2.2.2.1.below n4).below a6, chain (chain X.out.2.2.2.2.2 n4) a6⟩
  clear n1 n2 n3 n4 o6 a6
  go_wp2_with fail
  refine (make_any a0 _ _ _ _ _ _ p [a2 + 1] _ P.out.1 P.out.2.2.1).mono ?_
  rintro e w6 ⟨yg, yo, yn, yc, yeo, yen, yec, y, yk, rfl, q1', q2', q3', q4'⟩
  have hbb := Big_BB
  have nd := num1 HB.out.2.1.1 HB.out.2.1.2
  obtain ⟨hk, his⟩ := q3'.fine ⟨P.out.2.1.may.2 (by have := HB.out.1.2; omega), nd.may.2 (by have := HB.out.2.1.2; omega)⟩ (by rw [nd.val]; have := HB.out.2.1.1; omega)
  rw [P.out.2.1.val, nd.val] at his
  subst hk
  have hxy : x = y := X.out.2.2.1.one his (sg_cross a0 a1 (a2 + 1) (a3 + 1))
  have a7 : Below w6.heap.size w6 (w6.alloc (.cells #[.bool yg, .slice yo yn yc, .slice yeo yen yec] 28)) := (Below.refl _ _).alloc (Nat.le_refl _) _
  have bxx := (P.out.2.2.2.2.1.below q4').below a7
  have c0 := bxx.c0
  have c1 := bxx.c1
  have c2 := bxx.c2
  have Y : Hid (RatAt (w6.alloc (.cells #[.bool yg, .slice yo yn yc, .slice yeo yen yec] 28)) xo xn xc xeo xen xec x ∧ RatAt (w6.alloc (.cells #[.bool yg, .slice yo yn yc, .slice yeo yen yec] 28)) yo yn yc yeo yen yec y ∧ y.neg = yg ∧ x = y ∧ RBox (w6.alloc (.cells #[.bool yg, .slice yo yn yc, .slice yeo yen yec] 28)) w3.heap.size xg xo xn xc xeo xen xec ∧ Below w.heap.size w (w6.alloc (.cells #[.bool yg, .slice yo yn yc, .slice yeo yen yec] 28))) := ⟨(P.out.2.2.2.1.below q4').below a7, q2'.below a7, q1', hxy, bxx, chain (chain P.out.2.2.2.2.2 q4') a7⟩
  clear q1' q2' q3' q4' his hbb nd hxy a7 bxx
  go_wp2_with fail
  refine (rsame_r _ _ _ _ _ _ _ _ _ _ _ _ _ _ x y _ Y.out.1 Y.out.2.1 X.out.2.1 Y.out.2.2.1 true (yes_iff Y.out.2.2.2.1)).mono ?_
  rintro e w7 ⟨rfl, b7⟩
  have bx7 := Y.out.2.2.2.2.1.below b7
  have d0 := bx7.c0
  have d1 := bx7.c1
  have d2 := bx7.c2
  have Z : Hid (RatAt w7 xo xn xc xeo xen xec x ∧ Below w.heap.size w w7) := ⟨Y.out.1.below b7, chain Y.out.2.2.2.2.2 b7⟩
  clear b7 bx7 c0 c1 c2
  go_wp2_with fail
  refine (rmay_r _ _ _ _ _ _ _ x _ Z.out.1 X.out.2.1 true (yes_iff X.out.2.2.1.may)).mono ?_
  rintro e w8 ⟨rfl, b8⟩
  have B8 : Hid (Below w.heap.size w w8) := chain Z.out.2 b8
  clear b8
  go_wp2_with fail
  refine (shown_r _).mono ?_
  rintro e w9 ⟨rfl, b9⟩
  have B9 : Hid (Below w.heap.size w w9) := chain B8.out b9
  clear b9
  go_wp2
  go_ret
  exact ⟨rfl, B9.out⟩
  -- go_enter Try.func6, Try.ntmps6
  -- go_wp2
  -- go_ret

set_option maxRecDepth 100000 in
theorem lifted (os : Os) (started : os.Started) (H : Type) (enc : TypeId × Value → H) :
    ReturnsInHanded {} Try.checked os 6 .any (Rows.ratioOneSpec.pre6 enc Try.prog Try.f6 Rows.ratioOneRow.domain false) (Rows.ratioOneSpec.post enc Try.prog Try.f6 false true false false) := by
  refine returnsInHanded_of_change (C := Try.checked) own started (by kernel_rfl) Try.func6
    (ChangeSpec.witness6 (enc := enc) (C := Try.checked) false ⟨#[], #[.bool false, .int .u32 0, .int .u32 0, .int .u32 0], []⟩ 8 (by kernel_rfl) (by kernel_rfl) (by kernel_rfl) (by kernel_rfl)) ?_
  intro W base args ds gs before hval0 hW hcnd _
  have hval : ∀ (j : Nat) t v, Try.f6.params[j]? = some t → args[j]? = some v → Value.okWide Try.prog W .any base t v := hval0
  have hW' := hW
  obtain ⟨p, q, hA0, hV, rfl, hfz, hnd⟩ := hW
  have hA : DataW.TrodAll enc Try.prog W 0 (fun _ => true) true Try.f6.params.toList args.toList ds p := hA0
  rw [Try.params6] at hA hval
  obtain ⟨v0, vs0, d0, ds0, p0, q0, hargs, rfl, rfl, h0, r0⟩ := trodAll_cons hA
  obtain ⟨v1, vs1, d1, ds1, p1, q1, rfl, rfl, rfl, h1, r1⟩ := trodAll_cons r0
  obtain ⟨v2, vs2, d2, ds2, p2, q2, rfl, rfl, rfl, h2, r2⟩ := trodAll_cons r1
  obtain ⟨v3, vs3, d3, ds3, p3, q3, rfl, rfl, rfl, h3, r3⟩ := trodAll_cons r2
  obtain ⟨rfl, rfl, rfl⟩ := trodAll_nil r3
  obtain rfl : args = #[v0, v1, v2, v3] := by cases args; simp_all
  obtain ⟨rfl, rfl⟩ := trodVars_none hV
  obtain ⟨a0, rfl, rfl, rfl⟩ := open_bool Try.underlying4 (hval 0 4 v0 rfl rfl) h0
  obtain ⟨a1, rfl, rfl, rfl, w1⟩ := open_int Try.underlying38 (hval 1 38 v1 rfl rfl) h1
  obtain ⟨a2, rfl, rfl, rfl, w2⟩ := open_int Try.underlying38 (hval 2 38 v2 rfl rfl) h2
  obtain ⟨a3, rfl, rfl, rfl, w3⟩ := open_int Try.underlying38 (hval 3 38 v3 rfl rfl) h3
  clear hA0 hval0
  refine (walk a0 a1 a2 a3 w1 w2 w3 W).mono fun e W' ⟨he, hg⟩ => ?_
  subst he
  exact ⟨_, rfl, _, _, _, [], _, [], hW', trodAll_mk1 (shut_bool Try.underlying4 _), (trodAll_cons_mk (shut_bool Try.underlying4 _) (trodAll_cons_mk (shut_int Try.underlying38 w1) (trodAll_cons_mk (shut_int Try.underlying38 w2) (trodAll_cons_mk (shut_int Try.underlying38 w3) trodAll_mk0)))), rfl, hg.frame _, fun h => by cases h⟩

theorem over : Rows.ratioOneRow.holds Try.pinned (OpenSpec.ofChange Rows.ratioOneSpec) :=
  OpenClaim.holds_of_wide 6 Try.f6 rfl rfl rfl rfl rfl rfl rfl ⟨rfl, rfl, rfl, rfl, rfl⟩ rfl rfl rfl rfl rfl (by kernel_rfl) Try.func6 (by kernel_rfl)
    (of_decide_eq_true (by kernel_rfl)) (by unfold Func.isWrapper; first | (rw [if_pos (by decide +kernel)]; kernel_rfl) | (rw [if_neg (by decide +kernel)]; exact ⟨rfl, rfl⟩))
    (fun os started H enc _ => lifted os started H enc)

theorem proved : Rows.RatioOneSaid :=
  over
#print axioms proved
end Go.Proofs.Ytnkjfandknndkaa.ratioOne
