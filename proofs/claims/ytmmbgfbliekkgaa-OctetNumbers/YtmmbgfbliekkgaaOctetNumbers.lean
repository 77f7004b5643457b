/-
  Proved here: for every input OctetNumbers returns true, and leaves its arguments as they were. No condition.
-/
import Derived.Test.YtmmbgfbliekkgaaOctF
import Derived.Test.YtmmbgfbliekkgaaOctM
import Derived.Test.YtmmbgfbliekkgaaCame
namespace Go.Proofs.Ytmmbgfbliekkgaa.octetNumbers
open Go.ChangeShapes Go.WideShapes Go.ChangeAt Go.RowKit
open Go.ChangeMaps (open_string shut_string)
set_option linter.unusedVariables false      -- a walk need not use every 'w<i>' (that an integer argument fits its kind)

set_option maxRecDepth 100000 in
set_option maxHeartbeats 4000000 in
theorem walk (a0 : Int) (a1 : Int) (w0 : (Lit.int .u64 a0).wf = true) (w1 : (Lit.int .u64 a1).wf = true) (w : World) :
    Calls Try.prog 8 #[.int .u64 a0, .int .u64 a1] w fun e w' => e = .returned (.bool true) ∧ Below w.heap.size w w' := by
  obtain ⟨p0, p1⟩ := bounds_u64 w0
  obtain ⟨q0, q1⟩ := bounds_u64 w1
  clear w0 w1
  rcases Int.lt_trichotomy a0 a1 with h | h | h
  · have h0 : a0 ≤ a1 := by omega
    obtain ⟨S, hS⟩ : ∃ S, S = putL (a0).toNat := ⟨_, rfl⟩
    obtain ⟨T, hT⟩ : ∃ T, T = putL (a1).toNat := ⟨_, rfl⟩
    have h1 : S.length ≤ T.length := by rw [hS, hT, putL_length, putL_length]; have := cntB_mono (show (a0).toNat ≤ (a1).toNat by omega); omega
    have h2 : T.length ≤ 9 := by rw [hT, putL_length]; have := cntB_le (a1).toNat (by omega); omega
    have h3 : (S == T) = (a0 == a1) := by
      by_cases e : a0 = a1
      · rw [hS, hT, e]; simp
      · rw [show (a0 == a1) = false by rw [beq_eq_false_iff_ne]; exact e, beq_eq_false_iff_ne, hS, hT]
        intro e2
        have := putL_inj (by omega) (by omega) e2
        omega
    obtain ⟨c, hc⟩ : ∃ c, c = (a0 == a1) := ⟨_, rfl⟩
    have h4 : ((str S).toList == (str T).toList) = c := by rw [str_beq, h3, hc]
    have hc2 : (a0 == a1) = c := hc.symm
    have z1 : (str S).size = S.length := str_size S
    have z2 : (str T).size = T.length := str_size T
    have z3 : (S.length : Int) ≤ (T.length : Int) := by omega
    have z4 : (T.length : Int) ≤ 9 := by omega
    have HP : Hid (S = putL (a0).toNat ∧ T = putL (a1).toNat ∧ a0 < BB ∧ a1 < BB) := ⟨hS, hT, by unfold BB; omega, by unfold BB; omega⟩
    clear hS hT h1 h2 h3 hc
    go_enter Try.func8, Try.ntmps8
    go_wp2_with fail
    refine (put_s a0 _ (by omega) HP.out.2.2.1).mono ?_
    rw [← HP.out.1]
    rintro e w1 ⟨rfl, b1⟩
    have H1 : Hid (Below w.heap.size w w1) := b1
    clear b1
    go_wp2_with fail
    refine (put_s a1 _ (by omega) HP.out.2.2.2).mono ?_
    rw [← HP.out.2.1]
    rintro e w2 ⟨rfl, b1⟩
    have H2 : Hid (Below w.heap.size w w2) := chain H1.out b1
    clear b1
    go_wp2_with (go_at_call 10; refine (shown_any _).mono ?_; rintro e w3 ⟨rfl, b1⟩)
    go_ret
    exact ⟨rfl, chain H2.out b1⟩
  · subst h
    clear q0 q1
    obtain ⟨S, hS⟩ : ∃ S, S = putL (a0).toNat := ⟨_, rfl⟩
    obtain ⟨T, hT⟩ : ∃ T, T = putL (a0).toNat := ⟨_, rfl⟩
    have h1 : S.length ≤ T.length := by rw [hS, hT]; exact Nat.le_refl _
    have h2 : T.length ≤ 9 := by rw [hT, putL_length]; have := cntB_le (a0).toNat (by omega); omega
    have h4 : ((str S).toList == (str T).toList) = true := by rw [str_beq, hS, hT]; simp
    have z1 : (str S).size = S.length := str_size S
    have z2 : (str T).size = T.length := str_size T
    have z3 : (S.length : Int) ≤ (T.length : Int) := by omega
    have z4 : (T.length : Int) ≤ 9 := by omega
    have HP : Hid (S = putL (a0).toNat ∧ T = putL (a0).toNat ∧ a0 < BB ∧ a0 < BB) := ⟨hS, hT, by unfold BB; omega, by unfold BB; omega⟩
    clear hS hT h1 h2
    go_enter Try.func8, Try.ntmps8
    go_wp2_with fail
    refine (put_s a0 _ (by omega) HP.out.2.2.1).mono ?_
    rw [← HP.out.1]
    rintro e w1 ⟨rfl, b1⟩
    have H1 : Hid (Below w.heap.size w w1) := b1
    clear b1
    go_wp2_with fail
    refine (put_s a0 _ (by omega) HP.out.2.2.2).mono ?_
    rw [← HP.out.2.1]
    rintro e w2 ⟨rfl, b1⟩
    have H2 : Hid (Below w.heap.size w w2) := chain H1.out b1
    clear b1
    go_wp2_with (go_at_call 10; refine (shown_any _).mono ?_; rintro e w3 ⟨rfl, b1⟩)
    go_ret
    exact ⟨rfl, chain H2.out b1⟩
  · have h0 : a1 ≤ a0 := by omega
    obtain ⟨S, hS⟩ : ∃ S, S = putL (a1).toNat := ⟨_, rfl⟩
    obtain ⟨T, hT⟩ : ∃ T, T = putL (a0).toNat := ⟨_, rfl⟩
    have h1 : S.length ≤ T.length := by rw [hS, hT, putL_length, putL_length]; have := cntB_mono (show (a1).toNat ≤ (a0).toNat by omega); omega
    have h2 : T.length ≤ 9 := by rw [hT, putL_length]; have := cntB_le (a0).toNat (by omega); omega
    have h3 : (S == T) = (a0 == a1) := by
      by_cases e : a0 = a1
      · rw [hS, hT, e]; simp
      · rw [show (a0 == a1) = false by rw [beq_eq_false_iff_ne]; exact e, beq_eq_false_iff_ne, hS, hT]
        intro e2
        have := putL_inj (by omega) (by omega) e2
        omega
    obtain ⟨c, hc⟩ : ∃ c, c = (a0 == a1) := ⟨_, rfl⟩
    have h4 : ((str S).toList == (str T).toList) = c := by rw [str_beq, h3, hc]
    have hc2 : (a0 == a1) = c := hc.symm
    have z1 : (str S).size = S.length := str_size S
    have z2 : (str T).size = T.length := str_size T
    have z3 : (S.length : Int) ≤ (T.length : Int) := by omega
    have z4 : (T.length : Int) ≤ 9 := by omega
    have HP : Hid (S = putL (a1).toNat ∧ T = putL (a0).toNat ∧ a1 < BB ∧ a0 < BB) := ⟨hS, hT, by unfold BB; omega, by unfold BB; omega⟩
    clear hS hT h1 h2 h3 hc
    go_enter Try.func8, Try.ntmps8
    go_wp2_with fail
    refine (put_s a1 _ (by omega) HP.out.2.2.1).mono ?_
    rw [← HP.out.1]
    rintro e w1 ⟨rfl, b1⟩
    have H1 : Hid (Below w.heap.size w w1) := b1
    clear b1
    go_wp2_with fail
    refine (put_s a0 _ (by omega) HP.out.2.2.2).mono ?_
    rw [← HP.out.2.1]
    rintro e w2 ⟨rfl, b1⟩
    have H2 : Hid (Below w.heap.size w w2) := chain H1.out b1
    clear b1
    go_wp2_with (go_at_call 10; refine (shown_any _).mono ?_; rintro e w3 ⟨rfl, b1⟩)
    go_ret
    exact ⟨rfl, chain H2.out b1⟩
  -- go_enter Try.func8, Try.ntmps8
  -- go_wp2
  -- go_ret

set_option maxRecDepth 100000 in
theorem lifted (os : Os) (started : os.Started) (H : Type) (enc : TypeId × Value → H) :
    ReturnsInHanded {} Try.checked os 8 .any (Rows.octetNumbersSpec.pre6 enc Try.prog Try.f8 Rows.octetNumbersRow.domain false) (Rows.octetNumbersSpec.post enc Try.prog Try.f8 false true false false) := by
  refine returnsInHanded_of_change (C := Try.checked) own started (by kernel_rfl) Try.func8
    (ChangeSpec.witness6 (enc := enc) (C := Try.checked) false ⟨#[], #[.int .u64 0, .int .u64 0], []⟩ 8 (by kernel_rfl) (by kernel_rfl) (by kernel_rfl) (by kernel_rfl)) ?_
  intro W base args ds gs before hval0 hW hcnd _
  have hval : ∀ (j : Nat) t v, Try.f8.params[j]? = some t → args[j]? = some v → Value.okWide Try.prog W .any base t v := hval0
  have hW' := hW
  obtain ⟨p, q, hA0, hV, rfl, hfz, hnd⟩ := hW
  have hA : DataW.TrodAll enc Try.prog W 0 (fun _ => true) true Try.f8.params.toList args.toList ds p := hA0
  rw [Try.params8] at hA hval
  obtain ⟨v0, vs0, d0, ds0, p0, q0, hargs, rfl, rfl, h0, r0⟩ := trodAll_cons hA
  obtain ⟨v1, vs1, d1, ds1, p1, q1, rfl, rfl, rfl, h1, r1⟩ := trodAll_cons r0
  obtain ⟨rfl, rfl, rfl⟩ := trodAll_nil r1
  obtain rfl : args = #[v0, v1] := by cases args; simp_all
  obtain ⟨rfl, rfl⟩ := trodVars_none hV
  obtain ⟨a0, rfl, rfl, rfl, w0⟩ := open_int Try.underlying22 (hval 0 22 v0 rfl rfl) h0
  obtain ⟨a1, rfl, rfl, rfl, w1⟩ := open_int Try.underlying22 (hval 1 22 v1 rfl rfl) h1
  clear hA0 hval0
  refine (walk a0 a1 w0 w1 W).mono fun e W' ⟨he, hg⟩ => ?_
  subst he
  exact ⟨_, rfl, _, _, _, [], _, [], hW', trodAll_mk1 (shut_bool Try.underlying4 _), (trodAll_cons_mk (shut_int Try.underlying22 w0) (trodAll_cons_mk (shut_int Try.underlying22 w1) trodAll_mk0)), rfl, hg.frame _, fun h => by cases h⟩

theorem over : Rows.octetNumbersRow.holds Try.pinned (OpenSpec.ofChange Rows.octetNumbersSpec) :=
  OpenClaim.holds_of_wide 8 Try.f8 rfl rfl rfl rfl rfl rfl rfl ⟨rfl, rfl, rfl, rfl, rfl⟩ rfl rfl rfl rfl rfl (by kernel_rfl) Try.func8 (by kernel_rfl)
    (of_decide_eq_true (by kernel_rfl)) (by unfold Func.isWrapper; first | (rw [if_pos (by decide +kernel)]; kernel_rfl) | (rw [if_neg (by decide +kernel)]; exact ⟨rfl, rfl⟩))
    (fun os started H enc _ => lifted os started H enc)

theorem proved : Rows.OctetNumbersSaid :=
  over
#print axioms proved
end Go.Proofs.Ytmmbgfbliekkgaa.octetNumbers
