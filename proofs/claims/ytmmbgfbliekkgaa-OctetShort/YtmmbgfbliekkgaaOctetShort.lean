/-
  Proved here: for every input OctetShort returns true, and leaves its arguments as they were. No condition.
-/
import Derived.Test.YtmmbgfbliekkgaaOctF
import Derived.Test.YtmmbgfbliekkgaaOctN
import Derived.Test.YtmmbgfbliekkgaaCame
namespace Go.Proofs.Ytmmbgfbliekkgaa.octetShort
open Go.ChangeShapes Go.WideShapes Go.ChangeAt Go.RowKit
open Go.ChangeMaps (open_string shut_string)
set_option linter.unusedVariables false      -- a walk need not use every 'w<i>' (that an integer argument fits its kind)

theorem cut_rem (a : Int) (n : Nat) (h0 : 0 ≤ a) (h1 : a ≤ 65535) (hn : 0 < n) : Int.tmod a (n : Int) = ((a.toNat % n : Nat) : Int) ∧ a.toNat % n < n := by
  obtain ⟨A, rfl⟩ := Int.eq_ofNat_of_zero_le h0
  refine ⟨?_, Nat.mod_lt _ hn⟩
  rw [Int.tmod_eq_emod_of_nonneg (by omega)]
  simp

theorem ext0 (s : List UInt8) (k : Nat) : (str s).extract 0 k = str (s.take k) := by rw [ext_str, List.drop_zero]

set_option maxRecDepth 100000 in
set_option maxHeartbeats 4000000 in
theorem walk (a0 : Int) (a1 : ByteArray) (a2 : Int) (w0 : (Lit.int .u64 a0).wf = true) (w1 : a1.size ≤ maxLen) (w2 : (Lit.int .u16 a2).wf = true) (w : World) :
    Calls Try.prog 7 #[.int .u64 a0, .string a1, .int .u16 a2] w fun e w' => e = .returned (.bool true) ∧ Below w.heap.size w w' := by
  obtain ⟨p0, p1⟩ := bounds_u64 w0
  obtain ⟨q0, q1⟩ := bounds_u16 w2
  obtain ⟨s, hs⟩ : ∃ s, a1 = str s := ⟨a1.data.toList, by unfold str; simp⟩
  subst hs
  clear w0 w1 w2
  have hsz : (str s).size = s.length := str_size s
  by_cases hl : 300 < s.length
  · have hl2 : (300 : Int) < (s.length : Int) := by omega
    go_enter Try.func7, Try.ntmps7
    go_wp2_with (go_at_call 10; refine (shown_any _).mono ?_; rintro e w3 ⟨rfl, b1⟩; have H1 : Hid (Below w.heap.size w w3) := b1; clear b1)
    go_ret
    exact ⟨rfl, H1.out⟩
  · have hl2 : ¬ (300 : Int) < (s.length : Int) := by omega
    have hl3 : decide ((300 : Int) < (s.length : Int)) = false := decide_eq_false hl2
    obtain ⟨P, hP⟩ : ∃ P, P = putL a0.toNat := ⟨_, rfl⟩
    obtain ⟨T, hT⟩ : ∃ T, T = putT s := ⟨_, rfl⟩
    have hPl : P.length ≤ 9 ∧ 0 < P.length := by
      rw [hP, putL_length]
      have := cntB_le a0.toNat (by omega)
      omega
    have hTl : T.length ≤ 309 ∧ 0 < T.length := by
      rw [hT]
      unfold putT
      rw [List.length_append, putL_length]
      have := cntB_le s.length (by omega)
      omega
    obtain ⟨r1, r2⟩ := cut_rem a2 P.length q0 q1 hPl.2
    obtain ⟨t1, t2⟩ := cut_rem a2 T.length q0 q1 hTl.2
    obtain ⟨k, hk⟩ : ∃ k, k = a2.toNat % P.length := ⟨_, rfl⟩
    obtain ⟨j, hj⟩ : ∃ j, j = a2.toNat % T.length := ⟨_, rfl⟩
    rw [← hk] at r1 r2
    rw [← hj] at t1 t2
    have HP : Hid (P = putL a0.toNat ∧ T = putT s ∧ a0 < BB ∧ s.length ≤ 300 ∧ numL (P.take k) = .error 60 ∧ textL (T.take j) = .error 60) := ⟨hP, hT, by unfold BB; omega, by omega, by rw [hP] at r2 ⊢; exact numL_cut _ (by omega) k r2, by rw [hT] at t2 ⊢; exact textL_cut s (by omega) j t2⟩
    have z1 : (str P).size = P.length := str_size P
    have z2 : (str T).size = T.length := str_size T
    have e1 := ext0 P k
    have e2 := ext0 T j
    have y1 : (0 : Int) < (P.length : Int) := by omega
    have y2 : (0 : Int) < (T.length : Int) := by omega
    have y3 : (P.length : Int) ≤ 9 := by omega
    have y4 : (T.length : Int) ≤ 309 := by omega
    have y5 : k ≤ P.length := by omega
    have y6 : j ≤ T.length := by omega
    have y7 : ¬ (P.length : Int) = 0 := by omega
    have y8 : ¬ (T.length : Int) = 0 := by omega
    clear hP hT hPl hTl hk hj hl
    go_enter Try.func7, Try.ntmps7
    go_wp2_with fail
    refine (shown_any _).mono ?_
    rintro e w1 ⟨rfl, b1⟩
    have H1 : Hid (Below w.heap.size w w1) := b1
    clear b1
    go_wp2_with fail
    refine (put_s a0 _ p0 HP.out.2.2.1).mono ?_
    rw [← HP.out.1]
    rintro e w2 ⟨rfl, b1⟩
    have H2 : Hid (Below w.heap.size w w2) := chain H1.out b1
    clear b1
    go_wp2_with fail
    refine (putText_any s _ (by have := HP.out.2.2.2.1; omega)).mono ?_
    rw [← HP.out.2.1]
    rintro e w3 ⟨rfl, b1⟩
    have H3 : Hid (Below w.heap.size w w3) := chain H2.out b1
    clear b1
    go_wp2_with fail
    refine (get_err (P.take k) 60 _ HP.out.2.2.2.2.1 (by rw [List.length_take]; omega)).mono ?_
    rintro e w4 ⟨rfl, b1⟩
    have H4 : Hid (Below w.heap.size w w4) := chain H3.out b1
    clear b1
    go_wp2_with fail
    refine (getText_err (T.take j) 60 _ HP.out.2.2.2.2.2 (by rw [List.length_take]; omega)).mono ?_
    rintro e w5 ⟨rfl, b1⟩
    have H5 : Hid (Below w.heap.size w w5) := chain H4.out b1
    clear b1
    go_wp2_with fail
    refine (rof_any a0 _ p0 HP.out.2.2.1).mono ?_
    rintro e w6 ⟨ro, m, cp, xs, rfl, g1, g2, g3, b1⟩
    have H6 : Hid (Below w.heap.size w w6 ∧ RowAt w6 ro m cp xs ∧ May xs) := ⟨chain H5.out b1, g1, by have := g1.len; omega, g2.trim⟩
    clear b1 g1 g2 g3
    go_wp2_with fail
    refine (putNat_ok _ _ _ xs _ H6.out.2.1 H6.out.2.2).mono ?_
    rintro e w7 ⟨rfl, b1⟩
    have H7 : Hid (Below w.heap.size w w7) := chain H6.out.1 b1
    clear b1
    obtain ⟨X, hX⟩ : ∃ X, X = putN xs := ⟨_, rfl⟩
    rw [← hX]
    have hXl : X.length ≤ 100 ∧ 0 < X.length := by
      rw [hX]
      unfold putN
      rw [List.length_append, putL_length, limbB_length, List.length_reverse]
      have h1 := H6.out.2.2.1
      have := cntB_le xs.length (by omega)
      omega
    obtain ⟨s1, s2⟩ := cut_rem a2 X.length q0 q1 hXl.2
    obtain ⟨i, hi⟩ : ∃ i, i = a2.toNat % X.length := ⟨_, rfl⟩
    rw [← hi] at s1 s2
    have HX : Hid (natL (X.take i) = .error 60 ∧ X.length ≤ 100) := ⟨by rw [hX] at s2 ⊢; exact natL_cut xs H6.out.2.2.1 i s2, hXl.1⟩
    have z3 : (str X).size = X.length := str_size X
    have e3 := ext0 X i
    have x1 : (0 : Int) < (X.length : Int) := by omega
    have x2 : (X.length : Int) ≤ 100 := by omega
    have x3 : i ≤ X.length := by omega
    have x4 : ¬ (X.length : Int) = 0 := by omega
    clear hX hXl hi
    go_wp2_with fail
    refine (getNat_err (X.take i) 60 _ HX.out.1 (by rw [List.length_take]; omega)).mono ?_
    rintro e w8 ⟨rfl, b1⟩
    have H8 : Hid (Below w.heap.size w w8) := chain H7.out b1
    clear b1
    go_wp2_with fail
    go_ret
    exact ⟨rfl, H8.out⟩
  -- go_enter Try.func7, Try.ntmps7
  -- go_wp2
  -- go_ret

set_option maxRecDepth 100000 in
theorem lifted (os : Os) (started : os.Started) (H : Type) (enc : TypeId × Value → H) :
    ReturnsInHanded {} Try.checked os 7 .any (Rows.octetShortSpec.pre6 enc Try.prog Try.f7 Rows.octetShortRow.domain false) (Rows.octetShortSpec.post enc Try.prog Try.f7 false true false false) := by
  refine returnsInHanded_of_change (C := Try.checked) own started (by kernel_rfl) Try.func7
    (ChangeSpec.witness6 (enc := enc) (C := Try.checked) false ⟨#[], #[.int .u64 0, .string ByteArray.empty, .int .u16 0], []⟩ 8 (by kernel_rfl) (by kernel_rfl) (by kernel_rfl) (by kernel_rfl)) ?_
  intro W base args ds gs before hval0 hW hcnd _
  have hval : ∀ (j : Nat) t v, Try.f7.params[j]? = some t → args[j]? = some v → Value.okWide Try.prog W .any base t v := hval0
  have hW' := hW
  obtain ⟨p, q, hA0, hV, rfl, hfz, hnd⟩ := hW
  have hA : DataW.TrodAll enc Try.prog W 0 (fun _ => true) true Try.f7.params.toList args.toList ds p := hA0
  rw [Try.params7] at hA hval
  obtain ⟨v0, vs0, d0, ds0, p0, q0, hargs, rfl, rfl, h0, r0⟩ := trodAll_cons hA
  obtain ⟨v1, vs1, d1, ds1, p1, q1, rfl, rfl, rfl, h1, r1⟩ := trodAll_cons r0
  obtain ⟨v2, vs2, d2, ds2, p2, q2, rfl, rfl, rfl, h2, r2⟩ := trodAll_cons r1
  obtain ⟨rfl, rfl, rfl⟩ := trodAll_nil r2
  obtain rfl : args = #[v0, v1, v2] := by cases args; simp_all
  obtain ⟨rfl, rfl⟩ := trodVars_none hV
  obtain ⟨a0, rfl, rfl, rfl, w0⟩ := open_int Try.underlying22 (hval 0 22 v0 rfl rfl) h0
  obtain ⟨a1, rfl, rfl, rfl, w1⟩ := open_string Try.underlying9 (hval 1 9 v1 rfl rfl) h1
  obtain ⟨a2, rfl, rfl, rfl, w2⟩ := open_int Try.underlying48 (hval 2 48 v2 rfl rfl) h2
  clear hA0 hval0
  refine (walk a0 a1 a2 w0 w1 w2 W).mono fun e W' ⟨he, hg⟩ => ?_
  subst he
  exact ⟨_, rfl, _, _, _, [], _, [], hW', trodAll_mk1 (shut_bool Try.underlying4 _), (trodAll_cons_mk (shut_int Try.underlying22 w0) (trodAll_cons_mk (shut_string Try.underlying9 w1) (trodAll_cons_mk (shut_int Try.underlying48 w2) trodAll_mk0))), rfl, hg.frame _, fun h => by cases h⟩

theorem over : Rows.octetShortRow.holds Try.pinned (OpenSpec.ofChange Rows.octetShortSpec) :=
  OpenClaim.holds_of_wide 7 Try.f7 rfl rfl rfl rfl rfl rfl rfl ⟨rfl, rfl, rfl, rfl, rfl⟩ rfl rfl rfl rfl rfl (by kernel_rfl) Try.func7 (by kernel_rfl)
    (of_decide_eq_true (by kernel_rfl)) (by unfold Func.isWrapper; first | (rw [if_pos (by decide +kernel)]; kernel_rfl) | (rw [if_neg (by decide +kernel)]; exact ⟨rfl, rfl⟩))
    (fun os started H enc _ => lifted os started H enc)

theorem proved : Rows.OctetShortSaid :=
  over
#print axioms proved
end Go.Proofs.Ytmmbgfbliekkgaa.octetShort
