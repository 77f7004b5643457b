/-
  Joined: PressF · PressG.
-/
import Derived.Test.YtnedghhcidohnaaGreatPressE
import Derived.Test.YtnedghhcidohnaaGreatJX1
import Derived.Test.YtnedghhcidohnaaGreatLD1
namespace Go.Proofs.YtnedghhcidohnaaGreat
open Go.RowKit

/-- The row that is filled, so far. -/
structure GtSt (w1 wr : World) (n : Nat) (j : Nat) (qs : List TP) (ms : List TL) : Prop where
  bel : Below w1.heap.size w1 wr
  own : TermsOwn wr w1.heap.size (.slice (some ⟨w1.heap.size, 0, none⟩) n n) (qs ++ List.replicate (n - j) zp) (ms ++ List.replicate (n - j) zt)
  len : qs.length = j
  len' : ms.length = j
theorem GtSt.below {w1 wr w' : World} {n : Nat} {j : Nat} {qs : List TP} {ms : List TL} (h : GtSt w1 wr n j qs ms) (hb : Below wr.heap.size wr w') : GtSt w1 w' n j qs ms := ⟨chain h.bel hb, h.own.below hb, h.len, h.len'⟩
theorem GtSt.step {w1 wr : World} {n : Nat} {t : TL} {j : Nat} {qs : List TP} {ms : List TL} {p : TP} (h : GtSt w1 wr n j qs ms) (hj : j < n) (hp : TermAt wr p t) : GtSt w1 (setAt wr w1.heap.size (j * 7) p) n (j + 1) (qs ++ [p]) (ms ++ [t]) := by
  have h1 := h.own.set (i := j) (p := p) (t := t) (by simp [h.len]; omega) hp
  rw [set_at qs n j zp p h.len hj, set_at ms n j zt _ h.len' hj] at h1
  exact ⟨h.bel.grown (setAt_grown _ _ _ _) h.bel.size (fun k hk => by cases hk; exact Nat.le_refl _), h1, by simp [h.len], by simp [h.len']⟩
theorem GtSt.cells {w1 wr : World} {n : Nat} {j : Nat} {qs : List TP} {ms : List TL} (h : GtSt w1 wr n j qs ms) (hj : j < n) : ElemAt wr w1.heap.size (j * 7) zp ∧ ∀ k, wr.frozen? ⟨w1.heap.size, k, none⟩ = false := by
  have hp : (qs ++ List.replicate (n - j) zp)[j]? = some zp := by
    rw [List.getElem?_append_right (by rw [h.len]; exact Nat.le_refl _), h.len, Nat.sub_self, List.getElem?_replicate, if_pos (by omega)]
  have hc := (h.own.at).cells j zp hp
  rw [Nat.zero_add] at hc
  refine ⟨.of hc, fun k => ?_⟩
  rcases h.own.own.row.2 with ⟨e, _⟩ | ⟨g', cap', cur, e, _, hb, _⟩
  · cases e
  · simp only [Value.slice.injEq, Option.some.injEq, Addr.mk.injEq, and_true] at e
    obtain ⟨e0, _, _⟩ := e
    subst e0
    simp [World.frozen?, hb]
theorem GtSt.poly {w1 wr : World} {n : Nat} {qs : List TP} {ms : List TL} (h : GtSt w1 wr n n qs ms) : PolyAt wr (some ⟨w1.heap.size, 0, none⟩) n n qs ms := by
  have h1 := h.own
  simp only [Nat.sub_self, List.replicate_zero, List.append_nil] at h1
  obtain ⟨lo, cap, e, hp, _⟩ := h1.poly
  have hl := h.len
  subst hl
  injection e with e1 e2 e3
  subst e1 e3
  exact hp

theorem numL_few {s : List UInt8} {n : Nat} {b : List UInt8} (h : numL s = .ok (n, b)) : n < 18446744073709551616 ∧ b.length ≤ s.length := by
  have := numL_rest h
  have e : (2 : Nat) ^ 64 = 18446744073709551616 := by decide
  omega
theorem TmIs.rest {s : List UInt8} {x : TL} {b : List UInt8} (h : TmIs s (.ok (x, b))) : b.length ≤ s.length := by
  obtain ⟨r, h1, h2⟩ := h
  rcases r with e | ⟨q, c⟩
  · cases h2
  · unfold TmAft at h2
    dsimp only at h2
    by_cases hl : c.length < 4
    · rw [if_pos hl] at h2; cases h2
    · rw [if_neg hl] at h2
      injection h2 with h2
      injection h2 with h3 h4
      subst h4
      have := congrArg List.length h1.one.1
      rw [List.length_append] at this
      simp
      omega
theorem TmIs.err {s : List UInt8} {k : Int} (h : TmIs s (.error k)) : k ≠ 0 := by
  obtain ⟨r, h1, h2⟩ := h
  rcases r with e | ⟨q, c⟩
  · injection h2 with h2
    subst h2
    exact h1.err
  · unfold TmAft at h2
    dsimp only at h2
    by_cases hl : c.length < 4
    · rw [if_pos hl] at h2; injection h2 with h2; omega
    · rw [if_neg hl] at h2; cases h2

set_option maxRecDepth 100000 in
set_option maxHeartbeats 4000000 in
theorem getTerms_b (s : List UInt8) (res : Except Int (List TL × List UInt8)) (w : World) (h : ManyIs TmIs 60 s res) (hs : s.length ≤ 700000) :
    Calls Tryz.prog 29 #[.string (str s), .int .u64 60, .func (.func 30) #[] #[]] w fun e w' => ∃ (lo : Option Addr) (n cap : Nat) (qs : List TP) (ms : List TL) (R : List UInt8) (k : Int),
      e = .returned (.tuple #[.slice lo n cap, .string (str R), .int .i64 k]) ∧ PolyAt w' lo n cap qs ms ∧ Told res ms R k ∧ R.length ≤ s.length ∧ Below w.heap.size w w' := by
  obtain ⟨i0, hi0, hz0, hz1, hz2⟩ := info_parts info39
  have H : Hid (ManyIs TmIs 60 s res ∧ s.length ≤ 700000) := ⟨h, hs⟩
  rcases hnum : numL s with k | ⟨n, b⟩
  · have hres : res = .error k := by unfold ManyIs at h; rw [hnum] at h; exact h
    have hk := numL_err hnum
    have HR : Hid (res = .error k ∧ numL s = .error k) := ⟨hres, hnum⟩
    clear h hs hres hnum hi0 hz0 hz1 hz2
    go_enter Tryz.func29, Tryz.ntmps29
    go_wp2_with fail
    refine (get_err s k _ HR.out.2 (by have := H.out.2; omega)).mono ?_
    rintro e w1 ⟨rfl, q1⟩
    have H1 : Hid (Below w.heap.size w w1) := q1
    clear q1
    go_wp2_with fail
    go_ret3
    exact ⟨none, 0, 0, [], [], [], k, rfl, PolyAt.nil _, by rw [HR.out.1]; exact ⟨rfl, rfl, rfl⟩, by simp, H1.out⟩
  · have hfew := numL_few hnum
    by_cases hn : 60 < n
    · have hres : res = .error 62 := by unfold ManyIs at h; rw [hnum] at h; dsimp only at h; rw [if_pos hn] at h; exact h
      have hn' : (60 : Int) < (n : Int) := by omega
      have HR : Hid (res = .error 62 ∧ numL s = .ok (n, b)) := ⟨hres, hnum⟩
      clear h hs hres hnum hi0 hz0 hz1 hz2 hfew hn
      go_enter Tryz.func29, Tryz.ntmps29
      go_wp2_with fail
      refine (get_ok s n b _ HR.out.2 (by have := H.out.2; omega)).mono ?_
      rintro e w1 ⟨rfl, q1⟩
      have H1 : Hid (Below w.heap.size w w1) := q1
      clear q1
      go_wp2_with fail
      go_ret3
      exact ⟨none, 0, 0, [], [], [], 62, rfl, PolyAt.nil _, by rw [HR.out.1]; exact ⟨rfl, rfl, rfl⟩, by simp, H1.out⟩
    · have hE : EachIs TmIs n b res := by unfold ManyIs at h; rw [hnum] at h; dsimp only at h; rw [if_neg hn] at h; exact h
      have hn' : ¬ (60 : Int) < (n : Int) := by omega
      have hn0 : (0 : Int) ≤ (n : Int) := by omega
      have hnn : (n : Int) ≤ 60 := by omega
      have HR : Hid (EachIs TmIs n b res ∧ numL s = .ok (n, b) ∧ n ≤ 60 ∧ b.length ≤ s.length) := ⟨hE, hnum, by omega, hfew.2⟩
      have hmk : ∀ wx, (Instr.makeSlice 22 (.int .u64 (n : Int)) (.int .u64 (n : Int))).run Tryz.prog wx = .ok (.slice (some ⟨wx.heap.size, 0, none⟩) n n) (wx.alloc (.cells (madeCells (Value.agg #[.bool false, .slice none 0 0, .slice none 0 0, .int .i64 0, .int .i64 0, .int .i64 0, .int .i64 0]).cells (n * 7)) 49)) := fun wx => by
        have hr := run_makeSlice (P := Tryz.prog) (w := wx) 22 49 i0 _ Tryz.underlying22 hi0 hz0 .u64 .u64 n n (by omega) (Int.le_refl _) (by rw [hz1]; omega) (by rw [hz2]; omega) (by omega)
        simp only [Int.toNat_natCast, hz1] at hr
        exact hr
      clear h hs hE hnum hfew hn hi0 hz0 hz1 hz2
      go_enter Tryz.func29, Tryz.ntmps29
      go_wp2_with fail
      refine (get_ok s n b _ HR.out.2.1 (by have := H.out.2; omega)).mono ?_
      rintro e w1 ⟨rfl, q1⟩
      have H1 : Hid (Below w.heap.size w w1) := q1
      clear q1
      have S0 : Hid (GtSt w1 (w1.alloc (.cells (madeCells (Value.agg #[.bool false, .slice none 0 0, .slice none 0 0, .int .i64 0, .int .i64 0, .int .i64 0, .int .i64 0]).cells (n * 7)) 49)) n 0 [] []) :=
        ⟨bel1 _ _, by simpa using terms_zero w1 n (by have := HR.out.2.2.1; unfold maxLen; omega), rfl, rfl⟩
      generalize madeCells (Value.agg #[.bool false, .slice none 0 0, .slice none 0 0, .int .i64 0, .int .i64 0, .int .i64 0, .int .i64 0]).cells (n * 7) = Z at hmk S0
      go_wp2_with fail
      clear hmk
      go_loopg [10, 11, 30] n (fun m s10 s11 s30 wr => ∃ (j : Nat) (qs : List TP) (ms : List TL) (B : List UInt8), j ≤ n ∧ n - j ≤ m ∧ s30 = .int .i64 j ∧ s10 = .string (str B) ∧ s11 = .int .i64 0 ∧ Hid (GtSt w1 wr n j qs ms ∧ Upto TmIs n res j ms B ∧ B.length ≤ s.length))
      case atStart => exact ⟨0, [], [], b, Nat.zero_le _, by omega, rfl, rfl, rfl, S0.out, Upto.start HR.out.1, HR.out.2.2.2⟩
      case round =>
        obtain ⟨j, qs, ms, B, hj, hjr, rfl, rfl, rfl, hT⟩ := hrel
        by_cases h0 : j < n
        · have hjn : (j : Int) < (n : Int) := by omega
          have hj0 : (0 : Int) ≤ (j : Int) := by omega
          obtain ⟨r, hr, he, ho⟩ := hT.out.2.1.step h0
          have HJ : Hid (j < n ∧ n - j ≤ _ ∧ TmIs B r ∧ (∀ e, r = .error e → res = .error e) ∧ (∀ x c, r = .ok (x, c) → Upto TmIs n res (j + 1) (ms ++ [x]) c)) := ⟨h0, hjr, hr, he, ho⟩
          clear hj hjr h0 hr he ho
          go_wp2_with fail
          refine (getTerm_b B r _ HJ.out.2.2.1 (by have := hT.out.2.2; have := H.out.2; omega)).mono ?_
          rintro e w3 ⟨⟨qg, qo, qn, qc, qeo, qen, qec, qa, qb, qcc, qd⟩, t, R, k, rfl, q1, q2, q3⟩
          dsimp only at q1 ⊢
          have T3 := hT.out.1.below q3
          obtain ⟨⟨z0, z1, z2, z3, z4, z5, z6⟩, fz⟩ := T3.cells HJ.out.1
          dsimp only [zp] at z0 z1 z2 z3 z4 z5 z6
          have f0 := fz (j * 7)
          have f1 := fz (j * 7 + 1)
          have f2 := fz (j * 7 + 2)
          have f3 := fz (j * 7 + 3)
          have f4 := fz (j * 7 + 4)
          have f5 := fz (j * 7 + 5)
          have f6 := fz (j * 7 + 6)
          have H3 : Hid (TmTold r t R k ∧ GtSt w1 (setAt w3 w1.heap.size (j * 7) ⟨qg, qo, qn, qc, qeo, qen, qec, qa, qb, qcc, qd⟩) n (j + 1) (qs ++ [⟨qg, qo, qn, qc, qeo, qen, qec, qa, qb, qcc, qd⟩]) (ms ++ [t])) := ⟨q2, T3.step HJ.out.1 q1⟩
          clear q1 q2 q3 T3 fz
          rcases r with e | ⟨x, c⟩
          · obtain ⟨rfl, rfl, rfl⟩ := H3.out.1
            have hk := HJ.out.2.2.1.err
            have HE : Hid (res = .error k ∧ Below w.heap.size w (setAt w3 w1.heap.size (j * 7) ⟨qg, qo, qn, qc, qeo, qen, qec, qa, qb, qcc, qd⟩)) := ⟨HJ.out.2.2.2.1 k rfl, chain H1.out H3.out.2.bel⟩
            clear H3 HJ
            simp only [setAt] at HE
            go_wp2_with fail
            go_ret3
            exact ⟨none, 0, 0, [], [], [], k, rfl, PolyAt.nil _, by rw [HE.out.1]; exact ⟨rfl, rfl, rfl⟩, by simp, HE.out.2⟩
          · obtain ⟨rfl, rfl, rfl⟩ := H3.out.1
            have HN : Hid (GtSt w1 (setAt w3 w1.heap.size (j * 7) ⟨qg, qo, qn, qc, qeo, qen, qec, qa, qb, qcc, qd⟩) n (j + 1) (qs ++ [⟨qg, qo, qn, qc, qeo, qen, qec, qa, qb, qcc, qd⟩]) (ms ++ [t]) ∧ Upto TmIs n res (j + 1) (ms ++ [t]) R ∧ R.length ≤ s.length) := ⟨H3.out.2, HJ.out.2.2.2.2 t R rfl, Nat.le_trans HJ.out.2.2.1.rest hT.out.2.2⟩
            clear H3
            go_wp2_with fail
            go_roundg (n - (j + 1))
            case measure => have := HJ.out.1; have := HJ.out.2.1; omega
            case rel => exact ⟨j + 1, _, _, R, by have := HJ.out.1; omega, Nat.le_refl _, by go_num, rfl, rfl, HN.out⟩
        · have hjn : j = n := by omega
          subst hjn
          have HF : Hid (PolyAt wr (some ⟨w1.heap.size, 0, none⟩) j j qs ms ∧ res = .ok (ms, B) ∧ B.length ≤ s.length ∧ Below w.heap.size w wr) := ⟨hT.out.1.poly, hT.out.2.1.last, hT.out.2.2, chain H1.out hT.out.1.bel⟩
          clear hT hj hjr h0
          go_wp2_with fail
          go_ret3
          exact ⟨_, j, j, qs, ms, B, 0, rfl, HF.out.1, by rw [HF.out.2.1]; exact ⟨rfl, rfl, rfl⟩, HF.out.2.2.1, HF.out.2.2.2⟩
end Go.Proofs.YtnedghhcidohnaaGreat

/-! press.Get. -/
namespace Go.Proofs.YtnedghhcidohnaaGreat
open Go.RowKit

theorem EachIs.err {A : Type} {one : List UInt8 → Except Int (A × List UInt8) → Prop} (h1 : ∀ s k, one s (.error k) → k ≠ 0) : ∀ (n : Nat) (s : List UInt8) (k : Int), EachIs one n s (.error k) → k ≠ 0
  | 0, s, k, h => by cases h
  | n + 1, s, k, h => by
    obtain ⟨r, h2, h3⟩ := h
    rcases r with e | ⟨x, b⟩
    · injection h3 with h3
      subst h3
      exact h1 _ _ h2
    · obtain ⟨r2, h4, h5⟩ := h3
      rcases r2 with e | ⟨l, c⟩
      · injection h5 with h5
        subst h5
        exact EachIs.err h1 n _ _ h4
      · cases h5
theorem ManyIs.err {A : Type} {one : List UInt8 → Except Int (A × List UInt8) → Prop} (h1 : ∀ s k, one s (.error k) → k ≠ 0) {most : Nat} {s : List UInt8} {k : Int} (h : ManyIs one most s (.error k)) : k ≠ 0 := by
  unfold ManyIs at h
  rcases hn : numL s with e | ⟨n, b⟩
  · rw [hn] at h
    injection h with h
    subst h
    exact numL_err hn
  · rw [hn] at h
    dsimp only at h
    by_cases hm : most < n
    · rw [if_pos hm] at h
      injection h with h
      omega
    · rw [if_neg hm] at h
      exact EachIs.err h1 n b k h
theorem GetIs.err {o : Int} {s : List UInt8} {k : Int} (h : GetIs o s (.error k)) : k ≠ 0 := by
  obtain ⟨r, h1, h2⟩ := h
  rcases r with e | ⟨l, c⟩
  · injection h2 with h2
    subst h2
    exact ManyIs.err (fun _ _ => TmIs.err) h1
  · rcases Classical.em (MayP o l) with hm | hm
    · have := h2.1 hm; cases this
    · have := h2.2 hm; injection this with this; omega

set_option maxRecDepth 100000 in
set_option maxHeartbeats 4000000 in
theorem get_b (o : Int) (s : List UInt8) (res : Except Int (List TL × List UInt8)) (w : World) (h : GetIs o s res) (hs : s.length ≤ 700000) :
    Calls Tryz.prog 14 #[.int .i64 o, .string (str s)] w fun e w' => ∃ (lo : Option Addr) (n cap : Nat) (qs : List TP) (ms : List TL) (R : List UInt8) (k : Int),
      e = .returned (.tuple #[.slice lo n cap, .string (str R), .int .i64 k]) ∧ PolyAt w' lo n cap qs ms ∧ Told res ms R k ∧ R.length ≤ s.length ∧ Below w.heap.size w w' := by
  obtain ⟨r, h1, h2⟩ := h
  have H : Hid (ManyIs TmIs 60 s r ∧ s.length ≤ 700000 ∧ GetAft o r res) := ⟨h1, hs, h2⟩
  clear h1 h2 hs
  go_enter Tryz.func14, Tryz.ntmps14
  go_wp2_with fail
  refine (getTerms_b s r _ H.out.1 H.out.2.1).mono ?_
  rintro e w1 ⟨lo, n, cap, qs, ms, R, k, rfl, q1, q2, q3, q4⟩
  have H1 : Hid (PolyAt w1 lo n cap qs ms ∧ Told r ms R k ∧ R.length ≤ s.length ∧ Below w.heap.size w w1) := ⟨q1, q2, q3, q4⟩
  clear q1 q2 q3 q4
  rcases r with e | ⟨l, c⟩
  · obtain ⟨rfl, rfl, rfl⟩ := H1.out.2.1
    have hk := ManyIs.err (fun _ _ => TmIs.err) H.out.1
    have HE : Hid (res = .error k) := H.out.2.2
    go_wp2_with fail
    go_ret3
    exact ⟨none, 0, 0, [], [], [], k, rfl, PolyAt.nil _, by rw [HE.out]; exact ⟨rfl, rfl, rfl⟩, by simp, H1.out.2.2.2⟩
  · obtain ⟨rfl, rfl, rfl⟩ := H1.out.2.1
    rcases Classical.em (MayP o ms) with hm | hm
    · have HM : Hid (res = .ok (ms, R) ∧ MayP o ms) := ⟨H.out.2.2.1 hm, hm⟩
      clear hm
      go_wp2_with fail
      refine (may_b o _ _ _ _ _ _ H1.out.1 true ⟨fun _ => HM.out.2, fun _ => rfl⟩).mono ?_
      rintro e w2 ⟨rfl, q⟩
      have H2 : Hid (PolyAt w2 lo n cap qs ms ∧ Below w.heap.size w w2) := ⟨H1.out.1.below q, chain H1.out.2.2.2 q⟩
      clear q
      go_wp2_with fail
      go_ret3
      exact ⟨lo, n, cap, qs, ms, R, 0, rfl, H2.out.1, by rw [HM.out.1]; exact ⟨rfl, rfl, rfl⟩, H1.out.2.2.1, H2.out.2⟩
    · have HM : Hid (res = .error 62 ∧ ¬ MayP o ms) := ⟨H.out.2.2.2 hm, hm⟩
      clear hm
      go_wp2_with fail
      refine (may_b o _ _ _ _ _ _ H1.out.1 false ⟨fun e => (by cases e), fun e => absurd e HM.out.2⟩).mono ?_
      rintro e w2 ⟨rfl, q⟩
      have H2 : Hid (Below w.heap.size w w2) := chain H1.out.2.2.2 q
      clear q
      go_wp2_with fail
      go_ret3
      exact ⟨none, 0, 0, [], [], [], 62, rfl, PolyAt.nil _, by rw [HM.out.1]; exact ⟨rfl, rfl, rfl⟩, by simp, H2.out⟩
end Go.Proofs.YtnedghhcidohnaaGreat
