/-
  Joined: PressH · PressZa.
-/
import Derived.Test.YtnedghhcidohnaaGreatJZ1
import Derived.Test.YtnedghhcidohnaaGreatPolyLL
import Derived.Test.YtnedghhcidohnaaGreatJQ1

/-! press.getEach over polynomials; press.GetList. -/
namespace Go.Proofs.YtnedghhcidohnaaGreat
open Go.RowKit

/-- The row of polynomials that is filled, so far. -/
structure LsSt (w1 wr : World) (n : Nat) (j : Nat) (lss : List (List TL)) : Prop where
  bel : Below w1.heap.size w1 wr
  row : ∃ cs : Array Value, wr.heap[w1.heap.size]? = some (.cells cs 23 (0, 0)) ∧ cs.size = n ∧ ∀ i, i < n → ∃ po pn pc ps l, cs[i]? = some (.slice po pn pc) ∧ PolyAt wr po pn pc ps l ∧ (i < j → lss[i]? = some l)
  len : lss.length = j
theorem LsSt.below {w1 wr w' : World} {n : Nat} {j : Nat} {lss : List (List TL)} (h : LsSt w1 wr n j lss) (hb : Below wr.heap.size wr w') : LsSt w1 w' n j lss := by
  obtain ⟨cs, h1, h2, h3⟩ := h.row
  exact ⟨chain h.bel hb, ⟨cs, (hb.block _ (Array.getElem?_eq_some_iff.1 h1).1).trans h1, h2, fun i hi => let ⟨po, pn, pc, ps, l, a, b, c⟩ := h3 i hi; ⟨po, pn, pc, ps, l, a, b.below hb, c⟩⟩, h.len⟩
theorem LsSt.slb {w1 wr : World} {n : Nat} {j : Nat} {lss : List (List TL)} (h : LsSt w1 wr n j lss) : SlB wr w1.heap.size := by
  obtain ⟨cs, h1, h2, h3⟩ := h.row
  refine ⟨cs, h1, fun u hu => ?_⟩
  obtain ⟨i, hi, rfl⟩ := List.mem_iff_getElem.1 hu
  obtain ⟨po, pn, pc, ps, l, a, _⟩ := h3 i (by rw [← h2]; simpa using hi)
  rw [Array.getElem?_eq_getElem (by simpa using hi)] at a
  injection a with a
  exact ⟨po, pn, pc, by rw [← a]; simp⟩
theorem LsSt.set {w1 wr : World} {n : Nat} {j : Nat} {lss : List (List TL)} (h : LsSt w1 wr n j lss) (hj : j < n) {po : Option Addr} {pn pc : Nat} {ps : List TP} {l : List TL} (hl : PolyAt wr po pn pc ps l) :
    LsSt w1 (wr.setCell ⟨w1.heap.size, j, none⟩ (.slice po pn pc)) n (j + 1) (lss ++ [l]) := by
  have hs := h.slb
  obtain ⟨cs, h1, h2, h3⟩ := h.row
  have hg := set_grown wr w1.heap.size j (.slice po pn pc)
  refine ⟨h.bel.grown hg h.bel.size (fun k hk => by cases hk; exact Nat.le_refl _), ⟨_, set_cells h1 j (.slice po pn pc), by simp [h2], fun i hi => ?_⟩, by simp [h.len]⟩
  by_cases e : i = j
  · subst e
    exact ⟨po, pn, pc, ps, l, by rw [Array.getElem?_setIfInBounds_self_of_lt (by rw [h2]; exact hi)], hl.slg hg hs, fun _ => by rw [List.getElem?_append_right (by rw [h.len]; exact Nat.le_refl _), h.len]; simp⟩
  · obtain ⟨po', pn', pc', ps', l', a, b, c⟩ := h3 i hi
    exact ⟨po', pn', pc', ps', l', by rw [Array.getElem?_setIfInBounds_ne (Ne.symm e)]; exact a, b.slg hg hs, fun hlt => by rw [List.getElem?_append_left (by rw [h.len]; omega)]; exact c (by omega)⟩
theorem LsSt.list {w1 wr : World} {n : Nat} {lss : List (List TL)} (h : LsSt w1 wr n n lss) (hn : (n : Int) ≤ 9223372036854775807) : ListAt wr (some ⟨w1.heap.size, 0, none⟩) n lss := by
  obtain ⟨cs, h1, h2, h3⟩ := h.row
  refine ⟨h.len, hn, fun i hi => ?_⟩
  obtain ⟨po, pn, pc, ps, l, a, b, c⟩ := h3 i hi
  exact ⟨_, 0, po, pn, pc, ps, l, rfl, by rw [cell_of_row wr _ _ cs 23 (0, 0) h1, Nat.zero_add]; exact a, c hi, b, (Array.getElem?_eq_some_iff.1 h1).1⟩
theorem ListAt.nil (W : World) : ListAt W none 0 [] := ⟨rfl, by omega, fun i hi => absurd hi (by omega)⟩

set_option maxHeartbeats 2000000 in
theorem getOne_b (B : Nat) (o : Int) (s : List UInt8) (res : Except Int (List TL × List UInt8)) (w : World) (h : GetIs o s res) (hs : s.length ≤ 700000) (hc : w.cell? ⟨B, 0, none⟩ = some (.int .i64 o)) :
    Calls Tryz.prog 34 #[.string (str s), .pointer (some ⟨B, 0, none⟩)] w fun e w' => ∃ (lo : Option Addr) (n cap : Nat) (qs : List TP) (ms : List TL) (R : List UInt8) (k : Int),
      e = .returned (.tuple #[.slice lo n cap, .string (str R), .int .i64 k]) ∧ PolyAt w' lo n cap qs ms ∧ Told res ms R k ∧ R.length ≤ s.length ∧ Below w.heap.size w w' := by
  have H : Hid (GetIs o s res ∧ s.length ≤ 700000) := ⟨h, hs⟩
  clear h hs
  go_enter Tryz.func34, Tryz.ntmps34
  go_wp2_with fail
  refine (get_b o s res _ H.out.1 H.out.2).mono ?_
  rintro e w1 ⟨lo, n, cap, qs, ms, R, k, rfl, q1, q2, q3, q4⟩
  have H1 : Hid (PolyAt w1 lo n cap qs ms ∧ Told res ms R k ∧ R.length ≤ s.length ∧ Below w.heap.size w w1) := ⟨q1, q2, q3, q4⟩
  clear q1 q2 q3 q4
  go_wp2_with fail
  go_ret3
  exact ⟨lo, n, cap, qs, ms, R, k, rfl, H1.out⟩

set_option maxRecDepth 100000 in
set_option maxHeartbeats 4000000 in
theorem getPolys_b (B0 : Nat) (o : Int) (s : List UInt8) (res : Except Int (List (List TL) × List UInt8)) (w : World) (h : GetLs o s res) (hs : s.length ≤ 700000) (hc : w.cell? ⟨B0, 0, none⟩ = some (.int .i64 o)) (hB0 : B0 < w.heap.size) :
    Calls Tryz.prog 33 #[.string (str s), .int .u64 24, .func (.func 34) #[] #[.pointer (some ⟨B0, 0, none⟩)]] w fun e w' => ∃ (lo : Option Addr) (n cap : Nat) (ms : List (List TL)) (R : List UInt8) (k : Int),
      e = .returned (.tuple #[.slice lo n cap, .string (str R), .int .i64 k]) ∧ ListAt w' lo n ms ∧ Told res ms R k ∧ R.length ≤ s.length ∧ Below w.heap.size w w' := by
  have H : Hid (ManyIs (GetIs o) 24 s res ∧ s.length ≤ 700000 ∧ w.cell? ⟨B0, 0, none⟩ = some (.int .i64 o) ∧ B0 < w.heap.size) := ⟨h, hs, hc, hB0⟩
  rcases hnum : numL s with k | ⟨n, b⟩
  · have hres : res = .error k := by unfold GetLs ManyIs at h; rw [hnum] at h; exact h
    have hk := numL_err hnum
    have HR : Hid (res = .error k ∧ numL s = .error k) := ⟨hres, hnum⟩
    clear h hs hres hnum hc hB0
    go_enter Tryz.func33, Tryz.ntmps33
    go_wp2_with fail
    refine (get_err s k _ HR.out.2 (by have := H.out.2.1; omega)).mono ?_
    rintro e w1 ⟨rfl, q1⟩
    have H1 : Hid (Below w.heap.size w w1) := q1
    clear q1
    go_wp2_with fail
    go_ret3
    exact ⟨none, 0, 0, [], [], k, rfl, ListAt.nil _, by rw [HR.out.1]; exact ⟨rfl, rfl, rfl⟩, by simp, H1.out⟩
  · have hfew := numL_few hnum
    by_cases hn : 24 < n
    · have hres : res = .error 62 := by unfold GetLs ManyIs at h; rw [hnum] at h; dsimp only at h; rw [if_pos hn] at h; exact h
      have hn' : (24 : Int) < (n : Int) := by omega
      have HR : Hid (res = .error 62 ∧ numL s = .ok (n, b)) := ⟨hres, hnum⟩
      clear h hs hres hnum hfew hn hc hB0
      go_enter Tryz.func33, Tryz.ntmps33
      go_wp2_with fail
      refine (get_ok s n b _ HR.out.2 (by have := H.out.2.1; omega)).mono ?_
      rintro e w1 ⟨rfl, q1⟩
      have H1 : Hid (Below w.heap.size w w1) := q1
      clear q1
      go_wp2_with fail
      go_ret3
      exact ⟨none, 0, 0, [], [], 62, rfl, ListAt.nil _, by rw [HR.out.1]; exact ⟨rfl, rfl, rfl⟩, by simp, H1.out⟩
    · have hE : EachIs (GetIs o) n b res := by unfold GetLs ManyIs at h; rw [hnum] at h; dsimp only at h; rw [if_neg hn] at h; exact h
      have hn' : ¬ (24 : Int) < (n : Int) := by omega
      have hn0 : (0 : Int) ≤ (n : Int) := by omega
      have hnn : (n : Int) ≤ 24 := by omega
      have HR : Hid (EachIs (GetIs o) n b res ∧ numL s = .ok (n, b) ∧ n ≤ 24 ∧ b.length ≤ s.length) := ⟨hE, hnum, by omega, hfew.2⟩
      have hmk := run_make_row' (P := Tryz.prog) 24 23 (.slice none 0 0) 24 Tryz.underlying24 (by kernel_rfl) rfl .u64 .u64 n (by omega) (by omega)
      clear h hs hE hnum hfew hn hc hB0
      go_enter Tryz.func33, Tryz.ntmps33
      go_wp2_with fail
      refine (get_ok s n b _ HR.out.2.1 (by have := H.out.2.1; omega)).mono ?_
      rintro e w1 ⟨rfl, q1⟩
      have H1 : Hid (Below w.heap.size w w1) := q1
      clear q1
      have S0 : Hid (LsSt w1 (w1.alloc (.cells (madeCells #[.slice none 0 0] n) 23)) n 0 []) := by
        refine ⟨bel1 _ _, ⟨_, heap_alloc_new w1 _, size_madeCells _ _, fun i hi => ⟨none, 0, 0, [], [], ?_, PolyAt.nil _, fun h => absurd h (by omega)⟩⟩, rfl⟩
        rw [← Array.getElem?_toList, toList_madeCells_one, List.getElem?_replicate, if_pos hi]
      generalize madeCells #[.slice none 0 0] n = Z at hmk S0
      go_wp2_with fail
      clear hmk
      go_loopg [10, 11, 30] n (fun m s10 s11 s30 wr => ∃ (j : Nat) (ms : List (List TL)) (B : List UInt8), j ≤ n ∧ n - j ≤ m ∧ s30 = .int .i64 j ∧ s10 = .string (str B) ∧ s11 = .int .i64 0 ∧ Hid (LsSt w1 wr n j ms ∧ Upto (GetIs o) n res j ms B ∧ B.length ≤ s.length))
      case atStart => exact ⟨0, [], b, Nat.zero_le _, by omega, rfl, rfl, rfl, S0.out, Upto.start HR.out.1, HR.out.2.2.2⟩
      case round =>
        obtain ⟨j, ms, B, hj, hjr, rfl, rfl, rfl, hT⟩ := hrel
        by_cases h0 : j < n
        · have hjn : (j : Int) < (n : Int) := by omega
          have hj0 : (0 : Int) ≤ (j : Int) := by omega
          obtain ⟨r, hr, he, ho⟩ := hT.out.2.1.step h0
          have HJ : Hid (j < n ∧ n - j ≤ _ ∧ GetIs o B r ∧ (∀ e, r = .error e → res = .error e) ∧ (∀ x c, r = .ok (x, c) → Upto (GetIs o) n res (j + 1) (ms ++ [x]) c)) := ⟨h0, hjr, hr, he, ho⟩
          clear hj hjr h0 hr he ho
          go_wp2_with fail
          refine (getOne_b B0 o B r _ HJ.out.2.2.1 (by have := hT.out.2.2; have := H.out.2.1; omega) (((chain H1.out hT.out.1.bel).cell (p := ⟨B0, 0, none⟩) H.out.2.2.2).trans H.out.2.2.1)).mono ?_
          rintro e w3 ⟨lo3, n3, cap3, qs3, t, R, k, rfl, q1, q2, q5, q3⟩
          have T3 := hT.out.1.below q3
          obtain ⟨cs, k1, k2, k3⟩ := T3.row
          obtain ⟨a1, a2, a3, a4, a5, k4, _⟩ := k3 j HJ.out.1
          have zc : w3.cell? ⟨w1.heap.size, j, none⟩ = some (.slice a1 a2 a3) := by rw [cell_of_row w3 _ _ cs 23 (0, 0) k1]; exact k4
          have zf : w3.frozen? ⟨w1.heap.size, j, none⟩ = false := by simp [World.frozen?, k1]
          have H3 : Hid (Told r t R k ∧ LsSt w1 (w3.setCell ⟨w1.heap.size, j, none⟩ (.slice lo3 n3 cap3)) n (j + 1) (ms ++ [t]) ∧ R.length ≤ s.length) := ⟨q2, T3.set HJ.out.1 q1, Nat.le_trans q5 hT.out.2.2⟩
          clear q1 q2 q3 q5 T3 k1 k2 k3 k4
          rcases r with e | ⟨x, c⟩
          · obtain ⟨rfl, rfl, rfl⟩ := H3.out.1
            have hk := HJ.out.2.2.1.err
            have HE : Hid (res = .error k ∧ Below w.heap.size w (w3.setCell ⟨w1.heap.size, j, none⟩ (.slice lo3 n3 cap3))) := ⟨HJ.out.2.2.2.1 k rfl, chain H1.out H3.out.2.1.bel⟩
            clear H3 HJ
            go_wp2_with fail
            go_ret3
            exact ⟨none, 0, 0, [], [], k, rfl, ListAt.nil _, by rw [HE.out.1]; exact ⟨rfl, rfl, rfl⟩, by simp, HE.out.2⟩
          · obtain ⟨rfl, rfl, rfl⟩ := H3.out.1
            have HN : Hid (LsSt w1 (w3.setCell ⟨w1.heap.size, j, none⟩ (.slice lo3 n3 cap3)) n (j + 1) (ms ++ [t]) ∧ Upto (GetIs o) n res (j + 1) (ms ++ [t]) R ∧ R.length ≤ s.length) := ⟨H3.out.2.1, HJ.out.2.2.2.2 t R rfl, H3.out.2.2⟩
            clear H3
            go_wp2_with fail
            go_roundg (n - (j + 1))
            case measure => have := HJ.out.1; have := HJ.out.2.1; omega
            case rel => exact ⟨j + 1, _, R, by have := HJ.out.1; omega, Nat.le_refl _, by go_num, rfl, rfl, HN.out⟩
        · have hjn : j = n := by omega
          subst hjn
          have HF : Hid (ListAt wr (some ⟨w1.heap.size, 0, none⟩) j ms ∧ res = .ok (ms, B) ∧ B.length ≤ s.length ∧ Below w.heap.size w wr) := ⟨hT.out.1.list (by omega), hT.out.2.1.last, hT.out.2.2, chain H1.out hT.out.1.bel⟩
          clear hT hj hjr h0
          go_wp2_with fail
          go_ret3
          exact ⟨_, j, j, ms, B, 0, rfl, HF.out.1, by rw [HF.out.2.1]; exact ⟨rfl, rfl, rfl⟩, HF.out.2.2.1, HF.out.2.2.2⟩

set_option maxRecDepth 100000 in
set_option maxHeartbeats 4000000 in
theorem getList_b (o : Int) (s : List UInt8) (res : Except Int (List (List TL) × List UInt8)) (w : World) (h : GetLs o s res) (hs : s.length ≤ 700000) :
    Calls Tryz.prog 16 #[.int .i64 o, .string (str s)] w fun e w' => ∃ (lo : Option Addr) (n cap : Nat) (ms : List (List TL)) (R : List UInt8) (k : Int),
      e = .returned (.tuple #[.slice lo n cap, .string (str R), .int .i64 k]) ∧ ListAt w' lo n ms ∧ Told res ms R k ∧ R.length ≤ s.length ∧ Below w.heap.size w w' := by
  have H : Hid (GetLs o s res ∧ s.length ≤ 700000 ∧ (w.alloc (.cells #[.int .i64 o] 3)).cell? ⟨w.heap.size, 0, none⟩ = some (.int .i64 o) ∧ w.heap.size < (w.alloc (.cells #[.int .i64 o] 3)).heap.size ∧ Below w.heap.size w (w.alloc (.cells #[.int .i64 o] 3))) :=
    ⟨h, hs, cell_one w _ 3, by rw [World.size_alloc]; exact Nat.lt_succ_self _, bel1 _ _⟩
  clear h hs
  have hmf : ∀ (fn : Fn) (first cap : Array Value) (w : World), (Instr.makeFunc fn first cap).run Tryz.prog w = .ok (.func fn first cap) w := fun _ _ _ _ => rfl
  go_enter Tryz.func16, Tryz.ntmps16
  go_wp2_with fail
  refine (getPolys_b w.heap.size o s res _ H.out.1 H.out.2.1 H.out.2.2.1 H.out.2.2.2.1).mono ?_
  rintro e w1 ⟨lo, n, cap, ms, R, k, rfl, q1, q2, q3, q4⟩
  have H1 : Hid (ListAt w1 lo n ms ∧ Told res ms R k ∧ R.length ≤ s.length ∧ Below w.heap.size w w1) := ⟨q1, q2, q3, chain H.out.2.2.2.2 q4⟩
  clear q1 q2 q3 q4
  go_wp2_with fail
  go_ret3
  exact ⟨lo, n, cap, ms, R, k, rfl, H1.out⟩
end Go.Proofs.YtnedghhcidohnaaGreat

/-! What is got has just those bytes: no program. -/
namespace Go.Proofs.YtnedghhcidohnaaGreat
open Go.RowKit

theorem eb_byte (b : UInt8) : eb (b.toNat : Int) = b := by simp [eb]
theorem four_bytes : ∀ (b : List UInt8), ¬ b.length < 4 → [b.getD 0 0, b.getD 1 0, b.getD 2 0, b.getD 3 0] ++ b.drop 4 = b
  | [], h => absurd (by simp) h
  | [_], h => absurd (by simp) h
  | [_, _], h => absurd (by simp) h
  | [_, _, _], h => absurd (by simp) h
  | _ :: _ :: _ :: _ :: _, _ => rfl
theorem TmIs.one {s : List UInt8} {t : TL} {r : List UInt8} (h : TmIs s (.ok (t, r))) : putTm t ++ r = s := by
  obtain ⟨res, h1, h2⟩ := h
  rcases res with e | ⟨q, b⟩
  · cases h2
  · unfold TmAft at h2
    dsimp only at h2
    by_cases h4 : b.length < 4
    · rw [if_pos h4] at h2; cases h2
    · rw [if_neg h4] at h2
      injection h2 with h2
      injection h2 with h2 h3
      have h5 := h1.one.1
      rw [h2, h3]
      simp only [putTm, eb_byte]
      rw [List.append_assoc, four_bytes b h4]
      exact h5
theorem EachIs.one {A : Type} {one : List UInt8 → Except Int (A × List UInt8) → Prop} {f : A → List UInt8} {P : A → Prop} (h1 : ∀ s x r, one s (.ok (x, r)) → f x ++ r = s ∧ P x) : ∀ (n : Nat) (s : List UInt8) (l : List A) (r : List UInt8), EachIs one n s (.ok (l, r)) → l.length = n ∧ l.flatMap f ++ r = s ∧ ∀ x ∈ l, P x
  | 0, s, l, r, h => by
    have h : Except.ok (l, r) = Except.ok ([], s) := h
    injection h with h
    injection h with h2 h3
    subst h2 h3
    exact ⟨rfl, rfl, fun x hx => by cases hx⟩
  | n + 1, s, l, r, h => by
    obtain ⟨q, h2, h3⟩ := h
    rcases q with e | ⟨x, b⟩
    · cases h3
    · obtain ⟨r2, h4, h5⟩ := h3
      rcases r2 with e | ⟨m, c⟩
      · cases h5
      · have h5 : Except.ok (l, r) = Except.ok (x :: m, c) := h5
        injection h5 with h5
        injection h5 with h6 h7
        subst h6 h7
        have h8 := EachIs.one h1 n b m r h4
        have h9 := h1 _ _ _ h2
        refine ⟨by simp [h8.1], ?_, fun y hy => ?_⟩
        · rw [List.flatMap_cons, List.append_assoc, h8.2.1]; exact h9.1
        · rcases List.mem_cons.1 hy with rfl | hy
          · exact h9.2
          · exact h8.2.2 y hy
theorem ManyIs.one {A : Type} {one : List UInt8 → Except Int (A × List UInt8) → Prop} {f : A → List UInt8} {P : A → Prop} {most : Nat} (h1 : ∀ s x r, one s (.ok (x, r)) → f x ++ r = s ∧ P x) {s : List UInt8} {l : List A} {r : List UInt8} (h : ManyIs one most s (.ok (l, r))) : putL l.length ++ l.flatMap f ++ r = s ∧ l.length ≤ most ∧ ∀ x ∈ l, P x := by
  unfold ManyIs at h
  rcases hn : numL s with e | ⟨n, b⟩
  · rw [hn] at h; cases h
  · rw [hn] at h
    dsimp only at h
    by_cases hm : most < n
    · rw [if_pos hm] at h; cases h
    · rw [if_neg hm] at h
      have h2 := EachIs.one h1 n b l r h
      have h3 := numL_one s n b hn
      refine ⟨?_, by omega, h2.2.2⟩
      rw [List.append_assoc, h2.2.1, h2.1]
      exact h3
theorem GetIs.one {o : Int} {s : List UInt8} {p : List TL} {r : List UInt8} (h : GetIs o s (.ok (p, r))) : putPs p ++ r = s ∧ MayP o p := by
  obtain ⟨q, h1, h2⟩ := h
  rcases q with e | ⟨l, c⟩
  · cases h2
  · have h2' : (MayP o l → Except.ok (p, r) = Except.ok (l, c)) ∧ (¬ MayP o l → (Except.ok (p, r) : Except Int (List TL × List UInt8)) = .error 62) := h2
    rcases Classical.em (MayP o l) with hm | hm
    · have h3 := h2'.1 hm
      injection h3 with h3
      injection h3 with h4 h5
      subst h4 h5
      exact ⟨(ManyIs.one (f := putTm) (P := fun _ => True) (fun _ _ _ h => ⟨h.one, trivial⟩) h1).1, hm⟩
    · cases h2'.2 hm
theorem GetLs.one {o : Int} {s : List UInt8} {l : List (List TL)} {r : List UInt8} (h : GetLs o s (.ok (l, r))) : putL l.length ++ l.flatMap putPs ++ r = s ∧ l.length ≤ 24 ∧ ∀ p ∈ l, MayP o p :=
  ManyIs.one (f := putPs) (P := MayP o) (fun _ _ _ h => h.one) h
theorem MayP.a {o : Int} {p : List TL} (h : MayP o p) : MayA p := by
  have h1 := h.ord.lo
  have h2 := h.ord.hi
  have : o = 0 ∨ o = 1 ∨ o = 2 := by omega
  rcases this with rfl | rfl | rfl
  · exact .inl h
  · exact .inr (.inl h)
  · exact .inr (.inr h)

end Go.Proofs.YtnedghhcidohnaaGreat
