/-
  octet.PutNat.
-/
import Derived.Test.YtmmbgfbliekkgaaOctJ
namespace Go.Proofs.Ytmmbgfbliekkgaa
open Go.RowKit Go.Shelf

attribute [local go_sem] Oper.semAt_some

/-- Limbs as bytes, one behind the other. -/
def limbB (l : List Int) : List UInt8 := (l.map fun x => lowB x.toNat 8).flatten
/-- A natural as bytes. -/
def putN (xs : List Int) : List UInt8 := putL xs.length ++ limbB xs.reverse

theorem limbB_snoc (l : List Int) (x : Int) : limbB (l ++ [x]) = limbB l ++ lowB x.toNat 8 := by simp [limbB]
theorem limbB_length (l : List Int) : (limbB l).length = 8 * l.length := by
  induction l with
  | nil => rfl
  | cons x l ih =>
    have : limbB (x :: l) = lowB x.toNat 8 ++ limbB l := by simp [limbB]
    rw [this, List.length_append, lowB_length, ih, List.length_cons]
    omega

theorem bx_other {W : World} {B C : Nat} {t : TypeId} {v u : Value} (h : Boxed W B t v) (hBC : B ≠ C) : Boxed (W.setCell ⟨C, 0, none⟩ u) B t v := (Below.heap_setCell W ⟨C, 0, none⟩ u B hBC).trans h
theorem ob_other {W : World} {base g n cap C : Nat} {xs : List UInt8} {u : Value} (h : OwnB W base g n cap xs) (hBC : g ≠ C) : OwnB (W.setCell ⟨C, 0, none⟩ u) base g n cap xs := h.block (Below.heap_setCell W ⟨C, 0, none⟩ u g hBC)

/-- What lies there while limbs are put. -/
structure PN (w : World) (B : Nat) (S : List UInt8) (pre : List Placed) (W : World) : Prop where
  row : ∃ g N c, Boxed W (B + 1) 53 (.slice (some ⟨g, 0, none⟩) N c) ∧ OwnB W w.heap.size g N c (S ++ limbB (pre.map fun x => x.2.1)) ∧ (g = B ∨ B + 3 ≤ g)
  bel : Below w.heap.size w W
  room : B + 3 ≤ W.heap.size

theorem pn_own (w : World) (B : Nat) (S : List UInt8) (H : Nat) (hH : w.heap.size ≤ H) : OwnFrom H (PN w B S) := by
  intro pre X Y row h hg hr
  obtain ⟨g, N, c, h1, h2, h3⟩ := h.row
  have hne : ∀ k o, X.heap[k]? = some o → o.isCells = true → some k ≠ row := fun k o hk ho e => by
    obtain ⟨_, o', ho', hc'⟩ := hr k e.symm
    rw [hk] at ho'
    cases ho'
    rw [ho] at hc'
    cases hc'
  refine ⟨⟨g, N, c, h1.kept hg (hne _ _ h1 rfl), ?_, h3⟩, h.bel.grown hg h.bel.size (fun k e => Nat.le_trans hH (hr k e).1), Nat.le_trans h.room hg.size⟩
  obtain ⟨a1, a2, a3, a4, cur, fz, hgg, a5⟩ := h2
  exact OwnB.block ⟨a1, a2, a3, a4, cur, fz, hgg, a5⟩ (hg.block g (Array.getElem?_eq_some_iff.1 hgg).1 (hne g _ hgg rfl))

theorem own_bytes (w : World) (s : List UInt8) (hs : s.length ≤ 100000) (base : Nat) (hb : base ≤ w.heap.size) : OwnB (Lib.bytesWorld w 5 (str s)) base w.heap.size s.length (grownCap w s.length 0 5) s := by
  have hge := grownCap_ge w s.length 0 5
  have hcm : grownCap w s.length 0 5 ≤ maxLen := grownCap_le_maxLen w s.length 0 5 (by unfold maxLen; omega)
  have hsz : (Lib.bytesCells w 5 (str s)).size = grownCap w s.length 0 5 := by
    unfold Lib.bytesCells
    rw [str_size]
    simp [str]
    omega
  refine ⟨rfl, hb, hge, hcm, _, _, Lib.bytesWorld_at_new w 5 (str s), hsz, .inr (by rw [hsz]; exact Nat.le_refl _), ?_⟩
  unfold Lib.bytesCells
  simp only [Array.toList_append, str]
  rw [List.take_append_of_le_length (by simp)]
  simp
  rw [List.take_of_length_le (by simp)]
  rfl

set_option maxHeartbeats 1000000 in
theorem putNat_bad (ao : Option Addr) (n cap : Nat) (xs : List Int) (w : World) (h : RowAt w ao n cap xs) (hm : ¬ May xs) :
    Calls Try.prog 11 #[.slice ao n cap] w fun e w' => e = .returned (.tuple #[.string (str []), .int .i64 1]) ∧ Below w.heap.size w w' := by
  have H : Hid (RowAt w ao n cap xs ∧ ¬ May xs) := ⟨h, hm⟩
  clear h hm
  go_enter Try.func11, Try.ntmps11
  go_wp2_with fail
  refine (may_val _ _ _ _ _ H.out.1 false ⟨(fun e => by cases e), fun e => absurd e H.out.2⟩).mono ?_
  rintro e w1 ⟨rfl, rfl⟩
  go_wp2_with fail
  go_ret2
  exact ⟨rfl, Below.refl _ _⟩

set_option maxRecDepth 100000 in
set_option maxHeartbeats 4000000 in
theorem putNat_in (ao : Option Addr) (n cap : Nat) (xs : List Int) (w : World) (h : RowAt w ao n cap xs) (hm : May xs) :
    CallsIn Fence.wide 4 Try.prog 11 #[.slice ao n cap] w fun e w' => e = .returned (.tuple #[.string (str (putN xs)), .int .i64 0]) ∧ Below w.heap.size w w' := by
  have hlen := h.len
  have h8 : n ≤ 8 := by have := hm.1; omega
  have h8' : (n : Int) ≤ 8 := by omega
  have HA : Hid (RowAt w ao n cap xs ∧ May xs ∧ xs.length = n) := ⟨h, hm, hlen⟩
  obtain ⟨S, hS⟩ : ∃ S, S = putL n := ⟨_, rfl⟩
  have HS : Hid (S = putL n) := hS
  clear h hm hlen hS
  refine callsIn_of_wp_marks Try.func11 rfl trivial ?_ rfl
  simp only [Try.ntmps11, List.size_toArray, List.length_cons, List.length_nil, Nat.reduceAdd, Nat.reduceSub, Array.replicate_succ, Array.replicate_zero, List.push_toArray, List.append_toArray, List.nil_append, List.cons_append]
  gi_wp2_with fail
  refine ⟨trivial, ?_⟩
  refine (callsIn_wide.2 (may_val _ _ _ _ _ HA.out.1 true ⟨fun _ => HA.out.2.1, fun _ => rfl⟩)).mono ?_
  rintro e w0 ⟨rfl, rfl⟩
  gi_wp2_with fail
  refine ⟨trivial, ?_⟩
  refine (callsIn_wide.2 (put_s (n : Int) _ (by omega) (by unfold BB; omega))).mono ?_
  rw [Int.toNat_natCast, ← HS.out]
  rintro e w1 ⟨rfl, b1⟩
  have hS9 : S.length ≤ 9 := by
    rw [HS.out, putL_length]
    have := cntB_le n (by omega)
    omega
  have hcv := Lib.run_convert_string_bytes (P := Try.prog) w1 9 53 5 (str S) (u := .string) (by kernel_rfl) (by kernel_rfl) (by kernel_rfl)
  have hown := own_bytes w1 S (by omega) w.heap.size b1.size
  have hbel := below_bytes w1 5 (str S)
  have hsz := Lib.bytesWorld_size w1 5 (str S)
  rw [str_size] at hcv
  generalize Lib.bytesWorld w1 5 (str S) = W1 at hcv hown hbel hsz
  generalize grownCap w1 S.length 0 5 = cp at hcv hown
  have HW : Hid (OwnB W1 w.heap.size w1.heap.size S.length cp S ∧ Below w.heap.size w W1 ∧ w.heap.size ≤ w1.heap.size) := ⟨hown, chain b1 hbel, b1.size⟩
  clear hown hbel b1
  gi_wp2_with fail
  refine ⟨trivial, ?_⟩
  refine (callsIn_wide.2 (back_any _ _ _ _)).mono ?_
  rintro e w2 ⟨rfl, rfl⟩
  gi_wp2_with fail
  obtain ⟨B, hB⟩ : ∃ B, B = w1.heap.size := ⟨_, rfl⟩
  obtain ⟨W0, hW0⟩ : ∃ W0, (W1.alloc (Obj.cells #[Value.slice (some ⟨w1.heap.size, 0, none⟩) S.length cp] 53)).alloc (Obj.cells #[Value.slice ao n cap] 24) = W0 := ⟨_, rfl⟩
  have hF0 : W0.heap.size = w1.heap.size + 3 ∧ Boxed W0 (w1.heap.size + 1) 53 (.slice (some ⟨w1.heap.size, 0, none⟩) S.length cp) ∧ Boxed W0 (w1.heap.size + 2) 24 (.slice ao n cap) ∧ OwnB W0 w.heap.size w1.heap.size S.length cp S ∧ Below w.heap.size w W0 := by
    have a1 := (Boxed.new W1 53 (.slice (some ⟨w1.heap.size, 0, none⟩) S.length cp)).alloc (Obj.cells #[Value.slice ao n cap] 24)
    have a2 := Boxed.new (W1.alloc (Obj.cells #[Value.slice (some ⟨w1.heap.size, 0, none⟩) S.length cp] 53)) 24 (.slice ao n cap)
    rw [World.size_alloc, hsz] at a2
    rw [hsz] at a1
    rw [hW0] at a1 a2
    refine ⟨by rw [← hW0]; simp [hsz], a1, a2, by rw [← hW0]; exact (HW.out.1.alloc _).alloc _, ?_⟩
    rw [← hW0]
    exact (HW.out.2.1.alloc HW.out.2.1.size _).alloc (by simp; have := HW.out.2.1.size; omega) _
  rw [hW0]
  clear hW0 hcv hsz
  rw [← hB] at hF0 ⊢
  have hwB : w.heap.size ≤ B := by rw [hB]; exact HW.out.2.2
  clear hB HW
  obtain ⟨f0, f1, f2, f3, f4⟩ := hF0
  have hbel : ∀ p, ao = some p → xs ≠ [] → p.block < w.heap.size := fun p hp hne => by
    obtain ⟨b', off', e', hlt, _⟩ := HA.out.1.cells hne
    rw [hp] at e'
    cases e'
    exact hlt
  have hStops := back_stops 3 (B + 2) w.heap.size ao n cap xs HA.out.1.limbs (by have := HA.out.2.2; omega) W0 (by omega) f2.cell (HA.out.1.below f4) hbel
  have HSt : Hid _ := hStops
  have HF : Hid (Boxed W0 (B + 1) 53 (.slice (some ⟨B, 0, none⟩) S.length cp) ∧ OwnB W0 w.heap.size B S.length cp S ∧ Below w.heap.size w W0) := ⟨f1, f3, f4⟩
  clear hStops f1 f2 f3 f4 hbel
  refine wpIn_rangeFunc_ownG rfl (by omega) (gf := 49) (lb := #[.pointer (some ⟨B + 1 + 1, 0, none⟩)]) rfl trivial (enters_of Try.func49 (by kernel_rfl) rfl)
    HSt.out (fun h k => h.trans k) (keepsB_b (by omega) (by omega)) (Below.refl _ _) (fun _ => rfl)
    (PN w B S) (fun _ _ _ => False) (pn_own w B S _ (by omega)) (fun _ _ _ _ _ hs _ _ => hs)
    ⟨⟨B, S.length, cp, HF.out.1, by simpa [limbB] using HF.out.2.1, .inl rfl⟩, HF.out.2.2, by omega⟩
    (fun x => { tmps := #[.slice ao n cap, undef, .string { data := #[] }, .int .i64 0, .pointer (some ⟨B + 1, 0, none⟩), undef, .int .u64 x.2.1, .slice ao n cap, .bool true, .bool false, .slice ao n cap, .int .i64 n, .int .u64 n, .string (str S), .slice (some ⟨B, 0, none⟩) S.length cp, .slice ao n cap, .func (.func 49) #[] #[.pointer (some ⟨B + 1 + 1, 0, none⟩)], .int .i64 x.1, .int .u64 x.2.1, undef, undef, undef, undef, undef], defers := [] }) ?assign ?body ?done ?stop
  case assign =>
    intro l x W K hK
    gi_wp2
    exact hK
  case body =>
    rintro r pre x W hI hlt
    obtain ⟨g, N, c, i1, i2, i3⟩ := hI.row
    have hN : N = S.length + 8 * pre.length := by
      have := i2.1
      rw [List.length_append, limbB_length, List.length_map] at this
      exact this.symm
    have c1 : W.cell? ⟨B + 1, 0, none⟩ = some (.slice (some ⟨g, 0, none⟩) N c) := i1.cell
    have HI : Hid (PN w B S pre W ∧ Boxed W (B + 1) 53 (.slice (some ⟨g, 0, none⟩) N c) ∧ OwnB W w.heap.size g N c (S ++ limbB (pre.map fun x => x.2.1)) ∧ (g = B ∨ B + 3 ≤ g) ∧ N ≤ 1000) := ⟨hI, i1, i2, i3, by have := HA.out.2.2; omega⟩
    obtain ⟨d, hd⟩ : ∃ d, d = x.2.1 := ⟨_, rfl⟩
    have HD : Hid (d = x.2.1 ∧ 0 ≤ d ∧ d < BB) := ⟨hd, by rw [hd]; exact x.2.2.1, by rw [hd]; exact x.2.2.2⟩
    rw [← hd]
    clear hI i1 i2 i3 hN hd HSt HF
    gi_wp2_with fail
    refine ⟨trivial, ?_⟩
    refine (CallsIn.inRound r (callsIn_wide.2 (low_any w.heap.size g N c _ d 8 W HD.out.2.1 HD.out.2.2 (Nat.le_refl _) HI.out.2.2.2.2 HI.out.2.2.1 HI.out.1.bel.size))).mono ?_
    rintro e w1' ⟨g', c', rfl, hown, hgr, hkin⟩
    have hroom := HI.out.1.room
    have hgB : g ≠ B + 1 ∧ g ≠ B + 2 := by rcases HI.out.2.2.2.1 with e | e <;> omega
    have hg1 : g' = B ∨ B + 3 ≤ g' := by
      rcases hkin with e | e
      · rw [e]; exact HI.out.2.2.2.1
      · right; omega
    have hgB' : g' ≠ B + 1 := by rcases hg1 with e | e <;> omega
    have bT : Boxed w1' (B + 1) 53 (.slice (some ⟨g, 0, none⟩) N c) := HI.out.2.1.kept hgr (by intro e; cases e; exact hgB.1 rfl)
    have cT := bT.cell
    have fT := bT.frozen
    have hlow := HI.out.2.2.1.lt.1
    have hk : KeepsOthers W w1' := KeepsOthers.of_grownBy hgr (fun j o ej hj => by
      cases ej
      obtain ⟨_, _, _, _, cur, fz, hgg, _⟩ := HI.out.2.2.1
      rw [hgg] at hj
      cases hj
      rfl)
    have hb1 : Below w.heap.size W w1' := (Below.refl _ _).grown hgr HI.out.1.bel.size (fun j hj => by cases hj; exact hlow)
    have hpn : PN w B S (pre ++ [x]) (w1'.setCell ⟨B + 1, 0, none⟩ (.slice (some ⟨g', 0, none⟩) (N + 8) c')) := by
      refine ⟨⟨g', N + 8, c', bT.set _, ?_, hg1⟩, (HI.out.1.bel.trans hb1).setCell (by show w.heap.size ≤ B + 1; omega) _, Nat.le_trans hroom (Nat.le_trans hgr.size (KeepsWalks.setCell w1' _ _).size)⟩
      refine ob_other ?_ hgB'
      rw [List.map_append, List.map_cons, List.map_nil, limbB_snoc, ← List.append_assoc, ← HD.out.1]
      exact hown
    have hkb : KeepsB w.heap.size (B + 2) W (w1'.setCell ⟨B + 1, 0, none⟩ (.slice (some ⟨g', 0, none⟩) (N + 8) c')) :=
      ⟨hb1.setCell (by show w.heap.size ≤ B + 1; omega) _, (Below.heap_setCell w1' ⟨B + 1, 0, none⟩ _ (B + 2) (by show B + 2 ≠ B + 1; omega)).trans (hgr.block _ (by omega) (by intro e; cases e; exact hgB.2 rfl))⟩
    have HR : Hid (KeepsFrom W0.heap.size W (w1'.setCell ⟨B + 1, 0, none⟩ (.slice (some ⟨g', 0, none⟩) (N + 8) c')) ∧ KeepsB w.heap.size (B + 2) W (w1'.setCell ⟨B + 1, 0, none⟩ (.slice (some ⟨g', 0, none⟩) (N + 8) c')) ∧ PN w B S (pre ++ [x]) (w1'.setCell ⟨B + 1, 0, none⟩ (.slice (some ⟨g', 0, none⟩) (N + 8) c'))) := ⟨(hk.trans (KeepsOthers.setCell _ _ _)).from _, hkb, hpn⟩
    clear hroom hgB hg1 hgB' bT hlow hk hb1 hpn hkb hown hgr hkin HD HI c1
    gi_wp2
    exact HR.out
  case done =>
    rintro D ys W hD hSs hI hK
    obtain ⟨g, N, c, i1, i2, i3⟩ := hI.row
    rw [hSs] at i2
    have hcv := i2.string (P := Try.prog) 53 9 (by kernel_rfl) (by kernel_rfl) (by kernel_rfl)
    have c1 := i1.cell
    have HV : Hid (W.heap[D]? = some (.deferred (some [])) ∧ Below w.heap.size w W ∧ w.heap.size ≤ D ∧ S ++ limbB xs.reverse = putN xs) := ⟨hK, hI.bel, by omega, by rw [HS.out, ← HA.out.2.2]; rfl⟩
    clear hI i1 i2 i3 hK hSs HF HSt
    gi_wp2
    refine ⟨by simp, .inl ⟨_, _, rfl, run_takeDeferred HV.out.1, ?_⟩⟩
    exact ⟨_, results_tmp2 rfl _ _ _, by rw [← HV.out.2.2.2]; rfl, HV.out.2.1.trans (belowK_b (w := w) (Nat.le_refl _) W D _ _ HV.out.2.2.1 HV.out.1 rfl rfl)⟩
  case stop =>
    rintro D c pre W _ _ h _
    exact h.elim

theorem putNat_ok (ao : Option Addr) (n cap : Nat) (xs : List Int) (w : World) (h : RowAt w ao n cap xs) (hm : May xs) :
    Calls Try.prog 11 #[.slice ao n cap] w fun e w' => e = .returned (.tuple #[.string (str (putN xs)), .int .i64 0]) ∧ Below w.heap.size w w' := callsIn_wide.1 (putNat_in ao n cap xs w h hm)
end Go.Proofs.Ytmmbgfbliekkgaa
