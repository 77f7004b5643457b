/-
  Joined: PolyLL · PolyMM · PolyOO.
-/
import Derived.Test.YtbdldijgcmgfaaaGreatJW1
import Derived.Test.YtbdldijgcmgfaaaGreatJV1

/-! A row of polynomials, filled in place. -/
namespace Go.Proofs.YtbdldijgcmgfaaaGreat
open Go.RowKit

/-- A block of slices. -/
def SlB (w : World) (g : Nat) : Prop := ∃ cs : Array Value, w.heap[g]? = some (.cells cs 23 (0, 0)) ∧ ∀ u ∈ cs.toList, ∃ a b c, u = .slice a b c
theorem SlB.clean {w : World} {g : Nat} (h : SlB w g) : CleanB w 23 g := by
  obtain ⟨cs, h1, h2⟩ := h
  exact ⟨cs, (0, 0), h1, fun u hu z => by obtain ⟨a, b, c, rfl⟩ := h2 u hu; simp⟩
theorem PolyAt.slg {w w' : World} {g : Nat} {lo : Option Addr} {n cap : Nat} {ps : List TP} {ls : List TL} (h : PolyAt w lo n cap ps ls) (hg : w.grownBy w' (some g)) (hs : SlB w g) : PolyAt w' lo n cap ps ls := by
  have hcl : ∀ k, some g = some k → CleanB w 23 k := fun k hk => by cases hk; exact hs.clean
  obtain ⟨b, off, h1, h2⟩ := h.at'
  refine ⟨h.num, h.fits, h.most, h.bare, b, off, h1, h2.len, fun hp => Nat.lt_of_lt_of_le (h2.lt hp) hg.size, fun i p hp j v hv => ?_, fun i p t hp ht => (h2.each i p t hp ht).grown hg hcl⟩
  have hlt : b < w.heap.size := h2.lt (by have := (List.getElem?_eq_some_iff.1 hp).1; omega)
  have hc := h2.cells i p hp
  have hne : some b ≠ some g := by
    intro e
    injection e with e
    subst e
    obtain ⟨cs, g1, g2⟩ := hs
    have h0 := hc 0 (.bool p.neg) rfl
    rw [cell_of_row w b _ cs 23 (0, 0) g1] at h0
    obtain ⟨a, x, y, e⟩ := g2 _ (by simpa using Array.mem_of_getElem? h0)
    cases e
  exact (World.cell?_of_block (a := ⟨b, off + i * 7 + j, none⟩) (hg.block b hlt hne)).trans (hc j v hv)

theorem TimesL.len {t : TL} : ∀ {p out : List TL} {k : Int}, TimesL t p out k → out.length ≤ p.length
  | [], _, _, h => by rw [h.1]; simp
  | x :: p, out, k, h => by
    obtain ⟨c, j, h1, h2, h3⟩ := h
    by_cases e : j = 0
    · obtain ⟨m, i, a1, a2, a3⟩ := h3 e
      by_cases f : i = 0
      · obtain ⟨r, c1, c2, c3⟩ := a3 f
        have := TimesL.len c1
        by_cases z : k = 0
        · rw [c3 z]; simpa using this
        · rw [c2 z]; simp
      · rw [(a2 f).1]; simp
    · rw [(h2 e).1]; simp
theorem TimT.len {t : TL} {p out : List TL} {k : Int} (h : TimT p t out k) : out.length ≤ p.length := by
  by_cases e : t.c.top = 0
  · rw [(h.zero e).1]; simp
  · exact (h.all e).len

/-- The rows so far. -/
structure MuSt (w1 wr : World) (n : Nat) (p q : List TL) (j : Nat) (lss : List (List TL)) : Prop where
  bel : Below w1.heap.size w1 wr
  row : ∃ cs : Array Value, wr.heap[w1.heap.size]? = some (.cells cs 23 (0, 0)) ∧ cs.size = n ∧ ∀ i, i < n → ∃ po pn pc ps l, cs[i]? = some (.slice po pn pc) ∧ PolyAt wr po pn pc ps l ∧ (i < j → lss[i]? = some l)
  len : lss.length = j
  small : lss.flatten.length ≤ j * p.length
  may : ∀ s ∈ lss.flatten, MayT s
  ok : ∀ rest k, ManyL p (q.drop j) rest k → (k ≠ 0 → rest = []) → ManyL p q (if k = 0 then lss.flatten ++ rest else []) k

theorem MuSt.below {w1 wr w' : World} {n : Nat} {p q : List TL} {j : Nat} {lss : List (List TL)} (h : MuSt w1 wr n p q j lss) (hb : Below wr.heap.size wr w') : MuSt w1 w' n p q j lss := by
  obtain ⟨cs, h1, h2, h3⟩ := h.row
  exact ⟨chain h.bel hb, ⟨cs, (hb.block _ (Array.getElem?_eq_some_iff.1 h1).1).trans h1, h2, fun i hi => let ⟨po, pn, pc, ps, l, a, b, c⟩ := h3 i hi; ⟨po, pn, pc, ps, l, a, b.below hb, c⟩⟩, h.len, h.small, h.may, h.ok⟩
theorem MuSt.slb {w1 wr : World} {n : Nat} {p q : List TL} {j : Nat} {lss : List (List TL)} (h : MuSt w1 wr n p q j lss) : SlB wr w1.heap.size := by
  obtain ⟨cs, h1, h2, h3⟩ := h.row
  refine ⟨cs, h1, fun u hu => ?_⟩
  obtain ⟨i, hi, rfl⟩ := List.mem_iff_getElem.1 hu
  obtain ⟨po, pn, pc, ps, l, a, _⟩ := h3 i (by rw [← h2]; simpa using hi)
  rw [Array.getElem?_eq_getElem (by simpa using hi)] at a
  injection a with a
  exact ⟨po, pn, pc, by rw [← a]; simp⟩
theorem set_grown (W : World) (B k : Nat) (v : Value) : W.grownBy (W.setCell ⟨B, k, none⟩ v) (some B) :=
  ⟨rfl, rfl, rfl, by simp [World.setCell], fun j hj hne => Below.heap_setCell W ⟨B, k, none⟩ v j (fun e => hne (by rw [e]))⟩
theorem MuSt.set {w1 wr : World} {n : Nat} {p q : List TL} {j : Nat} {lss : List (List TL)} (h : MuSt w1 wr n p q j lss) (hj : j < n) {po : Option Addr} {pn pc : Nat} {ps : List TP} {l : List TL} {x : TL} (hl : PolyAt wr po pn pc ps l) (hx : q[j]? = some x) (hp : ∀ s ∈ p, MayT s) (hxm : MayT x) (ht : TimT p x l 0) :
    MuSt w1 (wr.setCell ⟨w1.heap.size, j, none⟩ (.slice po pn pc)) n p q (j + 1) (lss ++ [l]) := by
  have hs := h.slb
  obtain ⟨cs, h1, h2, h3⟩ := h.row
  have hg := set_grown wr w1.heap.size j (.slice po pn pc)
  refine ⟨h.bel.grown hg h.bel.size (fun k hk => by cases hk; exact Nat.le_refl _), ⟨_, set_cells h1 j (.slice po pn pc), by simp [h2], fun i hi => ?_⟩, by simp [h.len], ?_, ?_, fun rest k hr hk => ?_⟩
  · by_cases e : i = j
    · subst e
      exact ⟨po, pn, pc, ps, l, by rw [Array.getElem?_setIfInBounds_self_of_lt (by rw [h2]; exact hi)], hl.slg hg hs, fun _ => by rw [List.getElem?_append_right (by rw [h.len]; exact Nat.le_refl _), h.len]; simp⟩
    · obtain ⟨po', pn', pc', ps', l', a, b, c⟩ := h3 i hi
      exact ⟨po', pn', pc', ps', l', by rw [Array.getElem?_setIfInBounds_ne (Ne.symm e)]; exact a, b.slg hg hs, fun hlt => by rw [List.getElem?_append_left (by rw [h.len]; omega)]; exact c (by omega)⟩
  · rw [List.flatten_append, List.length_append]
    have h5 := ht.len
    have h6 := h.small
    have e : ([l] : List (List TL)).flatten = l := by simp
    rw [e, Nat.add_mul, Nat.one_mul]
    omega
  · intro s hs'
    rw [List.flatten_append, List.mem_append] at hs'
    rcases hs' with hs' | hs'
    · exact h.may s hs'
    · exact ht.may hxm hp s (by simpa using hs')
  · have h4 := h.ok (if k = 0 then l ++ rest else []) k (by
      rw [drop_at2 q j x hx]
      exact ⟨l, 0, ht, fun e => absurd rfl e, fun _ => ⟨rest, hr, fun e => by rw [if_neg e], fun e => by rw [if_pos e]⟩⟩) (fun e => by rw [if_neg e])
    by_cases e : k = 0
    · subst e
      simpa using h4
    · rw [if_neg e] at h4 ⊢
      exact h4
theorem MuSt.list {w1 wr : World} {n : Nat} {p q : List TL} {lss : List (List TL)} (h : MuSt w1 wr n p q n lss) (hn : (n : Int) ≤ 9223372036854775807) : ListAt wr (some ⟨w1.heap.size, 0, none⟩) n lss := by
  obtain ⟨cs, h1, h2, h3⟩ := h.row
  refine ⟨h.len, hn, fun i hi => ?_⟩
  obtain ⟨po, pn, pc, ps, l, a, b, c⟩ := h3 i hi
  exact ⟨_, 0, po, pn, pc, ps, l, rfl, by rw [cell_of_row wr _ _ cs 23 (0, 0) h1, Nat.zero_add]; exact a, c hi, b, (Array.getElem?_eq_some_iff.1 h1).1⟩
end Go.Proofs.YtbdldijgcmgfaaaGreat

/-! Mul: the program's. -/
namespace Go.Proofs.YtbdldijgcmgfaaaGreat
open Go.RowKit

set_option maxRecDepth 100000 in
set_option maxHeartbeats 2000000 in
theorem sumT_b (o : Int) (lo : Option Addr) (m cap : Nat) (lss : List (List TL)) (w : World) (ho : Ord o) (h : ListAt w lo m lss) (hs : lss.flatten.length ≤ 1000000) (hm : ∀ s ∈ lss.flatten, MayT s) :
    Calls Tryz.prog 48 #[.int .i64 o, .slice lo m cap] w fun e w' => ∃ lo' n' cap' qs ms k, e = .returned (.tuple #[.slice lo' n' cap', .int .i64 k]) ∧ PolyAt w' lo' n' cap' qs ms ∧ TogIs o lss.flatten ms k ∧ Below w.heap.size w w' := by
  have HM : Hid (∀ s ∈ lss.flatten, MayT s) := hm
  have hc := concat_b lo m cap lss w h hs
  have HO : Hid (Ord o) := ho
  clear h hs hm ho
  go_enter Tryz.func48, Tryz.ntmps48
  go_wp2_with fail
  refine hc.mono ?_
  rintro e w1 ⟨lo1, n1, cap1, ps, rfl, h1, h2, h3⟩
  have H1 : Hid (PolyAt w1 lo1 n1 cap1 ps lss.flatten ∧ n1 ≤ 1000000 ∧ Below w.heap.size w w1) := ⟨h1, h2, h3⟩
  clear h1 h2 h3 hc
  go_wp2_with fail
  refine (together_b o _ _ _ _ _ _ HO.out H1.out.1 HM.out H1.out.2.1).mono ?_
  rintro e w3 ⟨lo3, n3, cap3, qs, ms, k, rfl, q1, q2, q3⟩
  have H3 : Hid (PolyAt w3 lo3 n3 cap3 qs ms ∧ TogIs o lss.flatten ms k ∧ Below w.heap.size w w3) := ⟨q1, q2, chain H1.out.2.2 q3⟩
  clear q1 q2 q3
  go_wp2_with fail
  go_ret2
  exact ⟨lo3, n3, cap3, qs, ms, k, rfl, H3.out.1, H3.out.2.1, H3.out.2.2⟩


set_option maxRecDepth 100000 in
set_option maxHeartbeats 2000000 in
theorem mulP_b (o : Int) (lo : Option Addr) (pn cap : Nat) (ps : List TP) (p : List TL) (mo : Option Addr) (n mcap : Nat) (qs : List TP) (q : List TL) (w : World) (h : PolyAt w lo pn cap ps p) (g : PolyAt w mo n mcap qs q) :
    Calls Tryz.prog 22 #[.int .i64 o, .slice lo pn cap, .slice mo n mcap] w fun e w' => ∃ lo' n' cap' rs ms k, e = .returned (.tuple #[.slice lo' n' cap', .int .i64 k]) ∧ PolyAt w' lo' n' cap' rs ms ∧ MulP o p q ms k ∧ Below w.heap.size w w' := by
  have hN := g.most'
  have hN2 : n ≤ maxLen := Nat.le_trans g.fits g.most
  have H : Hid (PolyAt w lo pn cap ps p ∧ PolyAt w mo n mcap qs q) := ⟨h, g⟩
  clear h g
  by_cases hp : MayP o p
  · have HP : Hid (MayP o p) := hp
    clear hp
    by_cases hq : MayP o q
    · have HQ : Hid (MayP o q) := hq
      clear hq
      have hn60 : n ≤ 60 := by have := H.out.2.len; have := HQ.out.len; omega
      have hnn : (n : Int) ≤ 60 := by omega
      have hmk := run_make_row' (P := Tryz.prog) 42 23 (.slice none 0 0) 24 Tryz.underlying42 (by kernel_rfl) rfl .i64 .i64 n (by omega) (by omega)
      go_enter Tryz.func22, Tryz.ntmps22
      go_wp2_with fail
      refine (may_b o _ _ _ _ _ _ H.out.1 true (yes_iff HP.out)).mono ?_
      rintro e w0 ⟨rfl, q0⟩
      have H0 : Hid (PolyAt w0 mo n mcap qs q ∧ PolyAt w0 lo pn cap ps p ∧ Below w.heap.size w w0) := ⟨H.out.2.below q0, H.out.1.below q0, q0⟩
      clear q0
      go_wp2_with fail
      refine (may_b o _ _ _ _ _ _ H0.out.1 true (yes_iff HQ.out)).mono ?_
      rintro e w1 ⟨rfl, q1⟩
      have H1 : Hid (PolyAt w1 mo n mcap qs q ∧ PolyAt w1 lo pn cap ps p ∧ Below w.heap.size w w1 ∧ n ≤ 60) := ⟨H0.out.1.below q1, H0.out.2.1.below q1, chain H0.out.2.2 q1, hn60⟩
      clear q1
      have S0 : Hid (MuSt w1 (w1.alloc (.cells (madeCells #[.slice none 0 0] n) 23)) n p q 0 []) := by
        refine ⟨bel1 _ _, ⟨_, heap_alloc_new w1 _, size_madeCells _ _, fun i hi => ⟨none, 0, 0, [], [], ?_, PolyAt.nil _, fun h => absurd h (by omega)⟩⟩, rfl, by simp, fun s hs => by simp at hs, fun rest k hr hk => ?_⟩
        · rw [← Array.getElem?_toList, toList_madeCells_one, List.getElem?_replicate, if_pos hi]
        · by_cases e : k = 0
          · rw [if_pos e]; exact hr
          · rw [if_neg e, ← hk e]; exact hr
      generalize madeCells #[.slice none 0 0] n = Z at hmk S0
      go_wp2_with fail
      clear hmk
      go_loopg [27] n (fun m i wr => ∃ (j : Nat) (lss : List (List TL)), j ≤ n ∧ n - j ≤ m ∧ i = .int .i64 j ∧ Hid (MuSt w1 wr n p q j lss))
      case atStart => exact ⟨0, [], Nat.zero_le _, by omega, rfl, S0.out⟩
      case round =>
        obtain ⟨j, lss, hj, hjr, rfl, hT⟩ := hrel
        by_cases h0 : j < n
        · obtain ⟨bk, off, y, x, rfl, hpj, hxj, hat, hel, hblt⟩ := (H1.out.1.below hT.out.bel).elem h0
          have hjn : (j : Int) < (n : Int) := by omega
          have hj0 : (0 : Int) ≤ (j : Int) := by omega
          obtain ⟨neg, no, nn, nc, eo, en, ec, pa, pb, pc, pd⟩ := y
          obtain ⟨e0, e1, e2, e3, e4, e5, e6⟩ := hel
          dsimp only at e0 e1 e2 e3 e4 e5 e6
          have c2 := bel1 wr (.cells #[.bool neg, .slice no nn nc, .slice eo en ec, .int .i64 pa, .int .i64 pb, .int .i64 pc, .int .i64 pd] 39)
          have HJ : Hid (j < n ∧ n - j ≤ _ ∧ q[j]? = some x ∧ TermAt (wr.alloc (.cells #[.bool neg, .slice no nn nc, .slice eo en ec, .int .i64 pa, .int .i64 pb, .int .i64 pc, .int .i64 pd] 39)) ⟨neg, no, nn, nc, eo, en, ec, pa, pb, pc, pd⟩ x ∧ MayT x ∧ PolyAt (wr.alloc (.cells #[.bool neg, .slice no nn nc, .slice eo en ec, .int .i64 pa, .int .i64 pb, .int .i64 pc, .int .i64 pd] 39)) lo pn cap ps p ∧ MuSt w1 (wr.alloc (.cells #[.bool neg, .slice no nn nc, .slice eo en ec, .int .i64 pa, .int .i64 pb, .int .i64 pc, .int .i64 pd] 39)) n p q j lss) :=
            ⟨h0, hjr, hxj, hat.below c2, HQ.out.may x (List.mem_of_getElem? hxj), (H1.out.2.1.below hT.out.bel).below c2, hT.out.below c2⟩
          have hpn : pn ≤ 1000000 := by have := H.out.1.len; have := HP.out.len; omega
          clear hpj hxj hat hblt hj hjr h0 c2
          go_wp2_with fail
          refine (times_b _ _ _ _ _ ⟨neg, no, nn, nc, eo, en, ec, pa, pb, pc, pd⟩ x _ HJ.out.2.2.2.2.2.1 HJ.out.2.2.2.1 HP.out.may HJ.out.2.2.2.2.1 hpn).mono ?_
          rintro e w3 ⟨lo3, n3, cap3, rs, ms, k, rfl, q1, q2, q3⟩
          have T3 := HJ.out.2.2.2.2.2.2.below q3
          obtain ⟨cs, k1, k2, k3⟩ := T3.row
          obtain ⟨a1, a2, a3, a4, a5, k4, _⟩ := k3 j HJ.out.1
          have zc : w3.cell? ⟨w1.heap.size, j, none⟩ = some (.slice a1 a2 a3) := by rw [cell_of_row w3 _ _ cs 23 (0, 0) k1]; exact k4
          have zf : w3.frozen? ⟨w1.heap.size, j, none⟩ = false := by simp [World.frozen?, k1]
          have bs : Below w.heap.size w (w3.setCell ⟨w1.heap.size, j, none⟩ (.slice lo3 n3 cap3)) := (H1.out.2.2.1.trans (T3.bel.mono H1.out.2.2.1.size)).setCell H1.out.2.2.1.size _
          by_cases hk : k = 0
          · subst hk
            have H6 : Hid (MuSt w1 (w3.setCell ⟨w1.heap.size, j, none⟩ (.slice lo3 n3 cap3)) n p q (j + 1) (lss ++ [ms])) := T3.set HJ.out.1 q1 HJ.out.2.2.1 HP.out.may HJ.out.2.2.2.2.1 q2
            clear q1 q2 q3 T3 k1 k2 k3 k4 e0 e1 e2 e3 e4 e5 e6 bs
            go_wp2_with fail
            go_roundg (n - (j + 1))
            case measure => have := HJ.out.1; have := HJ.out.2.1; omega
            case rel => exact ⟨j + 1, _, by have := HJ.out.1; omega, Nat.le_refl _, by go_num, H6.out⟩
          · have hml := T3.ok [] k (by rw [drop_at2 q j x HJ.out.2.2.1]; exact ⟨ms, k, q2, fun _ => ⟨rfl, rfl⟩, fun e => absurd e hk⟩) (fun _ => rfl)
            rw [if_neg hk] at hml
            have HK : Hid (k ≠ 0 ∧ ManyL p q [] k ∧ Below w.heap.size w (w3.setCell ⟨w1.heap.size, j, none⟩ (.slice lo3 n3 cap3))) := ⟨hk, hml, bs⟩
            clear q1 q2 q3 T3 k1 k2 k3 k4 e0 e1 e2 e3 e4 e5 e6 bs hml
            go_wp2_with fail
            go_ret2
            exact ⟨none, 0, 0, [], [], k, rfl, PolyAt.nil _, ⟨fun e => absurd ⟨HP.out, HQ.out⟩ e, fun _ => ⟨[], k, HK.out.2.1, fun _ => ⟨rfl, rfl⟩, fun e => absurd e HK.out.1⟩⟩, HK.out.2.2⟩
        · have hjn : j = n := by omega
          subst hjn
          clear hj hjr h0
          have hok := hT.out.ok [] 0 (by rw [List.drop_of_length_le (by rw [H1.out.1.len]; exact Nat.le_refl _)]; exact ⟨rfl, rfl⟩) (fun _ => rfl)
          rw [if_pos rfl, List.append_nil] at hok
          have hsm : lss.flatten.length ≤ 1000000 := by
            have h1 := hT.out.small
            have h2 : j * p.length ≤ 60 * 60 := Nat.mul_le_mul H1.out.2.2.2 HP.out.len
            omega
          have HS : Hid (ListAt wr (some ⟨w1.heap.size, 0, none⟩) j lss ∧ ManyL p q lss.flatten 0 ∧ Below w.heap.size w wr ∧ lss.flatten.length ≤ 1000000) := ⟨hT.out.list hN, hok, H1.out.2.2.1.trans (hT.out.bel.mono H1.out.2.2.1.size), hsm⟩
          clear hok hsm
          go_wp2_with fail
          refine (sumT_b o _ _ _ _ _ HP.out.ord HS.out.1 HS.out.2.2.2 hT.out.may).mono ?_
          rintro e w3 ⟨lo3, n3, cap3, rs, ms, k, rfl, q1, q2, q3⟩
          have H3 : Hid (PolyAt w3 lo3 n3 cap3 rs ms ∧ TogIs o lss.flatten ms k ∧ Below w.heap.size w w3) := ⟨q1, q2, chain HS.out.2.2.1 q3⟩
          clear q1 q2 q3
          go_wp2_with fail
          go_ret2
          exact ⟨lo3, n3, cap3, rs, ms, k, rfl, H3.out.1, ⟨fun e => absurd ⟨HP.out, HQ.out⟩ e, fun _ => ⟨_, 0, HS.out.2.1, fun e => absurd rfl e, fun _ => H3.out.2.1⟩⟩, H3.out.2.2⟩
    · have HQ : Hid (¬ MayP o q) := hq
      clear hq
      go_enter Tryz.func22, Tryz.ntmps22
      go_wp2_with fail
      refine (may_b o _ _ _ _ _ _ H.out.1 true (yes_iff HP.out)).mono ?_
      rintro e w0 ⟨rfl, q0⟩
      have H0 : Hid (PolyAt w0 mo n mcap qs q ∧ Below w.heap.size w w0) := ⟨H.out.2.below q0, q0⟩
      clear q0
      go_wp2_with fail
      refine (may_b o _ _ _ _ _ _ H0.out.1 false (no_iff HQ.out)).mono ?_
      rintro e w1 ⟨rfl, q1⟩
      have H1 : Hid (Below w.heap.size w w1) := chain H0.out.2 q1
      clear q1
      go_wp2_with fail
      go_ret2
      exact ⟨none, 0, 0, [], [], 1, rfl, PolyAt.nil _, ⟨fun _ => ⟨rfl, rfl⟩, fun e => absurd e.2 HQ.out⟩, H1.out⟩
  · have HP : Hid (¬ MayP o p) := hp
    clear hp
    go_enter Tryz.func22, Tryz.ntmps22
    go_wp2_with fail
    refine (may_b o _ _ _ _ _ _ H.out.1 false (no_iff HP.out)).mono ?_
    rintro e w0 ⟨rfl, q0⟩
    have H0 : Hid (Below w.heap.size w w0) := q0
    clear q0
    go_wp2_with fail
    go_ret2
    exact ⟨none, 0, 0, [], [], 1, rfl, PolyAt.nil _, ⟨fun _ => ⟨rfl, rfl⟩, fun e => absurd e.1 HP.out⟩, H0.out⟩
end Go.Proofs.YtbdldijgcmgfaaaGreat

/-! Mul: the reference's. -/
namespace Go.Proofs.YtbdldijgcmgfaaaGreat
open Go.RowKit

/-- The reference's products by each term so far. -/
structure RMu (w1 wr : World) (v : Value) (p q : List TL) (j : Nat) (qs : List TP) (ms : List TL) : Prop where
  bel : Below w1.heap.size w1 wr
  own : TermsOwn wr w1.heap.size v qs ms
  small : qs.length ≤ j * p.length
  ok : ∀ rest k, ManyL p (q.drop j) rest k → (k ≠ 0 → rest = []) → ManyL p q (if k = 0 then ms ++ rest else []) k

theorem RMu.below {w1 wr w' : World} {v : Value} {p q : List TL} {j : Nat} {qs : List TP} {ms : List TL} (h : RMu w1 wr v p q j qs ms) (hb : Below wr.heap.size wr w') : RMu w1 w' v p q j qs ms := ⟨chain h.bel hb, h.own.below hb, h.small, h.ok⟩
theorem RMu.start {w1 : World} {p q : List TL} : RMu w1 (w1.alloc (.cells #[] 39)) (.slice (some ⟨w1.heap.size, 0, none⟩) 0 0) p q 0 [] [] := ⟨bel1 _ _, TermsOwn.made w1 _ (Nat.le_refl _), by simp, fun rest k hr hk => by
  by_cases e : k = 0
  · rw [if_pos e]; exact hr
  · rw [if_neg e, ← hk e]; exact hr⟩
theorem ManyL.on {p q ms l : List TL} {j : Nat} {x : TL} (h : ∀ rest k, ManyL p (q.drop j) rest k → (k ≠ 0 → rest = []) → ManyL p q (if k = 0 then ms ++ rest else []) k) (hx : q[j]? = some x) (ht : TimT p x l 0) :
    ∀ rest k, ManyL p (q.drop (j + 1)) rest k → (k ≠ 0 → rest = []) → ManyL p q (if k = 0 then (ms ++ l) ++ rest else []) k := by
  intro rest k hr hk
  have h4 := h (if k = 0 then l ++ rest else []) k (by
    rw [drop_at2 q j x hx]
    exact ⟨l, 0, ht, fun e => absurd rfl e, fun _ => ⟨rest, hr, fun e => by rw [if_neg e], fun e => by rw [if_pos e]⟩⟩) (fun e => by rw [if_neg e])
  by_cases e : k = 0
  · subst e
    simpa using h4
  · rw [if_neg e] at h4 ⊢
    exact h4

set_option maxRecDepth 100000 in
set_option maxHeartbeats 4000000 in
theorem rmulP_b (o : Int) (lo : Option Addr) (pn cap : Nat) (ps : List TP) (p : List TL) (mo : Option Addr) (n mcap : Nat) (qs : List TP) (q : List TL) (w : World) (h : PolyAt w lo pn cap ps p) (g : PolyAt w mo n mcap qs q) :
    Calls Tryz.prog 23 #[.int .i64 o, .slice lo pn cap, .slice mo n mcap] w fun e w' => ∃ lo' n' cap' rs ms k, e = .returned (.tuple #[.slice lo' n' cap', .int .i64 k]) ∧ PolyAt w' lo' n' cap' rs ms ∧ MulP o p q ms k ∧ Below w.heap.size w w' := by
  obtain ⟨i0, hi0, hz0, hz1, hz2⟩ := info_parts info39
  have hN := g.most'
  have H : Hid (PolyAt w lo pn cap ps p ∧ PolyAt w mo n mcap qs q) := ⟨h, g⟩
  clear h g
  by_cases hp : MayP o p
  · have HP : Hid (MayP o p) := hp
    clear hp
    by_cases hq : MayP o q
    · have HQ : Hid (MayP o q) := hq
      clear hq
      go_enter Tryz.func23, Tryz.ntmps23
      go_wp2_with fail
      refine (rmay_b o _ _ _ _ _ _ H.out.1 true (yes_iff HP.out)).mono ?_
      rintro e w0 ⟨rfl, q0⟩
      have H0 : Hid (PolyAt w0 mo n mcap qs q ∧ PolyAt w0 lo pn cap ps p ∧ Below w.heap.size w w0) := ⟨H.out.2.below q0, H.out.1.below q0, q0⟩
      clear q0
      go_wp2_with fail
      refine (rmay_b o _ _ _ _ _ _ H0.out.1 true (yes_iff HQ.out)).mono ?_
      rintro e w1 ⟨rfl, q1⟩
      have H1 : Hid (PolyAt w1 mo n mcap qs q ∧ PolyAt w1 lo pn cap ps p ∧ Below w.heap.size w w1 ∧ n ≤ 60 ∧ p.length ≤ 60) := ⟨H0.out.1.below q1, H0.out.2.1.below q1, chain H0.out.2.2 q1, by have := H.out.2.len; have := HQ.out.len; omega, HP.out.len⟩
      clear q1
      go_wp2_with fail
      go_loopg [8, 9] n (fun m vv i wr => ∃ (j : Nat) (vs : List TP) (ms : List TL), j ≤ n ∧ n - j ≤ m ∧ i = .int .i64 j ∧ Hid (RMu w1 wr vv p q j vs ms))
      case atStart => exact ⟨0, [], [], Nat.zero_le _, by omega, rfl, RMu.start⟩
      case round =>
        obtain ⟨j, vs, ms, hj, hjr, rfl, hT⟩ := hrel
        by_cases h0 : j < n
        · obtain ⟨bk, off, y, x, rfl, hpj, hxj, hat, hel, hblt⟩ := (H1.out.1.below hT.out.bel).elem h0
          obtain ⟨lov, capv, rfl, _⟩ := hT.out.own.poly
          have hjn : (j : Int) < (n : Int) := by omega
          have hj0 : (0 : Int) ≤ (j : Int) := by omega
          obtain ⟨neg, no, nn, nc, eo, en, ec, pa, pb, pc, pd⟩ := y
          obtain ⟨e0, e1, e2, e3, e4, e5, e6⟩ := hel
          dsimp only at e0 e1 e2 e3 e4 e5 e6
          have hle : vs.length + pn ≤ 3660 := by
            have h1 := hT.out.small
            have h2 : j * p.length ≤ 60 * 60 := Nat.mul_le_mul (by have := H1.out.2.2.2.1; omega) HP.out.len
            have h3 := H1.out.2.1.len
            have h4 := HP.out.len
            omega
          have HJ : Hid (j < n ∧ n - j ≤ _ ∧ q[j]? = some x ∧ TermAt _ ⟨neg, no, nn, nc, eo, en, ec, pa, pb, pc, pd⟩ x ∧ MayT x ∧ PolyAt _ lo pn cap ps p ∧ vs.length + pn ≤ 3660) :=
            ⟨h0, hjr, hxj, hat, HQ.out.may x (List.mem_of_getElem? hxj), H1.out.2.1.below hT.out.bel, hle⟩
          clear hpj hxj hat hblt hj hjr h0 hle
          go_wp2_with fail
          refine (rtimesP_b o _ _ _ _ _ ⟨neg, no, nn, nc, eo, en, ec, pa, pb, pc, pd⟩ x _ HJ.out.2.2.2.2.2.1 HJ.out.2.2.2.1).mono ?_
          rintro e w3 ⟨lo3, n3, cap3, rs, l, k, rfl, q1, q2, q3⟩
          have HT : Hid (RMu w1 w3 (.slice lov vs.length capv) p q j vs ms) := hT.out.below q3
          have HR : Hid (PolyAt w3 lo3 n3 cap3 rs l ∧ TimT p x l k ∧ Below w.heap.size w w3) := ⟨q1, q2.ok ⟨HP.out, HJ.out.2.2.2.2.1⟩, H1.out.2.2.1.trans (HT.out.bel.mono H1.out.2.2.1.size)⟩
          clear q1 q2 q3 e0 e1 e2 e3 e4 e5 e6
          by_cases hk : k = 0
          · subst hk
            have hnum := HR.out.1.num
            have hnc : n3 ≤ cap3 := HR.out.1.fits
            have hbare := HR.out.1.bare
            have hn3 : n3 ≤ pn := by
              have := HR.out.2.1.len
              have := HR.out.1.len
              have := HJ.out.2.2.2.2.2.1.len
              omega
            cases lo3 with
            | none =>
              have hc0 := hbare rfl
              subst hc0
              have hn0 : n3 = 0 := by omega
              subst hn0
              have HZ : Hid (RMu w1 w3 (.slice lov vs.length capv) p q (j + 1) vs ms) := by
                have hl0 : l = [] := List.length_eq_zero_iff.1 HR.out.1.len
                have hon := ManyL.on HT.out.ok HJ.out.2.2.1 HR.out.2.1
                rw [hl0] at hon
                exact ⟨HT.out.bel, HT.out.own, Nat.le_trans HT.out.small (Nat.mul_le_mul_right _ (Nat.le_succ j)), by simpa using hon⟩
              have hr := (append_types 22 23 22 39 i0 hi0 Tryz.underlying22 Tryz.underlying23 (.slice lov vs.length capv) (.slice none 0 0) w3).trans (run_append_owned_none (P := Tryz.prog) (w := w3) w1.heap.size 22 22 39 i0 7 Tryz.underlying22 hi0 (.slice lov vs.length capv) _ _ HT.out.own.own.row)
              clear hbare hnc hnum hn3
              go_wp2_with (at_builtin; refine Lib.wpList_append_run _ rfl _ _ _ _ rfl _ _ rfl rfl _ _ hr ?_)
              clear hr
              go_roundg (n - (j + 1))
              case measure => have := HJ.out.1; have := HJ.out.2.1; omega
              case rel => exact ⟨j + 1, vs, ms, by have := HJ.out.1; omega, Nat.le_refl _, by go_num, HZ.out⟩
            | some ad =>
              clear hbare hnc
              have hl7 : (tcells rs).length = n3 * 7 := by rw [tcells_length, hnum]
              obtain ⟨v2, w4, hr0, ho, hg, _⟩ := run_append_owns (P := Tryz.prog) w3 w1.heap.size 22 22 39 i0 _ 7 88 Tryz.underlying22 hi0 hz0 hz1 hz2 rfl (by omega) zero39 (.slice lov vs.length capv) vs.length (tcells vs) HT.out.own.own ad n3 cap3 (tcells rs) hl7 HR.out.1.news (tcells_onecell _) (tcells_clean _) (by have := HJ.out.2.2.2.2.2.2; unfold maxLen; omega) (by have := HJ.out.2.2.2.2.2.2; omega) HT.out.bel.size
              have hr := (append_types 22 23 22 39 i0 hi0 Tryz.underlying22 Tryz.underlying23 (.slice lov vs.length capv) (.slice (some ad) n3 cap3) w3).trans hr0
              have HZ : Hid (RMu w1 w4 v2 p q (j + 1) (vs ++ rs) (ms ++ l)) := by
                obtain ⟨b, off, _, h2⟩ := HR.out.1.at'
                refine ⟨HT.out.bel.grown hg HT.out.bel.size (fun k hk => (HT.out.own.own.row.lt k hk).1), HT.out.own.put h2.len h2.each (by rw [hnum]; exact ho) hg, ?_, ManyL.on HT.out.ok HJ.out.2.2.1 HR.out.2.1⟩
                rw [List.length_append, Nat.add_mul, Nat.one_mul]
                have h3 := HT.out.small
                have h4 := HR.out.2.1.len
                have h5 := HR.out.1.len
                omega
              clear ho hg hl7 hnum hr0 hn3
              go_wp2_with (at_builtin; refine Lib.wpList_append_run _ rfl _ _ _ _ rfl _ _ rfl rfl _ _ hr ?_)
              clear hr
              go_roundg (n - (j + 1))
              case measure => have := HJ.out.1; have := HJ.out.2.1; omega
              case rel => exact ⟨j + 1, _, _, by have := HJ.out.1; omega, Nat.le_refl _, by go_num, HZ.out⟩
          · have HK : Hid (k ≠ 0 ∧ ManyL p q [] k) := by
              refine ⟨hk, ?_⟩
              have hml := HT.out.ok [] k (by rw [drop_at2 q j x HJ.out.2.2.1]; exact ⟨l, k, HR.out.2.1, fun _ => ⟨rfl, rfl⟩, fun e => absurd e hk⟩) (fun _ => rfl)
              rwa [if_neg hk] at hml
            go_wp2_with fail
            go_ret2
            exact ⟨none, 0, 0, [], [], k, rfl, PolyAt.nil _, ⟨fun e => absurd ⟨HP.out, HQ.out⟩ e, fun _ => ⟨[], k, HK.out.2, fun _ => ⟨rfl, rfl⟩, fun e => absurd e HK.out.1⟩⟩, HR.out.2.2⟩
        · have hjn : j = n := by omega
          subst hjn
          clear hj hjr h0
          have hok := hT.out.ok [] 0 (by rw [List.drop_of_length_le (by rw [H1.out.1.len]; exact Nat.le_refl _)]; exact ⟨rfl, rfl⟩) (fun _ => rfl)
          rw [if_pos rfl, List.append_nil] at hok
          have hsm : vs.length ≤ 90000 := by
            have h1 := hT.out.small
            have h2 : j * p.length ≤ 60 * 60 := Nat.mul_le_mul H1.out.2.2.2.1 HP.out.len
            omega
          obtain ⟨lo2, cap2, rfl, hpa, _⟩ := hT.out.own.poly
          have HS : Hid (PolyAt _ lo2 vs.length cap2 vs ms ∧ ManyL p q ms 0 ∧ Below w.heap.size w _ ∧ vs.length ≤ 90000) := ⟨hpa, hok, H1.out.2.2.1.trans (hT.out.bel.mono H1.out.2.2.1.size), hsm⟩
          clear hok hsm hpa
          go_wp2_with fail
          refine (rmake_b o _ _ _ _ _ _ HS.out.1 HS.out.2.2.2).mono ?_
          rintro e w3 ⟨lo3, n3, cap3, rs, l, k, rfl, q1, q2, q3⟩
          have H3 : Hid (PolyAt w3 lo3 n3 cap3 rs l ∧ MakeIs o ms l k ∧ Below w.heap.size w w3) := ⟨q1, q2, chain HS.out.2.2.1 q3⟩
          clear q1 q2 q3
          go_wp2_with fail
          go_ret2
          exact ⟨lo3, n3, cap3, rs, l, k, rfl, H3.out.1, ⟨fun e => absurd ⟨HP.out, HQ.out⟩ e, fun _ => ⟨_, 0, HS.out.2.1, fun e => absurd rfl e, fun _ => H3.out.2.1.ok ⟨HP.out.ord, ManyL.may HP.out.may HQ.out.may HS.out.2.1⟩⟩⟩, H3.out.2.2⟩
    · have HQ : Hid (¬ MayP o q) := hq
      clear hq
      go_enter Tryz.func23, Tryz.ntmps23
      go_wp2_with fail
      refine (rmay_b o _ _ _ _ _ _ H.out.1 true (yes_iff HP.out)).mono ?_
      rintro e w0 ⟨rfl, q0⟩
      have H0 : Hid (PolyAt w0 mo n mcap qs q ∧ Below w.heap.size w w0) := ⟨H.out.2.below q0, q0⟩
      clear q0
      go_wp2_with fail
      refine (rmay_b o _ _ _ _ _ _ H0.out.1 false (no_iff HQ.out)).mono ?_
      rintro e w1 ⟨rfl, q1⟩
      have H1 : Hid (Below w.heap.size w w1) := chain H0.out.2 q1
      clear q1
      go_wp2_with fail
      go_ret2
      exact ⟨none, 0, 0, [], [], 1, rfl, PolyAt.nil _, ⟨fun _ => ⟨rfl, rfl⟩, fun e => absurd e.2 HQ.out⟩, H1.out⟩
  · have HP : Hid (¬ MayP o p) := hp
    clear hp
    go_enter Tryz.func23, Tryz.ntmps23
    go_wp2_with fail
    refine (rmay_b o _ _ _ _ _ _ H.out.1 false (no_iff HP.out)).mono ?_
    rintro e w0 ⟨rfl, q0⟩
    have H0 : Hid (Below w.heap.size w w0) := q0
    clear q0
    go_wp2_with fail
    go_ret2
    exact ⟨none, 0, 0, [], [], 1, rfl, PolyAt.nil _, ⟨fun _ => ⟨rfl, rfl⟩, fun e => absurd e.1 HP.out⟩, H0.out⟩
end Go.Proofs.YtbdldijgcmgfaaaGreat
