/-
  limb.Mul: the product.
-/
import Derived.Test.YtnkjfandknndkaaSum
import Derived.Test.YtnkjfandknndkaaScale
namespace Go.Proofs.Ytnkjfandknndkaa
open Go.RowKit

theorem Try.info22 : (Try.prog.info? 22).map (fun i => (i.zero, i.size, i.bytes)) = some (some (.slice none 0 0), 1, 24) := by kernel_rfl

theorem trimLen_q (ao : Option Addr) (n cap m : Nat) (xs : List Int) (w : World) (h : RowAt w ao n cap xs) (hm : Tl xs m) :
    Calls Try.prog 75 #[.slice ao n cap] w fun e w' => e = .returned (.int .i64 m) ∧ w' = w := by
  refine (trimLen_any ao n cap xs w h).mono ?_
  rintro e w' ⟨k, rfl, hk, hw⟩
  rw [tl_one hk hm]
  exact ⟨rfl, hw⟩

theorem RowAt.cut {w : World} {ao : Option Addr} {n cap : Nat} {xs : List Int} (h : RowAt w ao n cap xs) (m : Nat) (hm : m ≤ n) : RowAt w ao m cap (xs.take m) := by
  have hl := h.len
  refine ⟨by simp; omega, limbs_take h.limbs m, by have := h.fits; omega, h.most, h.bare, fun hne => ?_⟩
  obtain ⟨b, off, e, hb, hc⟩ := h.cells (fun e => hne (by simp [e]))
  refine ⟨b, off, e, hb, fun j hj => ?_⟩
  simp only [List.length_take] at hj
  rw [hc j (by omega)]
  simp [show j < m by omega]

theorem RowAt.apart {w : World} {ao : Option Addr} {n cap : Nat} {xs : List Int} (h : RowAt w ao n cap xs) {G k : Nat} {f : Nat → Value} (hr : w.rowIs G 22 k f) (hf : ∀ t i, f t ≠ .int .u64 i) (q : Nat) (u : Value) :
    RowAt (w.setCell ⟨G, q, none⟩ u) ao n cap xs := by
  refine ⟨h.len, h.limbs, h.fits, h.most, h.bare, fun hne => ?_⟩
  obtain ⟨b, off, e, hb, hc⟩ := h.cells hne
  have hpos : 0 < xs.length := List.length_pos_iff.2 hne
  have hbG : b ≠ G := by
    intro e
    subst e
    obtain ⟨c, h1, h2, h3⟩ := hr
    have h4 := hc 0 hpos
    simp only [World.cell?, h1] at h4
    rcases Nat.lt_or_ge (off + 0) k with h5 | h5
    · rw [h3 _ h5] at h4
      exact hf _ _ (Option.some.inj h4)
    · rw [Array.getElem?_eq_none (by omega)] at h4
      simp at h4
  refine ⟨b, off, e, by simpa [World.setCell] using hb, fun j hj => ?_⟩
  rw [World.cell?_of_block (w := w) (Below.heap_setCell w ⟨G, q, none⟩ u b hbG)]
  exact hc j hj

theorem sval_prod (a : Int) (ys : List Int) (rs : List Rw) (h : ∀ t (h : t < rs.length), val rs[t].xs = a * BB ^ t * lim ys t) : ∀ k, k ≤ rs.length → sval ((rs.map Rw.xs).take k) = a * pv ys k
  | 0, _ => by simp [sval, pv]
  | k + 1, hk => by
    rw [List.take_succ_eq_append_getElem (by simp; omega), sval_snoc, sval_prod a ys rs h k (by omega), pv]
    simp only [List.getElem_map]
    rw [h k hk]
    grind

/-- What the row of rows holds while rs have been told. -/
def filled (rs : List Rw) (t : Nat) : Value := (rs[t]?.map Rw.v).getD (.slice none 0 0)
theorem filled_slice (rs : List Rw) (t : Nat) (i : Int) : filled rs t ≠ .int .u64 i := by
  unfold filled
  cases rs[t]? <;> simp [Rw.v]
theorem filled_at (rs : List Rw) (t : Nat) (h : t < rs.length) : filled rs t = .slice rs[t].ao rs[t].n rs[t].cap := by simp [filled, h, Rw.v]

/-- What the loop of Mul holds behind q rounds. -/
structure MulInv (w : World) (G m1 m2 : Nat) (xs ys : List Int) (q : Nat) (rs : List Rw) (wr : World) : Prop where
  len : rs.length = q
  bel : Below w.heap.size w wr
  rows : wr.rowIs G 22 m2 (filled rs)
  row : ∀ t (h : t < rs.length), RowAt wr rs[t].ao rs[t].n rs[t].cap rs[t].xs
  num : ∀ t (h : t < rs.length), Num rs[t].xs (val xs * BB ^ t * lim ys t)
  size : ∀ t (h : t < rs.length), rs[t].n ≤ t + m1 + 1

theorem MulInv.rowsAt {w : World} {G m1 m2 q : Nat} {xs ys : List Int} {rs : List Rw} {wr : World} (h : MulInv w G m1 m2 xs ys q rs wr) (hq : q = m2) : RowsAt wr G rs :=
  ⟨h.rows.lt, fun j hj => by rw [h.rows.cell (by have := h.len; omega), filled_at rs j hj], h.row⟩

theorem MulInv.next {w : World} {G m1 m2 : Nat} {xs ys : List Int} {q : Nat} {rs : List Rw} {wr w1 : World} (h : MulInv w G m1 m2 xs ys q rs wr) (hG : w.heap.size ≤ G) (hq : q < m2) (hb : Below wr.heap.size wr w1) (r : Rw) (hr : RowAt w1 r.ao r.n r.cap r.xs) (hn : Num r.xs (val xs * BB ^ q * lim ys q)) (hs : r.n ≤ q + m1 + 1) :
    MulInv w G m1 m2 xs ys (q + 1) (rs ++ [r]) (w1.setCell ⟨G, q, none⟩ (.slice r.ao r.n r.cap)) := by
  have hl := h.len
  have hrow1 : w1.rowIs G 22 m2 (filled rs) := h.rows.of_block (hb.block G h.rows.lt)
  have cases : ∀ t (ht : t < (rs ++ [r]).length), (∃ h' : t < rs.length, (rs ++ [r])[t] = rs[t]) ∨ (t = q ∧ (rs ++ [r])[t] = r) := by
    intro t ht
    by_cases e : t < rs.length
    · exact .inl ⟨e, by rw [List.getElem_append_left e]⟩
    · simp at ht
      have e2 : t = q := by omega
      subst e2
      exact .inr ⟨rfl, by rw [List.getElem_append_right (by omega)]; simp [hl]⟩
  refine ⟨by simp [hl], (h.bel.trans (hb.mono h.bel.size)).setCell hG _, ?_, ?_, ?_, ?_⟩
  · refine (World.rowIs.set hrow1 q _).congr fun t ht => ?_
    by_cases e : t = q
    · subst e; simp [filled, ← hl, Rw.v]
    · rw [if_neg e]
      unfold filled
      by_cases e2 : t < rs.length
      · rw [List.getElem?_append_left e2]
      · rw [List.getElem?_eq_none (by omega), List.getElem?_eq_none (by simp; omega)]
  · intro t ht
    rcases cases t ht with ⟨h', e⟩ | ⟨rfl, e⟩
    · rw [e]; exact ((h.row t h').below hb).apart hrow1 (filled_slice rs) _ _
    · rw [e]; exact hr.apart hrow1 (filled_slice rs) _ _
  · intro t ht
    rcases cases t ht with ⟨h', e⟩ | ⟨rfl, e⟩
    · rw [e]; exact h.num t h'
    · rw [e]; exact hn
  · intro t ht
    rcases cases t ht with ⟨h', e⟩ | ⟨rfl, e⟩
    · rw [e]; exact h.size t h'
    · rw [e]; exact hs

set_option maxHeartbeats 1000000 in
theorem mul_any (ao bo : Option Addr) (na ca nb cb : Nat) (xs ys : List Int) (w : World) (ha : RowAt w ao na ca xs) (hb : RowAt w bo nb cb ys) (hna : na ≤ 100000) (hnb : nb ≤ 100000) :
    Calls Try.prog 49 #[.slice ao na ca, .slice bo nb cb] w fun e w' => ∃ ro m cap r, e = .returned (.slice ro m cap) ∧ RowAt w' ro m cap r ∧ Num r (val xs * val ys) ∧ m ≤ na + nb + 2 ∧ Below w.heap.size w w' := by
  obtain ⟨m1, t1⟩ := tl_ex xs
  obtain ⟨m2, t2⟩ := tl_ex ys
  have l1 := ha.len
  have l2 := hb.len
  have h1 : m1 ≤ na := by have := t1.1; omega
  have h2 : m2 ≤ nb := by have := t2.1; omega
  have hca : (m1 : Int) ≤ (ca : Int) := by have := ha.fits; omega
  have hcb : (m2 : Int) ≤ (cb : Int) := by have := hb.fits; omega
  have HA : Hid (RowAt w ao na ca xs) := ha
  have HB : Hid (RowAt w bo nb cb ys) := hb
  have T1 : Hid (Tl xs m1) := t1
  have T2 : Hid (Tl ys m2) := t2
  clear ha hb t1 t2 l1 l2
  have hmk := run_make_row' (P := Try.prog) 85 22 (.slice none 0 0) 24 Try.underlying85 Try.info22 rfl .i64 .i64 m2 (by omega) (by omega)
  have start : ∀ nq, MulInv w w.heap.size m1 m2 xs ys 0 [] ((w.drewN nq).alloc (Obj.cells (madeCells #[.slice none 0 0] m2) 22)) := fun nq =>
    ⟨rfl, (below_drewN (Below.refl _ _) nq).alloc (Nat.le_refl _) _, (World.rowIs_made (w.drewN nq) _ m2 22).congr (fun t _ => by simp [filled]), fun t h => absurd h (Nat.not_lt_zero _), fun t h => absurd h (Nat.not_lt_zero _), fun t h => absurd h (Nat.not_lt_zero _)⟩
  have fin : ∀ q rs wr, MulInv w w.heap.size m1 m2 xs ys q rs wr → q = m2 → sval (rs.map Rw.xs) = val xs * val ys := fun q rs wr h e => by
    subst e
    have hp := sval_prod (val xs) ys rs (fun t ht => (h.num t ht).val) rs.length (Nat.le_refl _)
    rw [List.take_of_length_le (by simp)] at hp
    rw [hp, h.len, ← val_take_pv ys q T2.out.1, T2.out.val]
  have ST : Hid _ := start
  have FI : Hid _ := fin
  clear start fin
  by_cases hm0 : m2 = 0
  · subst hm0
    have hm2 : ∀ w, (Instr.makeSlice 85 (.int .i64 0) (.int .i64 0)).run Try.prog w = .ok (.slice (some ⟨w.heap.size, 0, none⟩) 0 0) (w.alloc (.cells (madeCells #[.slice none 0 0] 0) 22)) := hmk
    clear hmk
    go_enter Try.func49, Try.ntmps49
    go_wp2
    go_quiet ((first | (go_at_call_of 75 (Value.slice ao na ca); exact Calls.quiet_of_same (trimLen_q _ _ _ m1 xs _ (HA.out.drewN _) T1.out)) | (go_at_call_of 75 (Value.slice bo nb cb); exact Calls.quiet_of_same (trimLen_q _ _ _ 0 ys _ (HB.out.drewN _) T2.out))))
    go_wp2
    refine wp_loop_rounds 1 ?_
    rw [rounds_succ]
    go_wp2_with fail
    refine (sum_any _ 0 (m1 + 1) [] _ ((ST.out nq).rowsAt rfl) rfl (by omega) (fun j h => absurd h (Nat.not_lt_zero _)) (by omega)).mono ?_
    rintro e w1 ⟨ro, m, cap, r, rfl, h1, h2, h3, h4⟩
    go_wp2
    go_ret
    exact ⟨ro, m, cap, r, rfl, h1, by rw [FI.out _ _ _ (ST.out nq) rfl] at h2; exact h2, by omega, (ST.out nq).bel.trans (h4.mono (ST.out nq).bel.size)⟩
  · have hc2 := HB.out.cut m2 h2
    obtain ⟨b, off, rfl, hlt, hcc⟩ := hc2.cells (by intro e; have h := hc2.len; rw [e] at h; simp at h; omega)
    have HC : Hid (∀ q, q < m2 → w.cell? ⟨b, off + q, none⟩ = some (.int .u64 (lim ys q))) := fun q hq => by
      rw [hcc q (by rw [hc2.len]; exact hq), lim_nat]
      simp [hq]
    clear hc2 hcc
    go_enter Try.func49, Try.ntmps49
    go_wp2
    go_quiet ((first | (go_at_call_of 75 (Value.slice ao na ca); exact Calls.quiet_of_same (trimLen_q _ _ _ m1 xs _ (HA.out.drewN _) T1.out)) | (go_at_call_of 75 (Value.slice (some ⟨b, off, none⟩) nb cb); exact Calls.quiet_of_same (trimLen_q _ _ _ m2 ys _ (HB.out.drewN _) T2.out))))
    go_wp2
    go_loopw [21, 6, 7] (fun j _ _ wr => ∃ (q : Nat) (rs : List Rw), q ≤ m2 ∧ j = .int .i64 q ∧ MulInv w w.heap.size m1 m2 xs ys q rs wr) (fun j _ _ _ => m2 - (intOf j).toNat)
    case atStart => exact ⟨0, [], Nat.zero_le _, rfl, ST.out nq⟩
    case round =>
      obtain ⟨q, rs, hq, rfl, hinv⟩ := hrel
      have HI : Hid (MulInv w w.heap.size m1 m2 xs ys q rs wr) := hinv
      by_cases hlt2 : q < m2
      · have hcell : wr.cell? ⟨b, off + q, none⟩ = some (.int .u64 (lim ys q)) := (hinv.bel.cell (p := ⟨b, off + q, none⟩) hlt).trans (HC.out q hlt2)
        obtain ⟨y, hy⟩ : ∃ y, y = lim ys q := ⟨_, rfl⟩
        rw [← hy] at hcell
        have HY : Hid (y = lim ys q) := hy
        have HYB : Hid (0 ≤ y ∧ y < BB) := by rw [hy]; exact lim_bd HB.out.limbs q
        clear hinv hy
        go_wp2_with fail
        refine (scale_any _ _ _ _ _ (xs.take m1) _ ((HA.out.cut m1 h1).below HI.out.bel) (by omega) (by omega) HYB.out.1 HYB.out.2).mono ?_
        rintro e w1 ⟨ro, m, cap, r, rfl, g1, g2, g3, g4⟩
        have hrow1 := HI.out.rows.of_block (g4.block _ HI.out.rows.lt)
        have hce := hrow1.cell hlt2
        have hfr := hrow1.frozen q
        have NX : Hid _ := HI.out.next (Nat.le_refl _) hlt2 g4 ⟨ro, m, cap, r⟩ g1 (by rw [← HY.out, ← T1.out.val]; exact g2) g3
        clear hrow1 g1 g2 g3 g4 HI
        go_wp2_with fail
        go_roundw
        case rel => exact ⟨q + 1, _, by omega, by go_num, NX.out⟩
        case measure => simp [intOf]; omega
      · have hqm : q = m2 := by omega
        clear hinv
        subst hqm
        go_wp2_with fail
        refine (sum_any _ _ (q + m1 + 1) rs _ (HI.out.rowsAt rfl) HI.out.len (by omega) (fun j h => by have := HI.out.size j h; have := HI.out.len; omega) (by omega)).mono ?_
        rintro e w1 ⟨ro, m, cap, r, rfl, g1, g2, g3, g4⟩
        go_wp2
        go_ret
        exact ⟨ro, m, cap, r, rfl, g1, by rw [FI.out _ _ _ HI.out rfl] at g2; exact g2, by omega, HI.out.bel.trans (g4.mono HI.out.bel.size)⟩
end Go.Proofs.Ytnkjfandknndkaa
