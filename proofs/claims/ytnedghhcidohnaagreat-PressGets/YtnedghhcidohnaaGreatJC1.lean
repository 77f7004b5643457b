/-
  Joined: Build · Laid.
-/
import Derived.Deep.OwnRows
import Derived.Test.YtnedghhcidohnaaGreatJB1

/-! limb.trimLen and limb.build: the walks. -/
namespace Go.Proofs.YtnedghhcidohnaaGreat
open Go.RowKit

set_option maxHeartbeats 400000 in
theorem trimLen_any (ao : Option Addr) (n cap : Nat) (xs : List Int) (w : World) (h : RowAt w ao n cap xs) :
    Calls Tryz.prog 141 #[.slice ao n cap] w fun e w' => ∃ m : Nat, e = .returned (.int .i64 m) ∧ Tl xs m ∧ w' = w := by
  obtain rfl := h.len
  have hl : xs.length ≤ maxLen := Nat.le_trans h.fits h.most
  unfold maxLen at hl
  by_cases h0 : xs = []
  · subst h0
    go_enter Tryz.func141, Tryz.ntmps141
    go_wp2
    refine wp_loop_rounds 1 ?_
    rw [rounds_succ]
    go_wp2
    go_ret
    exact ⟨0, rfl, ⟨by simp, by simp, by simp⟩, rfl⟩
  · obtain ⟨b, off, rfl, hlt, hc⟩ := h.cells h0
    clear h
    go_enter Tryz.func141, Tryz.ntmps141
    go_wp2
    go_loop [3] (fun n => ∃ k : Nat, k ≤ xs.length ∧ n = .int .i64 k ∧ ∀ j, k ≤ j → xs.getD j 0 = 0) (fun n => (intOf n).toNat)
    case atStart => exact ⟨xs.length, Nat.le_refl _, rfl, fun j hj => by simp [hj]⟩
    case round =>
      obtain ⟨k, hk, rfl, hz⟩ := hrel
      have HZ : Hid (∀ j, k ≤ j → xs.getD j 0 = 0) := hz
      clear hz
      by_cases hk0 : k = 0
      · subst hk0
        go_wp2
        go_ret
        exact ⟨0, rfl, ⟨by omega, HZ.out, by simp⟩, rfl⟩
      · obtain ⟨m, rfl⟩ := Nat.exists_eq_succ_of_ne_zero hk0
        have hck := hc m (by omega)
        obtain ⟨x, hx⟩ : ∃ x, x = xs.getD m 0 := ⟨_, rfl⟩
        rw [← hx] at hck
        have HX : Hid (x = xs.getD m 0) := hx
        have HC : Hid (∀ j, j < xs.length → w.cell? ⟨b, off + j, none⟩ = some (.int .u64 (xs.getD j 0))) := hc
        clear hc hx
        by_cases hx0 : x = 0
        · have HX0 : Hid (x = 0) := hx0
          have hb0 : (x == 0) = true := by simp [hx0]
          clear hx0
          go_wp2
          go_round
          case rel =>
            refine ⟨m, by omega, by go_num, fun j hj => ?_⟩
            by_cases e : j = m
            · rw [e, ← HX.out]; exact HX0.out
            · exact HZ.out j (by omega)
          case measure => simp [intOf]
        · have hb0 : (x == 0) = false := by simp [hx0]
          go_wp2
          go_ret
          exact ⟨m + 1, rfl, ⟨hk, HZ.out, fun _ => by rw [Nat.add_sub_cancel, ← HX.out]; exact hx0⟩, rfl⟩
theorem Tryz.info56 : (Tryz.prog.info? 56).map (fun i => (i.zero, i.size, i.bytes)) = some (some (.int .u64 0), 1, 8) := by kernel_rfl

/-- What is told begins in memory of its own. -/
def Fresh (B : Nat) (ao : Option Addr) : Prop := ∀ p, ao = some p → B ≤ p.block
theorem Fresh.none (B : Nat) : Fresh B .none := fun p hp => by cases hp
theorem Fresh.at (B o : Nat) : Fresh B (some ⟨B, o, .none⟩) := fun p hp => by cases hp; exact Nat.le_refl _
theorem Fresh.mono {B B' : Nat} {ao : Option Addr} (h : Fresh B ao) (hb : B' ≤ B) : Fresh B' ao := fun p hp => Nat.le_trans hb (h p hp)

set_option maxHeartbeats 400000 in
theorem build_fresh (n K : Nat) (caps : Array Value) (Inv : List Int → World → Prop) (w : World) (hn : n ≤ 1000000) (h0 : Inv [] w)
    (heg : ∀ args w, (callFunc K args).run Tryz.prog w = .ok (.enter K args) w)
    (hkeep : ∀ xs w1 w2, Inv xs w1 → Below w.heap.size w1 w2 → Inv xs w2)
    (hstep : ∀ xs wr, xs.length < n → Inv xs wr → Calls Tryz.prog K (#[.int .i64 (xs.length : Nat)] ++ caps) wr fun e w' => ∃ x, e = .returned (.int .u64 x) ∧ 0 ≤ x ∧ x < BB ∧ Inv (xs ++ [x]) w' ∧
      (∀ k, w.heap.size ≤ k → w'.heap[k]? = wr.heap[k]?) ∧ w'.heap.size = wr.heap.size) :
    Calls Tryz.prog 140 #[.int .i64 n, .func (.func K) #[] caps] w fun e w' => ∃ ao cap m xs, e = .returned (.slice ao m cap) ∧ xs.length = n ∧ Limbs xs ∧ Tl xs m ∧ RowAt w' ao m cap (xs.take m) ∧ Fresh w.heap.size ao ∧ Inv xs w' := by
  have hmk := run_make_row' (P := Tryz.prog) 42 56 (.int .u64 0) 8 Tryz.underlying42 Tryz.info56 rfl .i64 .i64 n (by omega) (by omega)
  have HS : Hid _ := hstep
  have HK : Hid _ := hkeep
  have H0 : Hid _ := h0
  clear hstep hkeep h0
  go_enter Tryz.func140, Tryz.ntmps140
  go_wp2
  go_loopw [11, 6] (fun i _ wr => ∃ xs : List Int, xs.length ≤ n ∧ i = .int .i64 xs.length ∧ Limbs xs ∧ wr.rowIs w.heap.size 56 n (fun j => .int .u64 (xs.getD j 0)) ∧ Inv xs wr)
    (fun i _ _ => n - (intOf i).toNat)
  case atStart =>
    refine ⟨[], Nat.zero_le _, rfl, by intro x hx; simp at hx, ?_, ?_⟩
    · exact (World.rowIs_made w _ n 56).congr (fun i hi => by simp)
    · exact HK.out _ _ _ H0.out ((Below.refl _ _).alloc (Nat.le_refl _) _)
  case round =>
    obtain ⟨xs, hk, rfl, hlm, hrow, hinv⟩ := hrel
    by_cases hlt : xs.length < n
    · go_wp2_with fail
      refine (HS.out xs wr hlt hinv).mono ?_
      rintro e w1 ⟨x, rfl, hx0, hx1, hinv1, hblk, hsz⟩
      have hrow1 := hrow.of_block (hblk _ (Nat.le_refl _))
      have hcell := hrow1.cell hlt
      have hfree := hrow1.frozen xs.length
      have HB : Hid (0 ≤ x ∧ x < BB) := ⟨hx0, hx1⟩
      have HR : Hid _ := hrow1
      clear hinv hrow hrow1 hblk hsz hx0 hx1
      go_wp2
      go_roundw
      case rel =>
        refine ⟨xs ++ [x], by simp; omega, by simp, ?_, ?_, ?_⟩
        · intro y hy
          rcases List.mem_append.1 hy with h | h
          · exact hlm y h
          · rw [List.mem_singleton.1 h]; exact HB.out
        · refine (World.rowIs.set HR.out xs.length _).congr fun j hj => ?_
          by_cases e : j = xs.length
          · subst e; simp
          · rw [if_neg e]
            by_cases e2 : j < xs.length
            · simp [e2, List.getElem?_append_left]
            · simp [List.getElem?_eq_none (show xs.length ≤ j by omega), List.getElem?_eq_none (show (xs ++ [x]).length ≤ j by simp; omega)]
        · exact HK.out _ _ _ hinv1 ((Below.refl _ _).setCell (by show w.heap.size ≤ w.heap.size; exact Nat.le_refl _) _)
      case measure => simp [intOf]; omega
    · have hlen : xs.length = n := by omega
      have hR : RowAt wr (some ⟨w.heap.size, 0, none⟩) n n xs := ⟨hlen, hlm, by omega, by unfold maxLen; omega, by simp, fun _ => ⟨_, _, rfl, hrow.lt, fun j hj => by rw [Nat.zero_add]; exact hrow.cell (by omega)⟩⟩
      have HI : Hid _ := hinv
      have HL : Hid _ := hlen
      have HM : Hid _ := hlm
      have HN : Hid (RowAt wr (some ⟨w.heap.size, 0, none⟩) n n xs) := hR
      clear hinv hrow hlm hlen hR hmk
      go_wp2_with fail
      refine (trimLen_any _ _ _ xs _ HN.out).mono ?_
      rintro e w1 ⟨m, rfl, htl, rfl⟩
      have hmn : m ≤ n := by have := htl.1; have := HL.out; omega
      have HT : Hid _ := htl
      clear htl
      by_cases hm0 : m = 0
      · subst hm0
        go_wp2
        go_ret
        exact ⟨none, 0, 0, xs, rfl, HL.out, HM.out, HT.out, by simpa using RowAt.nil _, Fresh.none _, HI.out⟩
      · have hm1 : ((m : Int) == 0) = false := by rw [beq_eq_false_iff_ne]; omega
        go_wp2
        go_ret
        refine ⟨some ⟨w.heap.size, 0, none⟩, n, m, xs, rfl, HL.out, HM.out, HT.out, ⟨by have := HL.out; simp; omega, fun x hx => HM.out x (List.mem_of_mem_take hx), hmn, by unfold maxLen; omega, by simp, fun _ => ?_⟩, Fresh.at _ _, HI.out⟩
        obtain ⟨b, off, e, hb, hc⟩ := HN.out.cells (by intro e; have := HL.out; rw [e] at this; simp at this; omega)
        refine ⟨b, off, e, hb, fun j hj => ?_⟩
        simp only [List.length_take] at hj
        rw [hc j (by omega)]
        simp [show j < m by omega]


theorem build_any (n K : Nat) (caps : Array Value) (Inv : List Int → World → Prop) (w : World) (hn : n ≤ 1000000) (h0 : Inv [] w)
    (heg : ∀ args w, (callFunc K args).run Tryz.prog w = .ok (.enter K args) w)
    (hkeep : ∀ xs w1 w2, Inv xs w1 → Below w.heap.size w1 w2 → Inv xs w2)
    (hstep : ∀ xs wr, xs.length < n → Inv xs wr → Calls Tryz.prog K (#[.int .i64 (xs.length : Nat)] ++ caps) wr fun e w' => ∃ x, e = .returned (.int .u64 x) ∧ 0 ≤ x ∧ x < BB ∧ Inv (xs ++ [x]) w' ∧
      (∀ k, w.heap.size ≤ k → w'.heap[k]? = wr.heap[k]?) ∧ w'.heap.size = wr.heap.size) :
    Calls Tryz.prog 140 #[.int .i64 n, .func (.func K) #[] caps] w fun e w' => ∃ ao cap m xs, e = .returned (.slice ao m cap) ∧ xs.length = n ∧ Limbs xs ∧ Tl xs m ∧ RowAt w' ao m cap (xs.take m) ∧ Inv xs w' :=
  (build_fresh n K caps Inv w hn h0 heg hkeep hstep).mono fun _ _ ⟨ao, cap, m, xs, h1, h2, h3, h4, h5, _, h7⟩ => ⟨ao, cap, m, xs, h1, h2, h3, h4, h5, h7⟩
end Go.Proofs.YtnedghhcidohnaaGreat

/-! A row that has just been laid. -/
namespace Go.Proofs.YtnedghhcidohnaaGreat
open Go.RowKit

/-- A row that has just been laid. -/
theorem RowAt.laid (w : World) (zs : List Int) (hl : Limbs zs) (hn : zs.length ≤ maxLen) : RowAt (w.alloc (Obj.cells (zs.map (Value.int .u64)).toArray 56)) (some ⟨w.heap.size, 0, none⟩) zs.length zs.length zs := by
  have h := World.ownsRow_lit (base := 0) (e := 56) (size := 1) w (zs.map (Value.int .u64)).toArray zs.length (Nat.zero_le _) hn (by simp)
  obtain ⟨a, c, e, hr⟩ := RowAt.owns h hl
  cases e
  exact hr

end Go.Proofs.YtnedghhcidohnaaGreat
