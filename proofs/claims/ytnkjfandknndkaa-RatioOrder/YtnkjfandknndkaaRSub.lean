/-
  The reference's Sub.
-/
import Derived.Test.YtnkjfandknndkaaRCmp
namespace Go.Proofs.Ytnkjfandknndkaa
open Go.RowKit

theorem rsub_step {v c p q P x y s : Int} (h : v - c * P = p - q) (hs : s = x + HH - y - c) : v + (s % HH) * P - (1 - s / HH) * (P * HH) = (p + x * P) - (q + y * P) := by
  have h1 := Int.emod_add_mul_ediv s HH
  have h2 : (s % HH + HH * (s / HH)) * P = s * P := by rw [h1]
  rw [hs] at h2 ⊢
  grind

/-- What the loop of the reference's Sub holds. -/
structure RSubInv (w2 : World) (dx dy : List Int) (k g c : Nat) (cv : Int) (zs : List Int) (wr : World) : Prop where
  own : OwnR wr w2.heap.size g k c zs
  bel : Below w2.heap.size w2 wr
  halves : Halves zs
  len : zs.length = k
  c0 : 0 ≤ cv
  c1 : cv ≤ 1
  val : hval zs - cv * HH ^ k = hpv dx k - hpv dy k

theorem RSubInv.next {w2 : World} {dx dy : List Int} {k g c : Nat} {cv : Int} {zs : List Int} {wr wq : World} (h : RSubInv w2 dx dy k g c cv zs wr) (hx : Halves dx) (hy : Halves dy)
    {s : Int} (hs : s = lim dx k + 4294967296 - lim dy k - cv) (hq : Eqw wq wr) {gg cp : Nat} {w1 : World} (ho : OwnR w1 w2.heap.size gg (k + 1) cp (zs ++ [s % 4294967296])) (hg : (wq.alloc (Obj.cells #[.int .u64 (s % 4294967296)] 50)).grownBy w1 (some g)) :
    RSubInv w2 dx dy (k + 1) gg cp (1 - s / 4294967296) (zs ++ [s % 4294967296]) w1 := by
  have bx := half_bd hx k
  have bY := half_bd hy k
  have hgw := h.own.lt
  have c0 := h.c0
  have c1 := h.c1
  have hb := hq.below h.bel
  refine ⟨ho, (hb.alloc hb.size _).grown hg (by simp; have := hb.size; omega) (fun j hj => by cases hj; exact hgw.1), halves_snoc h.halves (by omega) (by unfold HH; omega), by simp [h.len], ?_, ?_, ?_⟩
  · unfold HH at bx bY; omega
  · unfold HH at bx bY; omega
  · rw [hval_snoc, h.len, hw_succ, hpv, hpv]
    exact rsub_step h.val hs

theorem Eqw.own {w' w : World} (h : Eqw w' w) {base g n cap : Nat} {zs : List Int} (ho : OwnR w base g n cap zs) : OwnR w' base g n cap zs := by
  unfold OwnR World.ownsRow at *
  rw [h.heap]
  exact ho

theorem rsub_end {dx dy zs : List Int} {L : Nat} {cv : Int} (hx : Halves dx) (hy : Halves dy) (hz : Halves zs) (lx : dx.length = L) (lz : zs.length = L) (hle : hval dy ≤ hval dx) (c0 : 0 ≤ cv) (c1 : cv ≤ 1) (h : hval zs - cv * HH ^ L = hpv dx L - hpv dy L) : hval zs = hval dx - hval dy := by
  have bx := hval_bd hx
  rw [lx] at bx
  have bz := hval_bd hz
  rw [lz] at bz
  have e1 : hpv dx L = hval dx := hpv_val dx L (by omega)
  have e2 : hpv dy L = hval dy := by
    rcases Nat.lt_or_ge dy.length L with h' | h'
    · exact hpv_val dy L (by omega)
    · have hm := (hpv_mono hy h').2
      rw [hpv_val dy dy.length (Nat.le_refl _)] at hm
      exact (hm (by omega)).symm
  rw [e1, e2] at h
  have hc : cv = 0 ∨ cv = 1 := by omega
  rcases hc with rfl | rfl
  · omega
  · omega

set_option maxRecDepth 100000 in
set_option maxHeartbeats 2000000 in
theorem rsub_ok (ao bo : Option Addr) (na ca nb cb : Nat) (xs ys : List Int) (w : World) (ha : RowAt w ao na ca xs) (hb : RowAt w bo nb cb ys) (hna : na ≤ 90000) (hnb : nb ≤ 90000) (hle : val ys ≤ val xs) :
    Calls Try.prog 62 #[.slice ao na ca, .slice bo nb cb] w fun e w' => ∃ ro m cap r, e = .returned (.tuple #[.slice ro m cap, .bool true]) ∧ RowAt w' ro m cap r ∧ Num r (val xs - val ys) ∧ Below w.heap.size w w' := by
  obtain ⟨i0, hi, hz0, hz1, hz2⟩ := info_parts Try.info50
  have HA : Hid (RowAt w ao na ca xs) := ha
  have HB : Hid (RowAt w bo nb cb ys) := hb
  have HX : Hid (Halves (hd xs) ∧ (hd xs).length = 2 * na ∧ hval (hd xs) = val xs) := ⟨hd_halves ha.limbs, by rw [hd_length, ha.len], hd_val xs⟩
  have HY : Hid (Halves (hd ys) ∧ (hd ys).length = 2 * nb ∧ hval (hd ys) = val ys) := ⟨hd_halves hb.limbs, by rw [hd_length, hb.len], hd_val ys⟩
  have HV : Hid (val ys ≤ val xs) := hle
  obtain ⟨cc, hcc⟩ : ∃ c, c = cmpI (val xs) (val ys) := ⟨_, rfl⟩
  have hc0 : ¬ cc < 0 := by rw [hcc, cmpI, if_neg (by omega)]; split <;> omega
  have HC : Hid (cc = cmpI (val xs) (val ys)) := hcc
  clear ha hb hle hcc
  go_enter Try.func62, Try.ntmps62
  go_wp2_with fail
  refine (rcmp_val _ _ _ _ _ _ xs ys _ HA.out HB.out (by omega) (by omega) cc HC.out).mono ?_
  rintro e w0 ⟨rfl, b0⟩
  have B0 : Hid (Below w.heap.size w w0) := b0
  clear b0
  go_wp2_with fail
  refine (digits_any _ _ _ xs _ (HA.out.below B0.out) (by omega)).mono ?_
  rintro e w1 ⟨xo, xc, rfl, hx1, b1⟩
  have X1 : Hid (RowAt w1 xo (2 * na) xc (hd xs)) := hx1
  have B1 : Hid (Below w.heap.size w w1) := chain B0.out b1
  clear hx1 b1 B0
  go_wp2_with fail
  refine (digits_any _ _ _ ys _ (HB.out.below B1.out) (by omega)).mono ?_
  rintro e w2 ⟨yo, yc, rfl, hy2, b2⟩
  have X2 : Hid (RowAt w2 xo (2 * na) xc (hd xs)) := X1.out.below b2
  have Y2 : Hid (RowAt w2 yo (2 * nb) yc (hd ys)) := hy2
  have B2 : Hid (Below w.heap.size w w2) := chain B1.out b2
  clear hy2 b2 X1 B1 HA HB HC hc0
  generalize hd xs = dx at *
  generalize hd ys = dy at *
  by_cases hn0 : na = 0
  · subst hn0
    have HR : Hid (RowAt (w2.alloc (Obj.cells #[] 50)) (some ⟨w2.heap.size, 0, none⟩) 0 0 []) := (OwnR.nil w2).row (by intro x hx; simp at hx)
    have hz : dx = [] := List.length_eq_zero_iff.1 HX.out.2.1
    have HE : Hid (val xs - val ys = 0) := by
      show val xs - val ys = 0
      have h1 := HX.out.2.2
      have h2 := (hval_bd HY.out.1).1
      have h3 := HV.out
      rw [hz] at h1
      simp [hval] at h1
      rw [HY.out.2.2] at h2
      omega
    clear hz
    go_wp2_with fail
    refine wp_loop_rounds 1 ?_
    rw [rounds_succ]
    go_wp2_with fail
    refine (whole_any _ _ _ [] _ HR.out (by intro x hx; simp at hx) (by omega)).mono ?_
    rintro e w3 ⟨ro, m, cp, r, rfl, h1, h2, h3, h4⟩
    go_wp2
    go_ret2
    refine ⟨ro, m, cp, r, rfl, h1, by rw [HE.out]; exact h2, chain B2.out (chain ((Below.refl _ _).alloc (Nat.le_refl _) _) h4)⟩
  · obtain ⟨b, off, rfl, hlt, hc⟩ := X2.out.cells (by intro e; have := HX.out.2.1; rw [e] at this; simp at this; omega)
    have HC : Hid (∀ j, j < 2 * na → w2.cell? ⟨b, off + j, none⟩ = some (.int .u64 (lim dx j))) := fun j hj => by rw [hc j (by rw [HX.out.2.1]; exact hj), lim_nat]
    clear hc
    go_wp2_with fail
    go_loopw [8, 9, 10, 11] (fun o cr i _ wr => ∃ (k g c : Nat) (cv : Int) (zs : List Int), k ≤ 2 * na ∧ i = .int .i64 k ∧ o = .slice (some ⟨g, 0, none⟩) k c ∧ cr = .int .u64 cv ∧ RSubInv w2 dx dy k g c cv zs wr) (fun _ _ i _ _ => 2 * na - (intOf i).toNat)
    case atStart => exact ⟨0, w2.heap.size, 0, 0, [], Nat.zero_le _, rfl, rfl, rfl, ⟨OwnR.nil w2, (Below.refl _ _).alloc (Nat.le_refl _) _, by intro x hx; simp at hx, rfl, Int.le_refl _, by omega, by simp [hval, hpv]⟩⟩
    case round =>
      obtain ⟨k, g, c, cv, zs, hkM, rfl, rfl, rfl, hinv⟩ := hrel
      have HI : Hid (RSubInv w2 dx dy k g c cv zs wr) := hinv
      have c0 := hinv.c0
      have c1 := hinv.c1
      have hsz : w2.heap.size ≤ wr.heap.size := hinv.bel.size
      by_cases hlt2 : k < 2 * na
      · have g1 : (0 : Int) ≤ (k : Int) := by omega
        have g2 : (k : Int) < ((2 * na : Nat) : Int) := by omega
        have hcx : wr.cell? ⟨b, off + k, none⟩ = some (.int .u64 (lim dx k)) := (hinv.bel.cell (p := ⟨b, off + k, none⟩) hlt).trans (HC.out k hlt2)
        have bx := half_bd HX.out.1 k
        have bY := half_bd HY.out.1 k
        obtain ⟨x, hx⟩ : ∃ x, x = lim dx k := ⟨_, rfl⟩
        rw [← hx] at bx hcx
        have EX : Hid (x = lim dx k) := hx
        unfold HH at bx bY
        have x0 := bx.1
        have x1 := bx.2
        have y0 := bY.1
        have y1 := bY.2
        have q1 : IntKind.u64.wrap (x + 4294967296) = x + 4294967296 := IntWalk.u64_in _ ⟨by omega, by omega⟩
        have q2 : IntKind.u64.wrap (x + 4294967296 - lim dy k) = x + 4294967296 - lim dy k := IntWalk.u64_in _ ⟨by omega, by omega⟩
        have q3 : IntKind.u64.wrap (x + 4294967296 - lim dy k - cv) = x + 4294967296 - lim dy k - cv := IntWalk.u64_in _ ⟨by omega, by omega⟩
        clear hinv hx bx bY
        go_wp2_with fail
        go_quiet ((go_at_call 51; exact Calls.quiet_of_same (rat_any _ _ _ dy k _ ((Y2.out.below HI.out.bel).drewN _))))
        obtain ⟨s, hs⟩ : ∃ s, s = x + 4294967296 - lim dy k - cv := ⟨_, rfl⟩
        have s0 : 0 ≤ s := by omega
        have s1 : s ≤ 8589934591 := by omega
        have HS : Hid (s = lim dx k + 4294967296 - lim dy k - cv) := by rw [hs, EX.out]; rfl
        rw [← hs]
        clear hs q1 q2 q3
        go_wp2_with (at_builtin; refine wpList_append_lies _ rfl (.tmp 38) (.tmp 41) 22 rfl w2.heap.size 50 i0 (.int .u64 0) 1 8 Try.underlying22 hi hz0 hz1 hz2 rfl (by decide) _ k (zs.map (Value.int .u64)) rfl ((((Eqw.refl wr).drewN nq).own HI.out.own).alloc _) ⟨wr.heap.size, 0, none⟩ 1 1 [.int .u64 (s % 4294967296)] rfl rfl (World.news_of_block (cs := #[.int .u64 (s % 4294967296)]) (t := 50) (fr := (0, 0)) (heap_alloc_new (wr.drewN nq) _)) (by simp [Value.oneCell']) (by omega) (by unfold maxLen; omega) (by omega) (by simp; omega) (wr.heap.size + 1) (by simp) ?_)
        intro gg cp w3 hown1 hgrow _ _
        have hr := HI.out.next HX.out.1 HY.out.1 HS.out ((Eqw.refl wr).drewN nq) (by unfold OwnR; rw [List.map_append]; exact hown1) hgrow
        have HR : Hid _ := hr
        clear hr hown1 hgrow
        go_wp2_with fail
        go_roundw
        case rel => exact ⟨k + 1, gg, cp, _, _, by omega, by go_num, rfl, rfl, HR.out⟩
        case measure => simp [intOf]; omega
      · have HR : Hid (RowAt wr (some ⟨g, 0, none⟩) k c zs) := HI.out.own.row HI.out.halves.limbs
        have HK : Hid (k = 2 * na) := by show k = 2 * na; omega
        clear hinv
        go_wp2_with fail
        refine (whole_any _ _ _ zs _ HR.out HI.out.halves (by omega)).mono ?_
        rintro e w3 ⟨ro, m, cp, r, rfl, h1, h2, h3, h4⟩
        go_wp2
        go_ret2
        refine ⟨ro, m, cp, r, rfl, h1, ?_, chain B2.out (chain HI.out.bel h4)⟩
        rw [rsub_end HX.out.1 HY.out.1 HI.out.halves (by rw [HK.out]; exact HX.out.2.1) HI.out.len (by rw [HX.out.2.2, HY.out.2.2]; exact HV.out) c0 c1 HI.out.val, HX.out.2.2, HY.out.2.2] at h2
        exact h2

set_option maxHeartbeats 400000 in
theorem rsub_no (ao bo : Option Addr) (na ca nb cb : Nat) (xs ys : List Int) (w : World) (ha : RowAt w ao na ca xs) (hb : RowAt w bo nb cb ys) (hna : na ≤ 90000) (hnb : nb ≤ 90000) (hlt : val xs < val ys) :
    Calls Try.prog 62 #[.slice ao na ca, .slice bo nb cb] w fun e w' => e = .returned (.tuple #[.slice none 0 0, .bool false]) ∧ Below w.heap.size w w' := by
  have HA : Hid (RowAt w ao na ca xs) := ha
  have HB : Hid (RowAt w bo nb cb ys) := hb
  have HC : Hid (-1 = cmpI (val xs) (val ys)) := by rw [cmpI, if_pos hlt]; rfl
  clear ha hb hlt
  go_enter Try.func62, Try.ntmps62
  go_wp2_with fail
  refine (rcmp_val _ _ _ _ _ _ xs ys _ HA.out HB.out (by omega) (by omega) (-1) HC.out).mono ?_
  rintro e w0 ⟨rfl, b0⟩
  go_wp2_with fail
  go_ret2
  exact ⟨rfl, b0⟩
end Go.Proofs.Ytnkjfandknndkaa
