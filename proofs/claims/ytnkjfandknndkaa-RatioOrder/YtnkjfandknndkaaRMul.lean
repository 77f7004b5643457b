/-
  The reference's Mul.
-/
import Derived.Test.YtnkjfandknndkaaRSub
namespace Go.Proofs.Ytnkjfandknndkaa
open Go.RowKit

theorem hval_set (os : List Int) (j : Nat) (v : Int) (h : j < os.length) : hval (os.set j v) = hval os + (v - lim os j) * HH ^ j := by
  induction os generalizing j with
  | nil => simp at h
  | cons x xs ih =>
    cases j with
    | zero => simp [hval, lim]; omega
    | succ j =>
      have e : lim (x :: xs) ((j + 1 : Nat) : Int) = lim xs j := by rw [lim_nat, lim_nat]; simp
      rw [List.set_cons_succ, hval, hval, ih j (by simpa using h), e, hw_succ]
      grind

theorem hval_zeros (k : Nat) : hval (List.replicate k 0) = 0 := by
  induction k with
  | zero => rfl
  | succ k ih => rw [List.replicate_succ, hval, ih]; simp
theorem halves_zeros (k : Nat) : Halves (List.replicate k 0) := fun x hx => by rw [List.eq_of_mem_replicate hx]; exact ⟨Int.le_refl _, HH_pos⟩
theorem halves_set {os : List Int} (h : Halves os) (j : Nat) {v : Int} (h0 : 0 ≤ v) (h1 : v < HH) : Halves (os.set j v) := by
  intro x hx
  rcases List.mem_or_eq_of_mem_set hx with h' | h'
  · exact h x h'
  · rw [h']; exact ⟨h0, h1⟩

theorem half_mul {x y : Int} (hx : 0 ≤ x) (hy : 0 ≤ y) (hxB : x < HH) (hyB : y < HH) : 0 ≤ x * y ∧ x * y ≤ 18446744065119617025 := by
  refine ⟨Int.mul_nonneg hx hy, ?_⟩
  have := Int.mul_le_mul (show x ≤ 4294967295 by unfold HH at hxB; omega) (show y ≤ 4294967295 by unfold HH at hyB; omega) hy (by omega : (0 : Int) ≤ 4294967295)
  simpa using this

/-- What the inner loop of the reference's Mul holds. -/
structure RMulInv (w2 : World) (dx dy : List Int) (g c L i k : Nat) (cv : Int) (os : List Int) (wr : World) : Prop where
  own : OwnR wr w2.heap.size g L c os
  bel : Below w2.heap.size w2 wr
  halves : Halves os
  len : os.length = L
  c0 : 0 ≤ cv
  c1 : cv < HH
  val : hval os + cv * HH ^ (i + k) = hpv dx i * hval dy + lim dx i * HH ^ i * hpv dy k
  most : k ≤ dy.length + 1

theorem RMulInv.go {w2 : World} {dx dy : List Int} {g c L i k : Nat} {cv : Int} {os : List Int} {wr : World} (h : RMulInv w2 dx dy g c L i k cv os wr) (hx : Halves dx) (hy : Halves dy) (hgo : k < dy.length ∨ 0 < cv) : k ≤ dy.length := by
  rcases hgo with h' | h'
  · omega
  · rcases Nat.lt_or_ge dy.length k with hk | hk
    · exfalso
      have hv := h.val
      rw [hpv_val dy k (by omega)] at hv
      have e : hpv dx i * hval dy + lim dx i * HH ^ i * hval dy = hpv dx (i + 1) * hval dy := by rw [hpv]; grind
      rw [e] at hv
      have b1 := hpv_bd hx (i + 1)
      have b2 := hval_bd hy
      have b3 := (hval_bd h.halves).1
      have h1 : hpv dx (i + 1) * hval dy ≤ HH ^ (i + 1) * hval dy := Int.mul_le_mul_of_nonneg_right (Int.le_of_lt b1.2) b2.1
      have h2 : HH ^ (i + 1) * hval dy < HH ^ (i + 1) * HH ^ dy.length := Int.mul_lt_mul_of_pos_left b2.2 (hw_pos _)
      rw [← hw_add] at h2
      have h3 := hw_le (show i + 1 + dy.length ≤ i + k by omega)
      have h4 : (1 : Int) * HH ^ (i + k) ≤ cv * HH ^ (i + k) := Int.mul_le_mul_of_nonneg_right h' (Int.le_of_lt (hw_pos _))
      omega
    · exact hk

theorem rmul_step {v c x y P o s p q Hi K : Int} (h : v + c * P = p + x * Hi * q) (hP : P = Hi * K) (hs : s = o + x * y + c) : v + (s % HH - o) * P + s / HH * (P * HH) = p + x * Hi * (q + y * K) := by
  have h1 := Int.emod_add_mul_ediv s HH
  have h2 : (s % HH + HH * (s / HH)) * P = s * P := by rw [h1]
  have h3 : x * Hi * (y * K) = x * y * P := by rw [hP]; grind
  rw [hs] at h2 ⊢
  grind

theorem RMulInv.next {w2 : World} {dx dy : List Int} {g c L i k : Nat} {cv : Int} {os : List Int} {wr wq : World} (h : RMulInv w2 dx dy g c L i k cv os wr) (hx : Halves dx) (hy : Halves dy) (hgo : k ≤ dy.length) (hL : i + k < L)
    {s : Int} (hs : s = lim os ((i + k : Nat) : Int) + lim dx i * lim dy k + cv) (hq : Eqw wq wr) :
    RMulInv w2 dx dy g c L i (k + 1) (s / 4294967296) (os.set (i + k) (s % 4294967296)) (wq.setCell ⟨g, i + k, none⟩ (.int .u64 (s % 4294967296))) := by
  have bx := half_bd hx i
  have bY := half_bd hy k
  have bo := half_bd h.halves (i + k)
  have bm := half_mul bx.1 bY.1 bx.2 bY.2
  have hgw := h.own.lt
  have c0 := h.c0
  have c1 := h.c1
  have hb := hq.below h.bel
  have hst := World.ownsRow.stored (hq.own h.own) (i + k) (.int .u64 (s % 4294967296))
  refine ⟨?_, hb.setCell hgw.1 _, halves_set h.halves _ (by omega) (by unfold HH; omega), by simp [h.len], ?_, ?_, ?_, by omega⟩
  · unfold OwnR
    rw [List.map_set]
    exact hst.1
  · generalize lim dx i * lim dy k = P at *
    unfold HH at *; omega
  · generalize lim dx i * lim dy k = P at *
    unfold HH at *; omega
  · rw [hval_set os (i + k) _ (by rw [h.len]; exact hL), ← Nat.add_assoc, hw_succ, hpv]
    exact rmul_step h.val (hw_add i k) hs

/-- What the outer loop of the reference's Mul holds. -/
structure RMulOut (w2 : World) (g c L : Nat) (v : Int) (os : List Int) (wr : World) : Prop where
  own : OwnR wr w2.heap.size g L c os
  bel : Below w2.heap.size w2 wr
  halves : Halves os
  len : os.length = L
  val : hval os = v

set_option maxRecDepth 100000 in
set_option maxHeartbeats 4000000 in
theorem rmul_any (ao bo : Option Addr) (na ca nb cb : Nat) (xs ys : List Int) (w : World) (ha : RowAt w ao na ca xs) (hb : RowAt w bo nb cb ys) (hna : na ≤ 40000) (hnb : nb ≤ 40000) :
    Calls Try.prog 27 #[.slice ao na ca, .slice bo nb cb] w fun e w' => ∃ ro m cap r, e = .returned (.slice ro m cap) ∧ RowAt w' ro m cap r ∧ Num r (val xs * val ys) ∧ Below w.heap.size w w' := by
  obtain ⟨i0, hi, hz0, hz1, hz2⟩ := info_parts Try.info50
  have HA : Hid (RowAt w ao na ca xs) := ha
  have HB : Hid (RowAt w bo nb cb ys) := hb
  have HX : Hid (Halves (hd xs) ∧ (hd xs).length = 2 * na ∧ hval (hd xs) = val xs) := ⟨hd_halves ha.limbs, by rw [hd_length, ha.len], hd_val xs⟩
  have HY : Hid (Halves (hd ys) ∧ (hd ys).length = 2 * nb ∧ hval (hd ys) = val ys) := ⟨hd_halves hb.limbs, by rw [hd_length, hb.len], hd_val ys⟩
  clear ha hb
  go_enter Try.func27, Try.ntmps27
  go_wp2_with fail
  refine (digits_any _ _ _ xs _ HA.out (by omega)).mono ?_
  rintro e w1 ⟨xo, xc, rfl, hx1, b1⟩
  have X1 : Hid (RowAt w1 xo (2 * na) xc (hd xs)) := hx1
  have B1 : Hid (Below w.heap.size w w1) := b1
  clear hx1 b1
  go_wp2_with fail
  refine (digits_any _ _ _ ys _ (HB.out.below B1.out) (by omega)).mono ?_
  rintro e w2 ⟨yo, yc, rfl, hy2, b2⟩
  have X2 : Hid (RowAt w2 xo (2 * na) xc (hd xs)) := X1.out.below b2
  have Y2 : Hid (RowAt w2 yo (2 * nb) yc (hd ys)) := hy2
  have B2 : Hid (Below w.heap.size w w2) := chain B1.out b2
  clear hy2 b2 X1 B1 HA HB
  generalize hd xs = dx at *
  generalize hd ys = dy at *
  obtain ⟨L, hL⟩ : ∃ L, L = 2 * na + 2 * nb + 1 := ⟨_, rfl⟩
  have hL1 : L ≤ 2 * na + 2 * nb + 1 := by omega
  have hL2 : 2 * na + 2 * nb + 1 ≤ L := by omega
  clear hL
  cases xo with
  | none =>
    go_wp2_with fail
    go_loopw [7, 8] (fun o i wr => ∃ k g c : Nat, k ≤ L ∧ i = .int .i64 k ∧ o = .slice (some ⟨g, 0, none⟩) k c ∧ OwnR wr w2.heap.size g k c (List.replicate k 0) ∧ Below w2.heap.size w2 wr) (fun _ i _ => L - (intOf i).toNat)
    case atStart => exact ⟨0, w2.heap.size, 0, Nat.zero_le _, rfl, rfl, OwnR.nil w2, (Below.refl _ _).alloc (Nat.le_refl _) _⟩
    case round =>
      obtain ⟨k, g, c, hk, rfl, rfl, hown, hbel⟩ := hrel
      have HO : Hid (OwnR wr w2.heap.size g k c (List.replicate k 0)) := hown
      have HBB : Hid (Below w2.heap.size w2 wr) := hbel
      have hgw := hown.lt
      have hsz : w2.heap.size ≤ wr.heap.size := hbel.size
      clear hown hbel
      by_cases hlt1 : k < L
      · go_wp2_with (at_builtin; refine wpList_append_lies _ rfl (.tmp 28) (.tmp 29) 22 rfl w2.heap.size 50 i0 (.int .u64 0) 1 8 Try.underlying22 hi hz0 hz1 hz2 rfl (by decide) _ k ((List.replicate k (0 : Int)).map (Value.int .u64)) rfl (HO.out.alloc _) ⟨wr.heap.size, 0, none⟩ 1 1 [.int .u64 0] rfl rfl (World.news_of_block (cs := #[.int .u64 0]) (t := 50) (fr := (0, 0)) (heap_alloc_new wr _)) (by simp [Value.oneCell']) (by omega) (by unfold maxLen; omega) (by omega) (by simp; omega) (wr.heap.size + 1) (by simp) ?_)
        intro gg cp w3 hown1 hgrow _ _
        have HN : Hid (OwnR w3 w2.heap.size gg (k + 1) cp (List.replicate (k + 1) 0)) := by
          show OwnR w3 w2.heap.size gg (k + 1) cp (List.replicate (k + 1) 0)
          unfold OwnR
          rw [List.replicate_succ', List.map_append]
          simpa using hown1
        have HG : Hid (Below w2.heap.size w2 w3) := (HBB.out.alloc hsz _).grown hgrow (by simp; omega) (fun j hj => by cases hj; exact hgw.1)
        clear hown1 hgrow
        go_wp2_with fail
        go_roundw
        case rel => exact ⟨k + 1, gg, cp, by omega, by go_num, rfl, HN.out, HG.out⟩
        case measure => simp [intOf]; omega
      · have hkL : L = k := by omega
        have HO2 : Hid (OwnR wr w2.heap.size g (L) c (List.replicate (L) 0)) := by
          show OwnR wr w2.heap.size g (L) c (List.replicate (L) 0)
          rw [hkL]; exact HO.out
        subst hkL
        clear HO
        have OS0 : Hid (RMulOut w2 g c (L) (hpv dx 0 * hval dy) (List.replicate (L) 0) wr) := ⟨HO2.out, HBB.out, halves_zeros _, by simp, by rw [hval_zeros]; simp [hpv]⟩
        clear HO2 HBB
        go_wp2_with fail
        go_loopw [9, 10, 11, 12] (fun ii _ _ _ wr => ∃ (i : Nat) (os : List Int), i ≤ 2 * na ∧ ii = .int .i64 i ∧ RMulOut w2 g c (L) (hpv dx i * hval dy) os wr) (fun ii _ _ _ _ => 2 * na - (intOf ii).toNat)
        case atStart => exact ⟨0, _, Nat.zero_le _, rfl, OS0.out⟩
        case round =>
          obtain ⟨i, os, hiM, rfl, hos⟩ := hrel
          clear OS0 hgw hsz
          by_cases hlt2 : i < 2 * na
          · exfalso
            have h1 := X2.out.bare rfl
            have h2 := X2.out.fits
            omega
          · have OS : Hid (RMulOut w2 g c (L) (val xs * val ys) os wr) := by
              show RMulOut w2 g c (L) (val xs * val ys) os wr
              rw [hpv_val dx i (by have := HX.out.2.1; omega), HX.out.2.2, HY.out.2.2] at hos
              exact hos
            clear hos
            go_wp2_with fail
            refine (whole_any _ _ _ os _ (OS.out.own.row OS.out.halves.limbs) OS.out.halves (by omega)).mono ?_
            rintro e w4 ⟨ro, m, cp, r, rfl, h1, h2, h3, h4⟩
            go_wp2
            go_ret
            refine ⟨ro, m, cp, r, rfl, h1, ?_, chain B2.out (chain OS.out.bel h4)⟩
            rw [OS.out.val] at h2
            exact h2
  | some ad =>
    go_wp2_with fail
    go_loopw [7, 8] (fun o i wr => ∃ k g c : Nat, k ≤ L ∧ i = .int .i64 k ∧ o = .slice (some ⟨g, 0, none⟩) k c ∧ OwnR wr w2.heap.size g k c (List.replicate k 0) ∧ Below w2.heap.size w2 wr) (fun _ i _ => L - (intOf i).toNat)
    case atStart => exact ⟨0, w2.heap.size, 0, Nat.zero_le _, rfl, rfl, OwnR.nil w2, (Below.refl _ _).alloc (Nat.le_refl _) _⟩
    case round =>
      obtain ⟨k, g, c, hk, rfl, rfl, hown, hbel⟩ := hrel
      have HO : Hid (OwnR wr w2.heap.size g k c (List.replicate k 0)) := hown
      have HBB : Hid (Below w2.heap.size w2 wr) := hbel
      have hgw := hown.lt
      have hsz : w2.heap.size ≤ wr.heap.size := hbel.size
      clear hown hbel
      by_cases hlt1 : k < L
      · go_wp2_with (at_builtin; refine wpList_append_lies _ rfl (.tmp 28) (.tmp 29) 22 rfl w2.heap.size 50 i0 (.int .u64 0) 1 8 Try.underlying22 hi hz0 hz1 hz2 rfl (by decide) _ k ((List.replicate k (0 : Int)).map (Value.int .u64)) rfl (HO.out.alloc _) ⟨wr.heap.size, 0, none⟩ 1 1 [.int .u64 0] rfl rfl (World.news_of_block (cs := #[.int .u64 0]) (t := 50) (fr := (0, 0)) (heap_alloc_new wr _)) (by simp [Value.oneCell']) (by omega) (by unfold maxLen; omega) (by omega) (by simp; omega) (wr.heap.size + 1) (by simp) ?_)
        intro gg cp w3 hown1 hgrow _ _
        have HN : Hid (OwnR w3 w2.heap.size gg (k + 1) cp (List.replicate (k + 1) 0)) := by
          show OwnR w3 w2.heap.size gg (k + 1) cp (List.replicate (k + 1) 0)
          unfold OwnR
          rw [List.replicate_succ', List.map_append]
          simpa using hown1
        have HG : Hid (Below w2.heap.size w2 w3) := (HBB.out.alloc hsz _).grown hgrow (by simp; omega) (fun j hj => by cases hj; exact hgw.1)
        clear hown1 hgrow
        go_wp2_with fail
        go_roundw
        case rel => exact ⟨k + 1, gg, cp, by omega, by go_num, rfl, HN.out, HG.out⟩
        case measure => simp [intOf]; omega
      · have hkL : L = k := by omega
        have HO2 : Hid (OwnR wr w2.heap.size g (L) c (List.replicate (L) 0)) := by
          show OwnR wr w2.heap.size g (L) c (List.replicate (L) 0)
          rw [hkL]; exact HO.out
        subst hkL
        clear HO
        have OS0 : Hid (RMulOut w2 g c (L) (hpv dx 0 * hval dy) (List.replicate (L) 0) wr) := ⟨HO2.out, HBB.out, halves_zeros _, by simp, by rw [hval_zeros]; simp [hpv]⟩
        clear HO2 HBB
        go_wp2_with fail
        go_loopw [9, 10, 11, 12] (fun ii _ _ _ wr => ∃ (i : Nat) (os : List Int), i ≤ 2 * na ∧ ii = .int .i64 i ∧ RMulOut w2 g c (L) (hpv dx i * hval dy) os wr) (fun ii _ _ _ _ => 2 * na - (intOf ii).toNat)
        case atStart => exact ⟨0, _, Nat.zero_le _, rfl, OS0.out⟩
        case round =>
          obtain ⟨i, os, hiM, rfl, hos⟩ := hrel
          clear OS0 hgw hsz
          by_cases hlt2 : i < 2 * na
          · have OS : Hid (RMulOut w2 g c (L) (hpv dx i * hval dy) os wr) := hos
            clear hos
            obtain ⟨b, off, e, hlt, hc⟩ := X2.out.cells (by intro e; have := HX.out.2.1; rw [e] at this; simp at this; omega)
            cases e
            have HC : Hid (∀ j, j < 2 * na → w2.cell? ⟨b, off + j, none⟩ = some (.int .u64 (lim dx j))) := fun j hj => by rw [hc j (by rw [HX.out.2.1]; exact hj), lim_nat]
            clear hc
            have g3 : (0 : Int) ≤ (i : Int) := by omega
            have g4 : (i : Int) < 2 * (na : Int) := by omega
            go_wp2_with fail
            go_loopw [10, 11, 12] (fun cr kk _ wr => ∃ (k : Nat) (cv : Int) (os : List Int), kk = .int .i64 k ∧ cr = .int .u64 cv ∧ RMulInv w2 dx dy g c (L) i k cv os wr) (fun _ kk _ _ => 2 * nb + 2 - (intOf kk).toNat)
            case atStart => exact ⟨0, 0, os, rfl, rfl, ⟨OS.out.own, OS.out.bel, OS.out.halves, OS.out.len, Int.le_refl _, HH_pos, by rw [OS.out.val]; simp [hpv], Nat.zero_le _⟩⟩
            case round =>
              obtain ⟨k, cv, ps, rfl, rfl, hinv⟩ := hrel
              have HI : Hid (RMulInv w2 dx dy g c (L) i k cv ps wr) := hinv
              have hkM : k ≤ 2 * nb + 1 := by have := hinv.most; have := HY.out.2.1; omega
              have c0 := hinv.c0
              have c1 : cv ≤ 4294967295 := by have := hinv.c1; unfold HH at this; omega
              have hsz : w2.heap.size ≤ wr.heap.size := hinv.bel.size
              have round : (k < dy.length ∨ 0 < cv) → k ≤ 2 * nb ∧ wr.cell? ⟨g, i + k, none⟩ = some (.int .u64 (lim ps ((i + k : Nat) : Int))) ∧ wr.frozen? ⟨g, i + k, none⟩ = false ∧ wr.cell? ⟨b, off + i, none⟩ = some (.int .u64 (lim dx i)) := fun hgo => by
                have h1 := hinv.go HX.out.1 HY.out.1 hgo
                have h2 := HY.out.2.1
                refine ⟨by omega, ?_, World.ownsRow.frozenAt hinv.own _, (hinv.bel.cell (p := ⟨b, off + i, none⟩) hlt).trans (HC.out i hlt2)⟩
                rw [World.ownsRow.cellAt hinv.own (i + k) (by omega), lim_nat]
                have h3 : i + k < ps.length := by rw [hinv.len]; omega
                simp [h3]
              have RD : Hid _ := round
              have bx := half_bd HX.out.1 i
              have bY := half_bd HY.out.1 k
              have bo := half_bd hinv.halves (i + k)
              have bm := half_mul bx.1 bY.1 bx.2 bY.2
              obtain ⟨x, hx⟩ : ∃ x, x = lim dx i := ⟨_, rfl⟩
              obtain ⟨q, hq⟩ : ∃ q, q = lim ps ((i + k : Nat) : Int) := ⟨_, rfl⟩
              rw [← hx] at bm
              rw [← hq] at bo
              have EX : Hid (x = lim dx i) := hx
              have EQ : Hid (q = lim ps ((i + k : Nat) : Int)) := hq
              have q0 := bo.1
              have q1 : q ≤ 4294967295 := by have := bo.2; unfold HH at this; omega
              have m0 := bm.1
              have m1 := bm.2
              have hw0 : IntKind.i64.wrap ((i : Int) + (k : Int)) = ((i + k : Nat) : Int) := by rw [IntWalk.i64_in _ ⟨by omega, by omega⟩]; omega
              have hw1 : IntKind.u64.wrap (x * lim dy k) = x * lim dy k := IntWalk.u64_in _ ⟨by omega, by omega⟩
              have hw2 : IntKind.u64.wrap (q + x * lim dy k) = q + x * lim dy k := IntWalk.u64_in _ ⟨by omega, by omega⟩
              have hw3 : IntKind.u64.wrap (q + x * lim dy k + cv) = q + x * lim dy k + cv := IntWalk.u64_in _ ⟨by omega, by omega⟩
              clear hinv round hx hq bx bY bo bm
              by_cases t1 : (k : Int) < ((2 * nb : Nat) : Int)
              · obtain ⟨k1, hcg, hfg, hcx⟩ := RD.out (Or.inl (by have := HY.out.2.1; omega))
                rw [← EQ.out] at hcg
                rw [← EX.out] at hcx
                have g1 : (0 : Int) ≤ ((i + k : Nat) : Int) := by omega
                have g2 : ((i + k : Nat) : Int) < (L : Int) := by omega
                go_wp2_with fail
                go_quiet ((go_at_call 51; exact Calls.quiet_of_same (rat_any _ _ _ dy k _ ((Y2.out.below HI.out.bel).drewN _))))
                obtain ⟨s, hs⟩ : ∃ s, s = q + x * lim dy k + cv := ⟨_, rfl⟩
                have s0 : 0 ≤ s := by omega
                have s1 : s ≤ 18446744073709551615 := by omega
                have HS : Hid (s = lim ps ((i + k : Nat) : Int) + lim dx i * lim dy k + cv) := by rw [hs, EX.out, EQ.out]; rfl
                rw [← hs]
                clear hs hw0 hw1 hw2 hw3 m0 m1
                have NX : Hid _ := HI.out.next HX.out.1 HY.out.1 (by have := HY.out.2.1; omega) (by omega) HS.out ((Eqw.refl wr).drewN nq)
                go_wp2_with fail
                go_roundw
                case rel => exact ⟨k + 1, _, _, by go_num, rfl, NX.out⟩
                case measure => simp [intOf]; omega
              · by_cases t2 : 0 < cv
                · obtain ⟨k1, hcg, hfg, hcx⟩ := RD.out (Or.inr t2)
                  rw [← EQ.out] at hcg
                  rw [← EX.out] at hcx
                  have g1 : (0 : Int) ≤ ((i + k : Nat) : Int) := by omega
                  have g2 : ((i + k : Nat) : Int) < (L : Int) := by omega
                  go_wp2_with fail
                  go_quiet ((go_at_call 51; exact Calls.quiet_of_same (rat_any _ _ _ dy k _ ((Y2.out.below HI.out.bel).drewN _))))
                  obtain ⟨s, hs⟩ : ∃ s, s = q + x * lim dy k + cv := ⟨_, rfl⟩
                  have s0 : 0 ≤ s := by omega
                  have s1 : s ≤ 18446744073709551615 := by omega
                  have HS : Hid (s = lim ps ((i + k : Nat) : Int) + lim dx i * lim dy k + cv) := by rw [hs, EX.out, EQ.out]; rfl
                  rw [← hs]
                  clear hs hw0 hw1 hw2 hw3 m0 m1
                  have NX : Hid _ := HI.out.next HX.out.1 HY.out.1 (by have := HY.out.2.1; omega) (by omega) HS.out ((Eqw.refl wr).drewN nq)
                  go_wp2_with fail
                  go_roundw
                  case rel => exact ⟨k + 1, _, _, by go_num, rfl, NX.out⟩
                  case measure => simp [intOf]; omega
                · have NX : Hid (RMulOut w2 g c (L) (hpv dx (i + 1) * hval dy) ps wr) := by
                    have hv := HI.out.val
                    have e : hpv dx i * hval dy + lim dx i * HH ^ i * hval dy = hpv dx (i + 1) * hval dy := by rw [hpv]; grind
                    rw [show cv = 0 by omega, hpv_val dy k (by have := HY.out.2.1; omega), e] at hv
                    exact ⟨HI.out.own, HI.out.bel, HI.out.halves, HI.out.len, by simpa using hv⟩
                  clear hw0 hw1 hw2 hw3 m0 m1
                  go_wp2_with fail
                  go_roundw
                  case rel => exact ⟨i + 1, _, by omega, by go_num, NX.out⟩
                  case measure => simp [intOf]; omega
          · have OS : Hid (RMulOut w2 g c (L) (val xs * val ys) os wr) := by
              show RMulOut w2 g c (L) (val xs * val ys) os wr
              rw [hpv_val dx i (by have := HX.out.2.1; omega), HX.out.2.2, HY.out.2.2] at hos
              exact hos
            clear hos
            go_wp2_with fail
            refine (whole_any _ _ _ os _ (OS.out.own.row OS.out.halves.limbs) OS.out.halves (by omega)).mono ?_
            rintro e w4 ⟨ro, m, cp, r, rfl, h1, h2, h3, h4⟩
            go_wp2
            go_ret
            refine ⟨ro, m, cp, r, rfl, h1, ?_, chain B2.out (chain OS.out.bel h4)⟩
            rw [OS.out.val] at h2
            exact h2
end Go.Proofs.Ytnkjfandknndkaa
