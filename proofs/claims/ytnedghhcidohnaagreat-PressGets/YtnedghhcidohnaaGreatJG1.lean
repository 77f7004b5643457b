/-
  Joined: Digits · Whole · RAdd.
-/
import Derived.Deep.AppendLies
import Derived.Deep.RegionHeld3
import Derived.Test.YtnedghhcidohnaaGreatJA1
import Derived.Test.YtnedghhcidohnaaGreatJB1
import Derived.Test.YtnedghhcidohnaaGreatRTrim

/-! The reference's at and Digits. -/
namespace Go.Proofs.YtnedghhcidohnaaGreat
open Go.RowKit

set_option maxHeartbeats 400000 in
theorem rat_any (ao : Option Addr) (n cap : Nat) (xs : List Int) (i : Nat) (w : World) (h : RowAt w ao n cap xs) :
    Calls Tryz.prog 127 #[.slice ao n cap, .int .i64 i] w fun e w' => e = .returned (.int .u64 (lim xs i)) ∧ w' = w := by
  obtain rfl := h.len
  have hl : xs.length ≤ maxLen := Nat.le_trans h.fits h.most
  unfold maxLen at hl
  by_cases hk : i < xs.length
  · obtain ⟨b, off, rfl, hlt, hc⟩ := h.cells (by intro e; rw [e] at hk; simp at hk)
    have hck := hc i hk
    rw [← lim_nat] at hck
    clear hc h
    go_enter Tryz.func127, Tryz.ntmps127
    go_wp2
    go_ret
    exact ⟨rfl, rfl⟩
  · go_enter Tryz.func127, Tryz.ntmps127
    go_wp2
    go_ret
    exact ⟨ret_int (lim_past _ _ (by omega)).symm, rfl⟩

/-- A row that a call has made, at the head of its block. -/
def OwnR (w : World) (base g n cap : Nat) (zs : List Int) : Prop := w.ownsRow base 56 1 (.slice (some ⟨g, 0, none⟩) n cap) n (zs.map (Value.int .u64))

theorem OwnR.lt {w : World} {base g n cap : Nat} {zs : List Int} (h : OwnR w base g n cap zs) : base ≤ g ∧ g < w.heap.size := World.ownsRow.lt h g rfl
theorem OwnR.row {w : World} {base g n cap : Nat} {zs : List Int} (h : OwnR w base g n cap zs) (hl : Limbs zs) : RowAt w (some ⟨g, 0, none⟩) n cap zs := by
  obtain ⟨a, c, e, hr⟩ := RowAt.owns h hl
  cases e
  exact hr
theorem OwnR.nil (w : World) : OwnR (w.alloc (Obj.cells #[] 56)) w.heap.size w.heap.size 0 0 [] := owns0 w

set_option maxRecDepth 100000 in
set_option maxHeartbeats 1000000 in
theorem digits_any (ao : Option Addr) (n cap : Nat) (xs : List Int) (w : World) (h : RowAt w ao n cap xs) (hn : n ≤ 100000) :
    Calls Tryz.prog 110 #[.slice ao n cap] w fun e w' => ∃ ro cp, e = .returned (.slice ro (2 * n) cp) ∧ RowAt w' ro (2 * n) cp (hd xs) ∧ Below w.heap.size w w' := by
  obtain ⟨i0, hi, hz0, hz1, hz2⟩ := info_parts Tryz.info56
  by_cases h0 : n = 0
  · have hx : xs = [] := List.length_eq_zero_iff.1 (h.len.trans h0)
    subst h0
    subst hx
    have HR : Hid _ := (OwnR.nil w).row (by intro x hx; simp at hx)
    clear h
    go_enter Tryz.func110, Tryz.ntmps110
    go_wp2
    refine wp_loop_rounds 1 ?_
    rw [rounds_succ]
    go_wp2
    go_ret
    exact ⟨_, _, rfl, HR.out, (Below.refl _ _).alloc (Nat.le_refl _) _⟩
  · obtain ⟨b, off, rfl, hlt, hc⟩ := h.cells (by intro e; have := h.len; rw [e] at this; simp at this; omega)
    have HL : Hid (xs.length = n) := h.len
    have HM : Hid (Limbs xs) := h.limbs
    have HC : Hid _ := hc
    clear h hc
    go_enter Tryz.func110, Tryz.ntmps110
    go_wp2
    go_loopw [3, 4] (fun o i wr => ∃ k g c : Nat, k ≤ n ∧ i = .int .i64 k ∧ o = .slice (some ⟨g, 0, none⟩) (2 * k) c ∧ OwnR wr w.heap.size g (2 * k) c (hd (xs.take k)) ∧ Below w.heap.size w wr) (fun _ i _ => n - (intOf i).toNat)
    case atStart => exact ⟨0, w.heap.size, 0, Nat.zero_le _, rfl, rfl, OwnR.nil w, (Below.refl _ _).alloc (Nat.le_refl _) _⟩
    case round =>
      obtain ⟨k, g, c, hk, rfl, rfl, hown, hbel⟩ := hrel
      by_cases hlt2 : k < n
      · have hkl : k < xs.length := by have := HL.out; omega
        have hck : wr.cell? ⟨b, off + k, none⟩ = some (.int .u64 (xs.getD k 0)) := (hbel.cell (p := ⟨b, off + k, none⟩) hlt).trans (HC.out k hkl)
        have hxb : 0 ≤ xs.getD k 0 ∧ xs.getD k 0 < BB := by have := lim_bd HM.out k; rw [lim_nat] at this; exact this
        obtain ⟨x, hx⟩ : ∃ x, x = xs.getD k 0 := ⟨_, rfl⟩
        rw [← hx] at hck hxb
        have hx0 := hxb.1
        have hx1 : x ≤ 18446744073709551615 := by have := hxb.2; unfold BB at this; omega
        have hxs := hd_take xs k hkl
        rw [← hx] at hxs
        have HX : Hid (hd (xs.take (k + 1)) = hd (xs.take k) ++ [x % HH, x / HH]) := hxs
        have HO : Hid (OwnR wr w.heap.size g (2 * k) c (hd (xs.take k))) := hown
        have hsz : w.heap.size ≤ wr.heap.size := hbel.size
        have hgw := hown.lt
        have hbg : some b ≠ some g := by intro e; cases e; omega
        have g1 : (0 : Int) ≤ (k : Int) := by omega
        have g2 : (k : Int) < (n : Int) := by omega
        have HB : Hid (Below w.heap.size w wr) := hbel
        have hbw : b < wr.heap.size := by omega
        have ht1 : x.tmod 4294967296 = x % 4294967296 := Int.tmod_eq_emod_of_nonneg hx0
        have ht2 : IntKind.u64.wrap (x.tdiv 4294967296) = x / 4294967296 := IntWalk.u64_quo x 4294967296 ⟨hx0, hx1, by omega⟩
        clear hx hxb hxs hown hbel
        go_wp2
        go_region_held3 (fun w' => w'.cell? ⟨b, off + k, none⟩ = some (.int .u64 x)) (first | go_keep | (rw [hgrow.cell_far _ (by simp; omega) (by simpa [Value.ownBlock] using hbg)]; assumption))
          ((refine step_append_lies _ (by rfl) _ _ _ (by rfl) w.heap.size 56 i0 (.int .u64 0) 1 8 Tryz.underlying42 hi hz0 hz1 hz2 rfl (by omega) _ (2 * k) ((hd (xs.take k)).map (Value.int .u64)) (by rfl) ((HO.out.alloc _).drew) ⟨wr.heap.size, 0, none⟩ 2 2 [.int .u64 (x % 4294967296), .int .u64 (x / 4294967296)] (by rfl) (by rfl) (World.news_of_block (cs := #[.int .u64 (x % 4294967296), .int .u64 (x / 4294967296)]) (t := 56) (fr := (0, 0)) (heap_alloc_new wr _)) (by simp [Value.oneCell']) (by omega) (by unfold maxLen; omega) (by omega) (by simp; omega) (wr.heap.size + 1) (by simp) ?_; intro gg cp w1 hown1 hgrow hat hlt3))
        go_wp2
        go_roundw
        case rel =>
          refine ⟨k + 1, gg, cp, by omega, by go_num, rfl, ?_, ?_⟩
          · unfold OwnR
            rw [HX.out, List.map_append]
            exact hown1
          · exact (HB.out.alloc hsz _).drew.grown hgrow (by simp; omega) (fun j hj => by cases hj; exact hgw.1)
        case measure => simp [intOf]; omega
      · have hkn : k = n := by omega
        have HR : Hid (RowAt wr (some ⟨g, 0, none⟩) (2 * k) c (hd (xs.take k))) := hown.row (hd_halves (limbs_take HM.out k)).limbs
        have HB : Hid (Below w.heap.size w wr) := hbel
        have HK : Hid (k = n) := hkn
        clear hown hbel hkn
        go_wp2
        go_ret
        have hr := HR.out
        rw [HK.out, List.take_of_length_le (by rw [HL.out]; exact Nat.le_refl _)] at hr
        refine ⟨some ⟨g, 0, none⟩, c, ?_, hr, HB.out⟩
        rw [← HK.out]
        rfl
end Go.Proofs.YtnedghhcidohnaaGreat

/-! The reference's Whole: halves put together. -/
namespace Go.Proofs.YtnedghhcidohnaaGreat
open Go.RowKit

theorem hpv_pair (ds : List Int) (k : Nat) : hpv ds (2 * (k + 1)) = hpv ds (2 * k) + (lim ds ((2 * k : Nat) : Int) + lim ds ((2 * k + 1 : Nat) : Int) * HH) * BB ^ k := by
  rw [show 2 * (k + 1) = 2 * k + 1 + 1 by omega, hpv, hpv, hw_succ, hw_two]
  grind

theorem pair_bd {x y : Int} (hx0 : 0 ≤ x) (hx : x < HH) (hy0 : 0 ≤ y) (hy : y < HH) : 0 ≤ x + y * HH ∧ x + y * HH < BB := by unfold HH BB at *; omega

set_option maxRecDepth 100000 in
set_option maxHeartbeats 1000000 in
theorem whole_fresh (ao : Option Addr) (n cap : Nat) (ds : List Int) (w : World) (h : RowAt w ao n cap ds) (hh : Halves ds) (hn : n ≤ 200000) :
    Calls Tryz.prog 116 #[.slice ao n cap] w fun e w' => ∃ ro m cp r, e = .returned (.slice ro m cp) ∧ RowAt w' ro m cp r ∧ Num r (hval ds) ∧ m ≤ n ∧ Fresh w.heap.size ro ∧ Below w.heap.size w w' := by
  obtain ⟨i0, hi, hz0, hz1, hz2⟩ := info_parts Tryz.info56
  by_cases h0 : n = 0
  · have hx : ds = [] := List.length_eq_zero_iff.1 (h.len.trans h0)
    subst h0
    subst hx
    have HR : Hid (RowAt (w.alloc (Obj.cells #[] 56)) (some ⟨w.heap.size, 0, none⟩) 0 0 []) := (OwnR.nil w).row (by intro x hx; simp at hx)
    clear h
    go_enter Tryz.func116, Tryz.ntmps116
    go_wp2
    refine wp_loop_rounds 1 ?_
    rw [rounds_succ]
    go_wp2_with fail
    refine (rtrim_fresh _ _ _ [] _ HR.out (by omega)).mono ?_
    rintro e w1 ⟨ro, m, cp, r, rfl, h1, h2, h3, hf, h4⟩
    have HF : Hid (Fresh w.heap.size ro) := hf.mono (by simp)
    clear hf
    go_wp2
    go_ret
    exact ⟨ro, m, cp, r, rfl, h1, h2, h3, HF.out, chain ((Below.refl _ _).alloc (Nat.le_refl _) _) h4⟩
  · obtain ⟨b, off, rfl, hlt, hc⟩ := h.cells (by intro e; have := h.len; rw [e] at this; simp at this; omega)
    have HL : Hid (ds.length = n) := h.len
    have HM : Hid (Halves ds) := hh
    have HC : Hid (∀ j, j < n → w.cell? ⟨b, off + j, none⟩ = some (.int .u64 (lim ds j))) := fun j hj => by rw [hc j (by have := h.len; omega), lim_nat]
    clear h hc hh
    go_enter Tryz.func116, Tryz.ntmps116
    go_wp2
    go_loopw [3, 4, 5] (fun o i _ wr => ∃ (k g c : Nat) (zs : List Int), 2 * k ≤ n + 1 ∧ i = .int .i64 ((2 * k : Nat) : Int) ∧ o = .slice (some ⟨g, 0, none⟩) k c ∧ OwnR wr w.heap.size g k c zs ∧ Limbs zs ∧ zs.length = k ∧ val zs = hpv ds (2 * k) ∧ Below w.heap.size w wr) (fun _ i _ _ => n + 2 - (intOf i).toNat)
    case atStart => exact ⟨0, w.heap.size, 0, [], by omega, rfl, rfl, OwnR.nil w, by intro x hx; simp at hx, rfl, rfl, (Below.refl _ _).alloc (Nat.le_refl _) _⟩
    case round =>
      obtain ⟨k, g, c, zs, hk, rfl, rfl, hown, hlz, hzl, hval, hbel⟩ := hrel
      have HO : Hid (OwnR wr w.heap.size g k c zs) := hown
      have HB : Hid (Below w.heap.size w wr) := hbel
      have hgw := hown.lt
      have hsz : w.heap.size ≤ wr.heap.size := hbel.size
      have HZ : Hid (Limbs zs ∧ zs.length = k ∧ val zs = hpv ds (2 * k)) := ⟨hlz, hzl, hval⟩
      clear hlz hzl hval
      by_cases hlt2 : 2 * k < n
      · have hcx : wr.cell? ⟨b, off + 2 * k, none⟩ = some (.int .u64 (lim ds ((2 * k : Nat) : Int))) := (hbel.cell (p := ⟨b, off + 2 * k, none⟩) hlt).trans (HC.out (2 * k) hlt2)
        have bx := half_bd HM.out (2 * k)
        have bY := half_bd HM.out (2 * k + 1)
        have key : ∀ v, v = lim ds ((2 * k : Nat) : Int) + lim ds ((2 * k + 1 : Nat) : Int) * HH → ∀ (gg cp : Nat) (w1 : World), OwnR w1 w.heap.size gg (k + 1) cp (zs ++ [v]) → (wr.alloc (Obj.cells #[.int .u64 v] 56)).grownBy w1 (some g) →
            OwnR w1 w.heap.size gg (k + 1) cp (zs ++ [v]) ∧ Limbs (zs ++ [v]) ∧ (zs ++ [v]).length = k + 1 ∧ val (zs ++ [v]) = hpv ds (2 * (k + 1)) ∧ Below w.heap.size w w1 := by
          intro v hv gg cp w1 ho hg
          have hb := pair_bd bx.1 bx.2 bY.1 bY.2
          rw [← hv] at hb
          refine ⟨ho, limbs_snoc HZ.out.1 hb.1 hb.2, by simp [HZ.out.2.1], ?_, (HB.out.alloc hsz _).grown hg (by simp; omega) (fun j hj => by cases hj; exact hgw.1)⟩
          rw [val_snoc, HZ.out.2.2, HZ.out.2.1, hpv_pair, hv]
        have KEY : Hid _ := key
        clear key
        by_cases hlt3 : 2 * k + 1 < n
        · have hcy : wr.cell? ⟨b, off + (2 * k + 1), none⟩ = some (.int .u64 (lim ds ((2 * k + 1 : Nat) : Int))) := (hbel.cell (p := ⟨b, off + (2 * k + 1), none⟩) hlt).trans (HC.out (2 * k + 1) hlt3)
          obtain ⟨x, hx⟩ : ∃ x, x = lim ds ((2 * k : Nat) : Int) := ⟨_, rfl⟩
          obtain ⟨y, hy⟩ : ∃ y, y = lim ds ((2 * k + 1 : Nat) : Int) := ⟨_, rfl⟩
          rw [← hx] at hcx bx
          rw [← hy] at hcy bY
          have HV : Hid (x + y * 4294967296 = lim ds ((2 * k : Nat) : Int) + lim ds ((2 * k + 1 : Nat) : Int) * HH) := by rw [hx, hy]; rfl
          unfold HH at bx bY
          have x0 := bx.1
          have x1 := bx.2
          have y0 := bY.1
          have y1 := bY.2
          clear hx hy bx bY hown hbel
          go_wp2_with (at_builtin; refine wpList_append_lies _ rfl (.tmp 30) (.tmp 32) 42 rfl w.heap.size 56 i0 (.int .u64 0) 1 8 Tryz.underlying42 hi hz0 hz1 hz2 rfl (by decide) _ k (zs.map (Value.int .u64)) rfl (HO.out.alloc _) ⟨wr.heap.size, 0, none⟩ 1 1 [.int .u64 (x + y * 4294967296)] rfl rfl (World.news_of_block (cs := #[.int .u64 (x + y * 4294967296)]) (t := 56) (fr := (0, 0)) (heap_alloc_new wr _)) (by simp [Value.oneCell']) (by omega) (by unfold maxLen; omega) (by omega) (by simp; omega) (wr.heap.size + 1) (by simp) ?_)
          intro gg cp w1 hown1 hgrow _ _
          have hr := KEY.out (x + y * 4294967296) HV.out gg cp w1 (by unfold OwnR; rw [List.map_append]; exact hown1) hgrow
          have HR : Hid _ := hr
          clear hr hown1 hgrow
          go_wp2_with fail
          go_roundw
          case rel => exact ⟨k + 1, gg, cp, _, by omega, by go_num, rfl, HR.out⟩
          case measure => simp [intOf]; omega
        · obtain ⟨x, hx⟩ : ∃ x, x = lim ds ((2 * k : Nat) : Int) := ⟨_, rfl⟩
          rw [← hx] at hcx bx
          have HV : Hid (x = lim ds ((2 * k : Nat) : Int) + lim ds ((2 * k + 1 : Nat) : Int) * HH) := by
            rw [hx, lim_past ds (2 * k + 1) (by have := HL.out; omega)]
            show _ = _ + 0 * HH
            omega
          unfold HH at bx
          have x0 := bx.1
          have x1 := bx.2
          clear hx bx bY hown hbel
          go_wp2_with (at_builtin; refine wpList_append_lies _ rfl (.tmp 30) (.tmp 32) 42 rfl w.heap.size 56 i0 (.int .u64 0) 1 8 Tryz.underlying42 hi hz0 hz1 hz2 rfl (by decide) _ k (zs.map (Value.int .u64)) rfl (HO.out.alloc _) ⟨wr.heap.size, 0, none⟩ 1 1 [.int .u64 (x)] rfl rfl (World.news_of_block (cs := #[.int .u64 (x)]) (t := 56) (fr := (0, 0)) (heap_alloc_new wr _)) (by simp [Value.oneCell']) (by omega) (by unfold maxLen; omega) (by omega) (by simp; omega) (wr.heap.size + 1) (by simp) ?_)
          intro gg cp w1 hown1 hgrow _ _
          have hr := KEY.out (x) HV.out gg cp w1 (by unfold OwnR; rw [List.map_append]; exact hown1) hgrow
          have HR : Hid _ := hr
          clear hr hown1 hgrow
          go_wp2_with fail
          go_roundw
          case rel => exact ⟨k + 1, gg, cp, _, by omega, by go_num, rfl, HR.out⟩
          case measure => simp [intOf]; omega
      · have HR : Hid (RowAt wr (some ⟨g, 0, none⟩) k c zs) := hown.row HZ.out.1
        clear hown hbel
        go_wp2_with fail
        refine (rtrim_fresh _ _ _ zs _ HR.out (by omega)).mono ?_
        rintro e w1 ⟨ro, m, cp, r, rfl, h1, h2, h3, hf, h4⟩
        have HF : Hid (Fresh w.heap.size ro) := hf.mono HB.out.size
        clear hf
        go_wp2
        go_ret
        refine ⟨ro, m, cp, r, rfl, h1, ?_, by omega, HF.out, chain HB.out h4⟩
        rw [HZ.out.2.2, hpv_val ds _ (by have := HL.out; omega)] at h2
        exact h2

theorem whole_any (ao : Option Addr) (n cap : Nat) (ds : List Int) (w : World) (h : RowAt w ao n cap ds) (hh : Halves ds) (hn : n ≤ 200000) :
    Calls Tryz.prog 116 #[.slice ao n cap] w fun e w' => ∃ ro m cp r, e = .returned (.slice ro m cp) ∧ RowAt w' ro m cp r ∧ Num r (hval ds) ∧ m ≤ n ∧ Below w.heap.size w w' :=
  (whole_fresh ao n cap ds w h hh hn).mono fun _ _ ⟨ro, m, cp, r, h1, h2, h3, h4, _, h6⟩ => ⟨ro, m, cp, r, h1, h2, h3, h4, h6⟩
end Go.Proofs.YtnedghhcidohnaaGreat

/-! The reference's Add. -/
namespace Go.Proofs.YtnedghhcidohnaaGreat
open Go.RowKit

theorem radd_step {v c x y p q P : Int} (h : v + c * P = p + q) : v + ((x + y + c) % HH) * P + ((x + y + c) / HH) * (P * HH) = (p + x * P) + (q + y * P) := by
  have h1 := Int.emod_add_mul_ediv (x + y + c) HH
  have h2 : ((x + y + c) % HH + HH * ((x + y + c) / HH)) * P = (x + y + c) * P := by rw [h1]
  grind

/-- What the loop of the reference's Add holds. -/
structure RAddInv (w2 : World) (dx dy : List Int) (M k g c : Nat) (cv : Int) (zs : List Int) (wr : World) : Prop where
  own : OwnR wr w2.heap.size g k c zs
  bel : Below w2.heap.size w2 wr
  halves : Halves zs
  len : zs.length = k
  c0 : 0 ≤ cv
  c1 : cv ≤ 1
  val : hval zs + cv * HH ^ k = hpv dx k + hpv dy k
  most : k ≤ M + 1
  last : k = M + 1 → cv = 0

theorem RAddInv.next {w2 : World} {dx dy : List Int} {M k g c : Nat} {cv : Int} {zs : List Int} {wr : World} (h : RAddInv w2 dx dy M k g c cv zs wr) (hx : Halves dx) (hy : Halves dy) (lx : dx.length ≤ M) (ly : dy.length ≤ M) (hgo : k < M ∨ 0 < cv)
    {s : Int} (hs : s = lim dx k + lim dy k + cv) {gg cp : Nat} {w1 : World} (ho : OwnR w1 w2.heap.size gg (k + 1) cp (zs ++ [s % 4294967296])) (hg : (wr.alloc (Obj.cells #[.int .u64 (s % 4294967296)] 56)).grownBy w1 (some g)) :
    RAddInv w2 dx dy M (k + 1) gg cp (s / 4294967296) (zs ++ [s % 4294967296]) w1 := by
  have bx := half_bd hx k
  have bY := half_bd hy k
  have hgw := h.own.lt
  have c0 := h.c0
  have c1 := h.c1
  have hsz := h.bel.size
  have hM : k ≤ M := by
    rcases Nat.lt_or_ge M k with h' | h'
    · have := h.most
      have := h.last (by omega)
      omega
    · exact h'
  refine ⟨ho, (h.bel.alloc hsz _).grown hg (by simp; omega) (fun j hj => by cases hj; exact hgw.1), halves_snoc h.halves (by omega) (by unfold HH; omega), by simp [h.len], ?_, ?_, ?_, by omega, fun e => ?_⟩
  · unfold HH at bx bY; omega
  · unfold HH at bx bY; omega
  · rw [hval_snoc, h.len, hw_succ, hpv, hpv, hs]
    exact radd_step h.val
  · have e2 : k = M := by omega
    rw [lim_past dx k (by omega), lim_past dy k (by omega)] at hs
    omega

set_option maxRecDepth 100000 in
set_option maxHeartbeats 2000000 in
theorem radd_fresh (ao bo : Option Addr) (na ca nb cb : Nat) (xs ys : List Int) (w : World) (ha : RowAt w ao na ca xs) (hb : RowAt w bo nb cb ys) (hna : na ≤ 90000) (hnb : nb ≤ 90000) :
    Calls Tryz.prog 111 #[.slice ao na ca, .slice bo nb cb] w fun e w' => ∃ ro m cap r, e = .returned (.slice ro m cap) ∧ RowAt w' ro m cap r ∧ Num r (val xs + val ys) ∧ Fresh w.heap.size ro ∧ Below w.heap.size w w' := by
  obtain ⟨i0, hi, hz0, hz1, hz2⟩ := info_parts Tryz.info56
  have HA : Hid (RowAt w ao na ca xs) := ha
  have HB : Hid (RowAt w bo nb cb ys) := hb
  have HX : Hid (Halves (hd xs) ∧ (hd xs).length = 2 * na ∧ hval (hd xs) = val xs) := ⟨hd_halves ha.limbs, by rw [hd_length, ha.len], hd_val xs⟩
  have HY : Hid (Halves (hd ys) ∧ (hd ys).length = 2 * nb ∧ hval (hd ys) = val ys) := ⟨hd_halves hb.limbs, by rw [hd_length, hb.len], hd_val ys⟩
  clear ha hb
  go_enter Tryz.func111, Tryz.ntmps111
  go_wp2_with fail
  refine (digits_any _ _ _ xs _ HA.out (by omega)).mono ?_
  rintro e w1 ⟨xo, xc, rfl, hx1, b1⟩
  have X1 : Hid (RowAt w1 xo (2 * na) xc (hd xs)) := hx1
  have B1 : Hid (Below w.heap.size w w1) := b1
  clear hx1 b1
  go_wp2_with fail
  refine (digits_any _ _ _ ys _ (HB.out.below B1.out) (by omega)).mono ?_
  rintro e w2 ⟨yo, yc, rfl, hy2, b2⟩
  have X2 : Hid (RowAt w2 xo (2 * na) xc (hd xs)) := X1.out.below b2
  have Y2 : Hid (RowAt w2 yo (2 * nb) yc (hd ys)) := hy2
  have B2 : Hid (Below w.heap.size w w2) := chain B1.out b2
  clear hy2 b2 X1 B1 HA HB
  generalize hd xs = dx at *
  generalize hd ys = dy at *
  go_wp2_with fail
  go_loopw [7, 8, 9, 10] (fun o cr i _ wr => ∃ (k g c : Nat) (cv : Int) (zs : List Int), i = .int .i64 k ∧ o = .slice (some ⟨g, 0, none⟩) k c ∧ cr = .int .u64 cv ∧ RAddInv w2 dx dy (max (2 * na) (2 * nb)) k g c cv zs wr) (fun _ _ i _ _ => max (2 * na) (2 * nb) + 2 - (intOf i).toNat)
  case atStart => exact ⟨0, w2.heap.size, 0, 0, [], rfl, rfl, rfl, ⟨OwnR.nil w2, (Below.refl _ _).alloc (Nat.le_refl _) _, by intro x hx; simp at hx, rfl, Int.le_refl _, by omega, by simp [hval, hpv], by omega, fun _ => rfl⟩⟩
  case round =>
    obtain ⟨k, g, c, cv, zs, rfl, rfl, rfl, hinv⟩ := hrel
    have HI : Hid (RAddInv w2 dx dy (max (2 * na) (2 * nb)) k g c cv zs wr) := hinv
    have hkM := hinv.most
    have c0 := hinv.c0
    have c1 := hinv.c1
    have hsz : w2.heap.size ≤ wr.heap.size := hinv.bel.size
    have bx := half_bd HX.out.1 k
    have bY := half_bd HY.out.1 k
    obtain ⟨x, hx⟩ : ∃ x, x = lim dx k := ⟨_, rfl⟩
    obtain ⟨y, hy⟩ : ∃ y, y = lim dy k := ⟨_, rfl⟩
    rw [← hx] at bx
    rw [← hy] at bY
    have EX : Hid (x = lim dx k) := hx
    have EY : Hid (y = lim dy k) := hy
    unfold HH at bx bY
    have x0 := bx.1
    have x1 := bx.2
    have y0 := bY.1
    have y1 := bY.2
    clear hinv hx hy bx bY
    by_cases t1 : (k : Int) < ((2 * na : Nat) : Int)
    · go_wp2_with fail
      refine (rat_any _ _ _ dx k _ (X2.out.below HI.out.bel)).mono ?_
      rintro e w3 ⟨rfl, hw⟩
      rw [hw, ← EX.out]
      clear hw
      go_wp2_with fail
      refine (rat_any _ _ _ dy k _ (Y2.out.below HI.out.bel)).mono ?_
      rintro e w3 ⟨rfl, hw⟩
      rw [hw, ← EY.out]
      clear hw
      go_wp2_with (at_builtin; refine wpList_append_lies _ rfl (.tmp 41) (.tmp 44) 42 rfl w2.heap.size 56 i0 (.int .u64 0) 1 8 Tryz.underlying42 hi hz0 hz1 hz2 rfl (by decide) _ k (zs.map (Value.int .u64)) rfl (HI.out.own.alloc _) ⟨wr.heap.size, 0, none⟩ 1 1 [.int .u64 ((x + y + cv) % 4294967296)] rfl rfl (World.news_of_block (cs := #[.int .u64 ((x + y + cv) % 4294967296)]) (t := 56) (fr := (0, 0)) (heap_alloc_new wr _)) (by simp [Value.oneCell']) (by omega) (by unfold maxLen; omega) (by omega) (by simp; omega) (wr.heap.size + 1) (by simp) ?_)
      intro gg cp w3 hown1 hgrow _ _
      have hr := HI.out.next HX.out.1 HY.out.1 (by have := HX.out.2.1; omega) (by have := HY.out.2.1; omega) (by omega) (s := x + y + cv) (by rw [EX.out, EY.out]) (by unfold OwnR; rw [List.map_append]; exact hown1) hgrow
      have HR : Hid _ := hr
      clear hr hown1 hgrow
      go_wp2_with fail
      go_roundw
      case rel => exact ⟨k + 1, gg, cp, _, _, by go_num, rfl, rfl, HR.out⟩
      case measure => simp [intOf]; omega
    · by_cases t2 : (k : Int) < ((2 * nb : Nat) : Int)
      · go_wp2_with fail
        refine (rat_any _ _ _ dx k _ (X2.out.below HI.out.bel)).mono ?_
        rintro e w3 ⟨rfl, hw⟩
        rw [hw, ← EX.out]
        clear hw
        go_wp2_with fail
        refine (rat_any _ _ _ dy k _ (Y2.out.below HI.out.bel)).mono ?_
        rintro e w3 ⟨rfl, hw⟩
        rw [hw, ← EY.out]
        clear hw
        go_wp2_with (at_builtin; refine wpList_append_lies _ rfl (.tmp 41) (.tmp 44) 42 rfl w2.heap.size 56 i0 (.int .u64 0) 1 8 Tryz.underlying42 hi hz0 hz1 hz2 rfl (by decide) _ k (zs.map (Value.int .u64)) rfl (HI.out.own.alloc _) ⟨wr.heap.size, 0, none⟩ 1 1 [.int .u64 ((x + y + cv) % 4294967296)] rfl rfl (World.news_of_block (cs := #[.int .u64 ((x + y + cv) % 4294967296)]) (t := 56) (fr := (0, 0)) (heap_alloc_new wr _)) (by simp [Value.oneCell']) (by omega) (by unfold maxLen; omega) (by omega) (by simp; omega) (wr.heap.size + 1) (by simp) ?_)
        intro gg cp w3 hown1 hgrow _ _
        have hr := HI.out.next HX.out.1 HY.out.1 (by have := HX.out.2.1; omega) (by have := HY.out.2.1; omega) (by omega) (s := x + y + cv) (by rw [EX.out, EY.out]) (by unfold OwnR; rw [List.map_append]; exact hown1) hgrow
        have HR : Hid _ := hr
        clear hr hown1 hgrow
        go_wp2_with fail
        go_roundw
        case rel => exact ⟨k + 1, gg, cp, _, _, by go_num, rfl, rfl, HR.out⟩
        case measure => simp [intOf]; omega
      · by_cases t3 : 0 < cv
        · go_wp2_with fail
          refine (rat_any _ _ _ dx k _ (X2.out.below HI.out.bel)).mono ?_
          rintro e w3 ⟨rfl, hw⟩
          rw [hw, ← EX.out]
          clear hw
          go_wp2_with fail
          refine (rat_any _ _ _ dy k _ (Y2.out.below HI.out.bel)).mono ?_
          rintro e w3 ⟨rfl, hw⟩
          rw [hw, ← EY.out]
          clear hw
          go_wp2_with (at_builtin; refine wpList_append_lies _ rfl (.tmp 41) (.tmp 44) 42 rfl w2.heap.size 56 i0 (.int .u64 0) 1 8 Tryz.underlying42 hi hz0 hz1 hz2 rfl (by decide) _ k (zs.map (Value.int .u64)) rfl (HI.out.own.alloc _) ⟨wr.heap.size, 0, none⟩ 1 1 [.int .u64 ((x + y + cv) % 4294967296)] rfl rfl (World.news_of_block (cs := #[.int .u64 ((x + y + cv) % 4294967296)]) (t := 56) (fr := (0, 0)) (heap_alloc_new wr _)) (by simp [Value.oneCell']) (by omega) (by unfold maxLen; omega) (by omega) (by simp; omega) (wr.heap.size + 1) (by simp) ?_)
          intro gg cp w3 hown1 hgrow _ _
          have hr := HI.out.next HX.out.1 HY.out.1 (by have := HX.out.2.1; omega) (by have := HY.out.2.1; omega) (by omega) (s := x + y + cv) (by rw [EX.out, EY.out]) (by unfold OwnR; rw [List.map_append]; exact hown1) hgrow
          have HR : Hid _ := hr
          clear hr hown1 hgrow
          go_wp2_with fail
          go_roundw
          case rel => exact ⟨k + 1, gg, cp, _, _, by go_num, rfl, rfl, HR.out⟩
          case measure => simp [intOf]; omega
        · have HR : Hid (RowAt wr (some ⟨g, 0, none⟩) k c zs) := HI.out.own.row HI.out.halves.limbs
          go_wp2_with fail
          refine (whole_fresh _ _ _ zs _ HR.out HI.out.halves (by omega)).mono ?_
          rintro e w3 ⟨ro, m, cp, r, rfl, h1, h2, h3, hf, h4⟩
          have HFR : Hid (Fresh w.heap.size ro) := hf.mono (Nat.le_trans B2.out.size HI.out.bel.size)
          clear hf
          go_wp2
          go_ret
          refine ⟨ro, m, cp, r, rfl, h1, ?_, HFR.out, chain B2.out (chain HI.out.bel h4)⟩
          have hv := HI.out.val
          rw [show cv = 0 by omega, hpv_val dx k (by have := HX.out.2.1; omega), hpv_val dy k (by have := HY.out.2.1; omega), HX.out.2.2, HY.out.2.2] at hv
          rw [show hval zs = val xs + val ys by omega] at h2
          exact h2

theorem radd_any (ao bo : Option Addr) (na ca nb cb : Nat) (xs ys : List Int) (w : World) (ha : RowAt w ao na ca xs) (hb : RowAt w bo nb cb ys) (hna : na ≤ 90000) (hnb : nb ≤ 90000) :
    Calls Tryz.prog 111 #[.slice ao na ca, .slice bo nb cb] w fun e w' => ∃ ro m cap r, e = .returned (.slice ro m cap) ∧ RowAt w' ro m cap r ∧ Num r (val xs + val ys) ∧ Below w.heap.size w w' :=
  (radd_fresh ao bo na ca nb cb xs ys w ha hb hna hnb).mono fun _ _ ⟨ro, m, cp, r, h1, h2, h3, _, h6⟩ => ⟨ro, m, cp, r, h1, h2, h3, h6⟩
end Go.Proofs.YtnedghhcidohnaaGreat
