/-
  Joined: RatA · RatE · RatC · RatD · RRatA · RatF · ROf · RRatB · RPlus · RRatC · RRatM.
-/
import Derived.Laws.Rows
import Derived.Test.YtnedghhcidohnaaGreatJA1
import Derived.Test.YtnedghhcidohnaaGreatJM1
import Derived.Deep.DrawnRows
import Derived.Deep.RegionHeld3
import Derived.Test.YtnedghhcidohnaaGreatJE1
import Derived.Test.YtnedghhcidohnaaGreatJH1

/-! Numbers in memory; ratio's Zero, isOne, May. -/
namespace Go.Proofs.YtnedghhcidohnaaGreat
open Go.RowKit

/-- A number's rows in memory. -/
structure RatAt (w : World) (no : Option Addr) (nn nc : Nat) (eo : Option Addr) (en ec : Nat) (r : RatL) : Prop where
  num : RowAt w no nn nc r.num
  den : RowAt w eo en ec r.den

theorem RatAt.below {w w' : World} {no : Option Addr} {nn nc : Nat} {eo : Option Addr} {en ec : Nat} {r : RatL} (h : RatAt w no nn nc eo en ec r) (hb : Below w.heap.size w w') : RatAt w' no nn nc eo en ec r := ⟨h.num.below hb, h.den.below hb⟩
theorem RatAt.lim {w : World} {no : Option Addr} {nn nc : Nat} {eo : Option Addr} {en ec : Nat} {r : RatL} (h : RatAt w no nn nc eo en ec r) : LimR r := ⟨h.num.limbs, h.den.limbs⟩
theorem RatAt.zero (w : World) : RatAt w none 0 0 none 0 0 rat0 := ⟨RowAt.nil _, RowAt.nil _⟩

/-- A number's variable in memory. -/
def RBox (W : World) (B : Nat) (neg : Bool) (no : Option Addr) (nn nc : Nat) (eo : Option Addr) (en ec : Nat) : Prop := W.heap[B]? = some (.cells #[.bool neg, .slice no nn nc, .slice eo en ec] 45 (0, 0))

theorem RBox.lt {W : World} {B : Nat} {neg : Bool} {no : Option Addr} {nn nc : Nat} {eo : Option Addr} {en ec : Nat} (h : RBox W B neg no nn nc eo en ec) : B < W.heap.size := (Array.getElem?_eq_some_iff.1 h).1
theorem RBox.c0 {W : World} {B : Nat} {neg : Bool} {no : Option Addr} {nn nc : Nat} {eo : Option Addr} {en ec : Nat} (h : RBox W B neg no nn nc eo en ec) : W.cell? ⟨B, 0, none⟩ = some (.bool neg) := by simp [World.cell?, show W.heap[B]? = _ from h]
theorem RBox.c1 {W : World} {B : Nat} {neg : Bool} {no : Option Addr} {nn nc : Nat} {eo : Option Addr} {en ec : Nat} (h : RBox W B neg no nn nc eo en ec) : W.cell? ⟨B, 1, none⟩ = some (.slice no nn nc) := by simp [World.cell?, show W.heap[B]? = _ from h]
theorem RBox.c2 {W : World} {B : Nat} {neg : Bool} {no : Option Addr} {nn nc : Nat} {eo : Option Addr} {en ec : Nat} (h : RBox W B neg no nn nc eo en ec) : W.cell? ⟨B, 2, none⟩ = some (.slice eo en ec) := by simp [World.cell?, show W.heap[B]? = _ from h]
theorem RBox.f {W : World} {B : Nat} {neg : Bool} {no : Option Addr} {nn nc : Nat} {eo : Option Addr} {en ec : Nat} (h : RBox W B neg no nn nc eo en ec) (k : Nat) : W.frozen? ⟨B, k, none⟩ = false := by simp [World.frozen?, show W.heap[B]? = _ from h]
theorem RBox.new (W : World) (neg : Bool) (no : Option Addr) (nn nc : Nat) (eo : Option Addr) (en ec : Nat) : RBox (W.alloc (.cells #[.bool neg, .slice no nn nc, .slice eo en ec] 45)) W.heap.size neg no nn nc eo en ec := heap_alloc_new W _
theorem RBox.below {W W' : World} {B : Nat} {neg : Bool} {no : Option Addr} {nn nc : Nat} {eo : Option Addr} {en ec : Nat} (h : RBox W B neg no nn nc eo en ec) (hb : Below W.heap.size W W') : RBox W' B neg no nn nc eo en ec := (hb.block B h.lt).trans h
theorem RBox.alloc {W : World} {B : Nat} {neg : Bool} {no : Option Addr} {nn nc : Nat} {eo : Option Addr} {en ec : Nat} (h : RBox W B neg no nn nc eo en ec) (o : Obj) : RBox (W.alloc o) B neg no nn nc eo en ec := h.below ((Below.refl _ _).alloc (Nat.le_refl _) o)

theorem set_cells {W : World} {B : Nat} {cs : Array Value} {t : TypeId} (h : W.heap[B]? = some (.cells cs t (0, 0))) (k : Nat) (v : Value) : (W.setCell ⟨B, k, none⟩ v).heap[B]? = some (.cells (cs.setIfInBounds k v) t (0, 0)) := by
  obtain ⟨hlt, hk⟩ := Array.getElem?_eq_some_iff.1 h
  show (W.heap.modify B _)[B]? = _
  rw [Array.getElem?_eq_getElem (by rw [Array.size_modify]; exact hlt), Array.getElem_modify_self, hk]
  rfl
/-- A number is stored into its variable. -/
theorem RBox.set {W : World} {B : Nat} {neg : Bool} {no : Option Addr} {nn nc : Nat} {eo : Option Addr} {en ec : Nat} (h : RBox W B neg no nn nc eo en ec) (neg' : Bool) (no' : Option Addr) (nn' nc' : Nat) (eo' : Option Addr) (en' ec' : Nat) :
    RBox (((W.setCell ⟨B, 0, none⟩ (.bool neg')).setCell ⟨B, 1, none⟩ (.slice no' nn' nc')).setCell ⟨B, 2, none⟩ (.slice eo' en' ec')) B neg' no' nn' nc' eo' en' ec' :=
  set_cells (set_cells (set_cells h 0 (.bool neg')) 1 (.slice no' nn' nc')) 2 (.slice eo' en' ec')
theorem below_set {n₀ : Nat} {a W : World} (h : Below n₀ a W) {B : Nat} (hB : n₀ ≤ B) (u v x : Value) : Below n₀ a (((W.setCell ⟨B, 0, none⟩ u).setCell ⟨B, 1, none⟩ v).setCell ⟨B, 2, none⟩ x) := ((h.setCell hB u).setCell hB v).setCell hB x
/-- Rows of limbs lie elsewhere than a number's variable. -/
theorem RowAt.setR {W : World} {B : Nat} {neg : Bool} {no : Option Addr} {nn nc : Nat} {eo : Option Addr} {en ec : Nat} {ao : Option Addr} {n cap : Nat} {xs : List Int} (h : RowAt W ao n cap xs) (hB : RBox W B neg no nn nc eo en ec) (u v x : Value) : RowAt (((W.setCell ⟨B, 0, none⟩ u).setCell ⟨B, 1, none⟩ v).setCell ⟨B, 2, none⟩ x) ao n cap xs := by
  refine ⟨h.len, h.limbs, h.fits, h.most, h.bare, fun hne => ?_⟩
  obtain ⟨b, off, rfl, hlt, hc⟩ := h.cells hne
  have hbB : b ≠ B := by
    rintro rfl
    have h0 := hc 0 (List.length_pos_iff.2 hne)
    unfold World.cell? at h0
    rw [show W.heap[(⟨b, off + 0, none⟩ : Addr).block]? = _ from hB] at h0
    simp only [Nat.add_zero] at h0
    match off with
    | 0 => simp at h0
    | 1 => simp at h0
    | 2 => simp at h0
    | k + 3 => simp at h0
  have e1 : ∀ (V : World) (k : Nat) (y : Value), (V.setCell ⟨B, k, none⟩ y).heap[b]? = V.heap[b]? := fun V k y => Below.heap_setCell V ⟨B, k, none⟩ y b hbB
  have hb := ((e1 _ 2 x).trans (e1 _ 1 v)).trans (e1 W 0 u)
  have s1 : ∀ (V : World) (k : Nat) (y : Value), (V.setCell ⟨B, k, none⟩ y).heap.size = V.heap.size := fun V k y => by simp [World.setCell]
  exact ⟨b, off, rfl, by rw [s1, s1, s1]; exact hlt, fun j hj => (World.cell?_of_block (a := ⟨b, off + j, none⟩) hb).trans (hc j hj)⟩
theorem RatAt.setR {W : World} {B : Nat} {neg : Bool} {no : Option Addr} {nn nc : Nat} {eo : Option Addr} {en ec : Nat} {po : Option Addr} {pn pc : Nat} {qo : Option Addr} {qn qc : Nat} {r : RatL} (h : RatAt W po pn pc qo qn qc r) (hB : RBox W B neg no nn nc eo en ec) (u v x : Value) : RatAt (((W.setCell ⟨B, 0, none⟩ u).setCell ⟨B, 1, none⟩ v).setCell ⟨B, 2, none⟩ x) po pn pc qo qn qc r := ⟨h.num.setR hB u v x, h.den.setR hB u v x⟩

theorem load_r {w : World} {B : Nat} {neg : Bool} {no : Option Addr} {nn nc : Nat} {eo : Option Addr} {en ec : Nat} (h : RBox w B neg no nn nc eo en ec) : (loadVar 45 ⟨B, 0, none⟩).run Tryz.prog w = .ok (.agg #[.bool neg, .slice no nn nc, .slice eo en ec]) w :=
  run_loadVar_row w B 45 45 _ (0, 0) _ h Tryz.underlying45 rfl (by kernel_rfl)

theorem results_r2 {fn : Func} {t u : Tmp} (hf : fn.results = #[.cell t 45, .tmp u]) (tmps : Array Value) {w : World} {B : Nat} {neg : Bool} {no : Option Addr} {nn nc : Nat} {eo : Option Addr} {en ec : Nat} (h : RBox w B neg no nn nc eo en ec) (ht : tmps[t]?.getD undef = .pointer (some ⟨B, 0, none⟩)) (v : Value) (hv : tmps[u]?.getD undef = v) :
    (results fn tmps).run Tryz.prog w = .ok (.tuple #[.agg #[.bool neg, .slice no nn nc, .slice eo en ec], v]) w := by
  simp only [results, hf]
  simp [Result.andThen, asAddr, ht, hv, load_r h]

theorem results_r1 {fn : Func} {t : Tmp} (hf : fn.results = #[.cell t 45]) (tmps : Array Value) {w : World} {B : Nat} {neg : Bool} {no : Option Addr} {nn nc : Nat} {eo : Option Addr} {en ec : Nat} (h : RBox w B neg no nn nc eo en ec) (ht : tmps[t]?.getD undef = .pointer (some ⟨B, 0, none⟩)) :
    (results fn tmps).run Tryz.prog w = .ok (.agg #[.bool neg, .slice no nn nc, .slice eo en ec]) w := by
  simp only [results, hf]
  simp [asAddr, ht, load_r h]

theorem nn_most {w : World} {ao : Option Addr} {n cap : Nat} {xs : List Int} (h : RowAt w ao n cap xs) : (n : Int) ≤ 9223372036854775807 := by have := h.fits; have := h.most; unfold maxLen at this; omega

set_option maxHeartbeats 400000 in
theorem zero_any (neg : Bool) (no : Option Addr) (nn nc : Nat) (eo : Option Addr) (en ec : Nat) (w : World) (hn : (nn : Int) ≤ 9223372036854775807) :
    Calls Tryz.prog 46 #[.agg #[.bool neg, .slice no nn nc, .slice eo en ec]] w fun e w' => e = .returned (.bool (decide (nn = 0))) ∧ Below w.heap.size w w' := by
  go_enter Tryz.func46, Tryz.ntmps46
  go_wp2
  go_ret
  refine ⟨ret_bool ?_, (Below.refl _ _).alloc (Nat.le_refl _) _⟩
  by_cases h : nn = 0
  · subst h; rfl
  · have : ((nn : Int) == 0) = false := by rw [beq_eq_false_iff_ne]; omega
    rw [this]
    simp [h]

set_option maxHeartbeats 400000 in
theorem isOne_val (ao : Option Addr) (n cap : Nat) (xs : List Int) (v : Int) (w : World) (h : RowAt w ao n cap xs) (hv : Num xs v) (b : Bool) (hb : b = true ↔ v = 1) :
    Calls Tryz.prog 96 #[.slice ao n cap] w fun e w' => e = .returned (.bool b) ∧ Below w.heap.size w w' := by
  have hn := nn_most h
  have hone : xs = [1] ↔ v = 1 := ⟨fun e => by rw [← hv.val, e]; simp [val], fun e => by subst e; exact hv.one (num1 (by omega) (by unfold BB; omega))⟩
  have hl := h.len
  by_cases h1 : n = 1
  · subst h1
    obtain ⟨b1, off, rfl, hlt, hc⟩ := h.cells (by intro e; rw [e] at hl; simp at hl)
    have hc0 := hc 0 (by omega)
    rw [Nat.add_zero] at hc0
    obtain ⟨x, hx⟩ : ∃ x, x = xs.getD 0 0 := ⟨_, rfl⟩
    rw [← hx] at hc0
    have hxe : xs = [x] := by
      match xs, hl with
      | [y], _ => rw [hx]; rfl
    have HB : Hid (b = (x == 1)) := by
      have h9 : b = (x == 1) := by
        rw [Bool.eq_iff_iff, hb, ← hone, hxe]
        simp
      exact h9
    clear hc hx hxe hl hone hb hv h
    go_enter Tryz.func96, Tryz.ntmps96
    go_wp2
    go_ret
    exact ⟨ret_bool HB.out.symm, Below.refl _ _⟩
  · have hbf : b = false := by
      cases e : b with
      | false => rfl
      | true =>
        have := hone.2 (hb.1 e)
        rw [this] at hl
        exact absurd hl.symm h1
    have h1b : ((n : Int) == 1) = false := by rw [beq_eq_false_iff_ne]; omega
    subst hbf
    clear hl hone hb hv h h1
    go_enter Tryz.func96, Tryz.ntmps96
    go_wp2
    go_ret
    exact ⟨rfl, Below.refl _ _⟩

set_option maxHeartbeats 1000000 in
theorem rmay_r (neg : Bool) (no : Option Addr) (nn nc : Nat) (eo : Option Addr) (en ec : Nat) (r : RatL) (w : World) (h : RatAt w no nn nc eo en ec r) (hg : r.neg = neg) (b : Bool) (hb : b = true ↔ MayR r) :
    Calls Tryz.prog 74 #[.agg #[.bool neg, .slice no nn nc, .slice eo en ec]] w fun e w' => e = .returned (.bool b) ∧ Below w.heap.size w w' := by
  have hnn := nn_most h.num
  have hen := nn_most h.den
  have bx := RBox.new w neg no nn nc eo en ec
  have hB0 : Below w.heap.size w (w.alloc (.cells #[.bool neg, .slice no nn nc, .slice eo en ec] 45)) := (Below.refl _ _).alloc (Nat.le_refl _) _
  have H : Hid (RatAt (w.alloc (.cells #[.bool neg, .slice no nn nc, .slice eo en ec] 45)) no nn nc eo en ec r ∧ RBox (w.alloc (.cells #[.bool neg, .slice no nn nc, .slice eo en ec] 45)) w.heap.size neg no nn nc eo en ec ∧ Below w.heap.size w (w.alloc (.cells #[.bool neg, .slice no nn nc, .slice eo en ec] 45)) ∧ r.neg = neg ∧ (b = true ↔ MayR r)) := ⟨h.below hB0, bx, hB0, hg, hb⟩
  have hlen := h.den.len
  have hlen2 := h.num.len
  have HL : Hid (r.den.length = en ∧ r.num.length = nn ∧ LimR r) := ⟨hlen, hlen2, h.lim⟩
  clear bx hB0 h hg hb hlen hlen2
  go_enter Tryz.func74, Tryz.ntmps74
  go_wp2_with fail
  refine (qgcd_any _ _ _ _ _ _ r.num r.den _ H.out.1.num H.out.1.den).mono ?_
  rintro e w1 ⟨go, gn, gc, g, k, rfl, g1, g2, g3⟩
  have bx1 := H.out.2.1.below g3
  have c0 := bx1.c0
  have c1 := bx1.c1
  have c2 := bx1.c2
  have HG : Hid (RowAt w1 go gn gc g ∧ Out (May r.num ∧ May r.den) False (gcdI (val r.num) (val r.den)) g k ∧ Below w.heap.size w w1 ∧ RBox w1 w.heap.size neg no nn nc eo en ec) := ⟨g1, g2, chain H.out.2.2.1 g3, bx1⟩
  clear g1 g2 g3 bx1
  by_cases hm : May r.num ∧ May r.den
  · have hlt := gcdI_lt (val_bd HL.out.2.2.1).1 (val_bd HL.out.2.2.2).1 (hm.1.lt HL.out.2.2.1) (hm.2.lt HL.out.2.2.2)
    obtain ⟨hk0, hnum⟩ := HG.out.2.1.ok_num hm (fun f => f) hlt
    subst hk0
    have HM : Hid ((May r.num ∧ May r.den) ∧ Num g (gcdI (val r.num) (val r.den))) := ⟨hm, hnum⟩
    clear hm hlt hnum
    by_cases h1 : gcdI (val r.num) (val r.den) = 1
    · have HO : Hid (gcdI (val r.num) (val r.den) = 1) := h1
      clear h1
      go_wp2_with fail
      refine (isOne_val _ _ _ g _ _ HG.out.1 HM.out.2 true (yes_iff HO.out)).mono ?_
      rintro e w2 ⟨rfl, b2⟩
      have bx2 := HG.out.2.2.2.below b2
      have d0 := bx2.c0
      have d1 := bx2.c1
      have d2 := bx2.c2
      have H2 : Hid (Below w.heap.size w w2) := chain HG.out.2.2.1 b2
      clear b2 bx2 c0 c1 c2
      by_cases he : en = 0
      · subst he
        have hbf : b = false := by
          cases e : b with
          | false => rfl
          | true => exact absurd ((val_zero HL.out.2.2.2 (H.out.2.2.2.2.1 e).den HL.out.1).1 rfl) (H.out.2.2.2.2.1 e).pos
        subst hbf
        go_wp2
        go_ret
        exact ⟨rfl, H2.out⟩
      · have he' : (0 : Int) < (en : Int) := by omega
        have HE : Hid (val r.den ≠ 0) := fun e => he ((val_zero HL.out.2.2.2 HM.out.1.2 HL.out.1).2 e)
        clear he
        cases neg with
        | false =>
          have hbt : b = true := H.out.2.2.2.2.2 ⟨HM.out.1.1, HM.out.1.2, HE.out, HO.out, fun h => by rw [H.out.2.2.2.1] at h; cases h⟩
          subst hbt
          go_wp2
          go_ret
          exact ⟨rfl, H2.out⟩
        | true =>
          go_wp2_with fail
          refine (zero_any true no nn nc eo en ec _ hnn).mono ?_
          rintro e w3 ⟨rfl, b3⟩
          have H3 : Hid (Below w.heap.size w w3) := chain H2.out b3
          have HB : Hid ((!decide (nn = 0)) = b) := by
            have h9 : (!decide (nn = 0)) = b := by
              rw [Bool.eq_iff_iff, H.out.2.2.2.2]
              simp
              constructor
              · intro hz
                exact ⟨HM.out.1.1, HM.out.1.2, HE.out, HO.out, fun _ e => hz ((val_zero HL.out.2.2.1 HM.out.1.1 HL.out.2.1).2 e)⟩
              · intro hmr hz
                exact hmr.sign H.out.2.2.2.1 ((val_zero HL.out.2.2.1 HM.out.1.1 HL.out.2.1).1 hz)
            exact h9
          clear b3
          go_wp2
          go_ret
          exact ⟨ret_bool (by simpa using HB.out), H3.out⟩
    · have HO : Hid (¬ gcdI (val r.num) (val r.den) = 1) := h1
      clear h1
      go_wp2_with fail
      refine (isOne_val _ _ _ g _ _ HG.out.1 HM.out.2 false (no_iff HO.out)).mono ?_
      rintro e w2 ⟨rfl, b2⟩
      have H2 : Hid (Below w.heap.size w w2) := chain HG.out.2.2.1 b2
      have hbf : b = false := by
        cases e : b with
        | false => rfl
        | true => exact absurd (H.out.2.2.2.2.1 e).low HO.out
      subst hbf
      clear b2
      go_wp2
      go_ret
      exact ⟨rfl, H2.out⟩
  · obtain ⟨hk, _⟩ := HG.out.2.1.is_arg hm
    subst hk
    have hbf : b = false := by
      cases e : b with
      | false => rfl
      | true => exact absurd ⟨(H.out.2.2.2.2.1 e).num, (H.out.2.2.2.2.1 e).den⟩ hm
    subst hbf
    clear hm
    go_wp2
    go_ret
    exact ⟨rfl, HG.out.2.2.1⟩

end Go.Proofs.YtnedghhcidohnaaGreat

/-! slices.Equal and slices.Clone of rows of limbs; Same of numbers. -/
namespace Go.Proofs.YtnedghhcidohnaaGreat
open Go.RowKit

theorem below2' (w : World) (o o' : Obj) : Below w.heap.size w ((w.alloc o).alloc o') := ((Below.refl _ _).alloc (Nat.le_refl _) o).alloc (by simp) o'

set_option maxRecDepth 100000 in
set_option maxHeartbeats 1000000 in
/-- The reference's Same. -/
theorem rsame_r (an : Bool) (ao : Option Addr) (al ac : Nat) (aeo : Option Addr) (ael aec : Nat) (bn : Bool) (bo : Option Addr) (bl bc : Nat) (beo : Option Addr) (bel bec : Nat) (a b : RatL) (w : World)
    (ha : RatAt w ao al ac aeo ael aec a) (hb : RatAt w bo bl bc beo bel bec b) (hga : a.neg = an) (hgb : b.neg = bn) (t : Bool) (ht : t = true ↔ a = b) :
    Calls Tryz.prog 35 #[.agg #[.bool an, .slice ao al ac, .slice aeo ael aec], .agg #[.bool bn, .slice bo bl bc, .slice beo bel bec]] w fun e w' => e = .returned (.bool t) ∧ Below w.heap.size w w' := by
  have hb2 := below2' w (.cells #[.bool an, .slice ao al ac, .slice aeo ael aec] 45) (.cells #[.bool bn, .slice bo bl bc, .slice beo bel bec] 45)
  have ba := (RBox.new w an ao al ac aeo ael aec).alloc (.cells #[.bool bn, .slice bo bl bc, .slice beo bel bec] 45)
  have bb := RBox.new (w.alloc (.cells #[.bool an, .slice ao al ac, .slice aeo ael aec] 45)) bn bo bl bc beo bel bec
  rw [World.size_alloc] at bb
  have hab : a = b ↔ an = bn ∧ a.num = b.num ∧ a.den = b.den := by
    constructor
    · intro h
      subst h
      exact ⟨hga.symm.trans hgb, rfl, rfl⟩
    · rintro ⟨h1, h2, h3⟩
      cases a
      cases b
      simp_all
  have H : Hid (RatAt _ ao al ac aeo ael aec a ∧ RatAt _ bo bl bc beo bel bec b ∧ RBox _ w.heap.size an ao al ac aeo ael aec ∧ RBox _ (w.heap.size + 1) bn bo bl bc beo bel bec ∧ Below w.heap.size w _ ∧ (t = true ↔ an = bn ∧ a.num = b.num ∧ a.den = b.den)) := ⟨ha.below hb2, hb.below hb2, ba, bb, hb2, ht.trans hab⟩
  clear ha hb hga hgb hb2 ba bb hab ht
  by_cases hn : an = bn
  · have hnb : (an == bn) = true := by rw [hn]; simp
    have HN : Hid (an = bn) := hn
    clear hn
    go_enter Tryz.func35, Tryz.ntmps35
    go_wp2_with fail
    refine (rnsame_any _ _ _ _ _ _ a.num b.num _ H.out.1.num H.out.2.1.num).mono ?_
    rintro e w1 ⟨rfl, b1⟩
    have c2 := (H.out.2.2.1.below b1).c2
    have d2 := (H.out.2.2.2.1.below b1).c2
    have H1 : Hid (RatAt w1 ao al ac aeo ael aec a ∧ RatAt w1 bo bl bc beo bel bec b ∧ Below w.heap.size w w1) := ⟨H.out.1.below b1, H.out.2.1.below b1, chain H.out.2.2.2.2.1 b1⟩
    clear b1
    by_cases hm : a.num = b.num
    · have hmd : decide (a.num = b.num) = true := decide_eq_true hm
      have HM : Hid (a.num = b.num) := hm
      rw [hmd]
      clear hm hmd
      go_wp2_with fail
      refine (rnsame_any _ _ _ _ _ _ a.den b.den _ H1.out.1.den H1.out.2.1.den).mono ?_
      rintro e w2 ⟨rfl, b2⟩
      have H2 : Hid (Below w.heap.size w w2) := chain H1.out.2.2 b2
      clear b2
      obtain ⟨td, htd⟩ : ∃ td, td = decide (a.den = b.den) := ⟨_, rfl⟩
      rw [← htd]
      have HT : Hid (td = t) := by
        have h9 : td = t := by
          rw [htd, Bool.eq_iff_iff, H.out.2.2.2.2.2, decide_eq_true_iff]
          exact ⟨fun h => ⟨HN.out, HM.out, h⟩, fun h => h.2.2⟩
        exact h9
      clear htd
      go_wp2
      go_ret
      exact ⟨ret_bool (by simpa using HT.out), H2.out⟩
    · have hmd : decide (a.num = b.num) = false := decide_eq_false hm
      have htf : t = false := by
        cases e : t with
        | false => rfl
        | true => exact absurd (H.out.2.2.2.2.2.1 e).2.1 hm
      rw [hmd]
      subst htf
      clear hm hmd
      go_wp2
      go_ret
      exact ⟨rfl, H1.out.2.2⟩
  · have hnb : (an == bn) = false := by rw [beq_eq_false_iff_ne]; exact hn
    have htf : t = false := by
      cases e : t with
      | false => rfl
      | true => exact absurd (H.out.2.2.2.2.2.1 e).1 hn
    subst htf
    clear hn
    go_enter Tryz.func35, Tryz.ntmps35
    go_wp2
    go_ret
    exact ⟨rfl, H.out.2.2.2.2.1⟩

end Go.Proofs.YtnedghhcidohnaaGreat

/-! ratio.joined: it looks at both numbers, multiplies both Dens, and goes through Make. -/
namespace Go.Proofs.YtnedghhcidohnaaGreat
open Go.RowKit

/-- What an operation on two numbers tells of the part above. -/
structure ResOut (tb : Prop) (N : Int) (neg : Bool) (x : List Int) (k : Int) : Prop where
  big : tb → k = 21
  fine : ¬ tb → k = 0 ∧ May x ∧ Limbs x ∧ sg neg (val x) = N

/-- The three variables that joined makes first. -/
structure Boxes (w W : World) (an : Bool) (ao : Option Addr) (al ac : Nat) (aeo : Option Addr) (ael aec : Nat) (bn : Bool) (bo : Option Addr) (bl bc : Nat) (beo : Option Addr) (bel bec : Nat) : Prop where
  a : RBox W w.heap.size an ao al ac aeo ael aec
  b : RBox W (w.heap.size + 1) bn bo bl bc beo bel bec
  r : RBox W (w.heap.size + 2) false none 0 0 none 0 0
  bel : Below w.heap.size w W

theorem Boxes.new (w : World) (an : Bool) (ao : Option Addr) (al ac : Nat) (aeo : Option Addr) (ael aec : Nat) (bn : Bool) (bo : Option Addr) (bl bc : Nat) (beo : Option Addr) (bel bec : Nat) :
    Boxes w (((w.alloc (.cells #[.bool an, .slice ao al ac, .slice aeo ael aec] 45)).alloc (.cells #[.bool bn, .slice bo bl bc, .slice beo bel bec] 45)).alloc (.cells #[.bool false, .slice none 0 0, .slice none 0 0] 45)) an ao al ac aeo ael aec bn bo bl bc beo bel bec := by
  have c := RBox.new ((w.alloc (.cells #[.bool an, .slice ao al ac, .slice aeo ael aec] 45)).alloc (.cells #[.bool bn, .slice bo bl bc, .slice beo bel bec] 45)) false none 0 0 none 0 0
  have d := (RBox.new (w.alloc (.cells #[.bool an, .slice ao al ac, .slice aeo ael aec] 45)) bn bo bl bc beo bel bec).alloc (.cells #[.bool false, .slice none 0 0, .slice none 0 0] 45)
  rw [World.size_alloc] at c d
  rw [World.size_alloc] at c
  exact ⟨((RBox.new w an ao al ac aeo ael aec).alloc _).alloc _, d, c, below3 w _ _ _⟩

theorem Boxes.below {w W W' : World} {an : Bool} {ao : Option Addr} {al ac : Nat} {aeo : Option Addr} {ael aec : Nat} {bn : Bool} {bo : Option Addr} {bl bc : Nat} {beo : Option Addr} {bel bec : Nat} (h : Boxes w W an ao al ac aeo ael aec bn bo bl bc beo bel bec) (hb : Below W.heap.size W W') : Boxes w W' an ao al ac aeo ael aec bn bo bl bc beo bel bec := ⟨h.a.below hb, h.b.below hb, h.r.below hb, chain h.bel hb⟩

end Go.Proofs.YtnedghhcidohnaaGreat

/-! ratio.Mul and ratio.Add. -/
namespace Go.Proofs.YtnedghhcidohnaaGreat
open Go.RowKit

theorem sg_times (a b : Bool) (x y : Int) : sg (a != b) (x * y) = sg a x * sg b y := by
  unfold sg
  cases a <;> cases b <;> simp [Int.neg_mul, Int.mul_neg]

/-- What a product of two numbers tells. -/
def MulOut (a b : RatL) (r : RatL) (k : Int) : Prop := OpOut (MayR a ∧ MayR b) (Big ≤ val a.num * val b.num ∨ Big ≤ a.bot * b.bot) (a.top * b.top) (a.bot * b.bot) r k

/-- The part above of a sum, with its sign. -/
def addTop (a b : RatL) : Int := a.top * b.bot + b.top * a.bot
/-- A sum has no room. -/
def AddBig (a b : RatL) : Prop := Big ≤ val a.num * b.bot ∨ Big ≤ val b.num * a.bot ∨ Big ≤ ((addTop a b).natAbs : Int)

theorem sg_add (n : Bool) (x y : Int) : sg n (x + y) = sg n x + sg n y := by unfold sg; cases n <;> simp; omega
theorem sg_sub (n : Bool) (x y : Int) : sg n (x - y) = sg n x - sg n y := by unfold sg; cases n <;> simp; omega
theorem sg_flip (n : Bool) (x : Int) : sg (!n) x = - sg n x := by unfold sg; cases n <;> simp

theorem addTop_eq (a b : RatL) : addTop a b = sg a.neg (val a.num * b.bot) + sg b.neg (val b.num * a.bot) := by
  unfold addTop RatL.top
  rw [sg_mul, sg_mul]

/-- What a sum of two numbers tells. -/
def AddOut (a b : RatL) (r : RatL) (k : Int) : Prop := OpOut (MayR a ∧ MayR b) (AddBig a b ∨ Big ≤ a.bot * b.bot) (addTop a b) (a.bot * b.bot) r k

end Go.Proofs.YtnedghhcidohnaaGreat

/-! The reference's Same of layer 2, and May of layer 5. -/
namespace Go.Proofs.YtnedghhcidohnaaGreat
open Go.RowKit

theorem nsame_b (ao bo : Option Addr) (na ca nb cb : Nat) (xs ys : List Int) (w : World) (ha : RowAt w ao na ca xs) (hb : RowAt w bo nb cb ys) (b : Bool) (h : b = true ↔ xs = ys) :
    Calls Tryz.prog 58 #[.slice ao na ca, .slice bo nb cb] w fun e w' => e = .returned (.bool b) ∧ Below w.heap.size w w' := by
  have HC : Hid (Calls Tryz.prog 86 #[.slice ao na ca, .slice bo nb cb] w fun e w' => e = .returned (.bool b) ∧ Below w.heap.size w w') := by
    cases b with
    | true => exact same_yes ao bo na ca nb cb xs ys w ha hb (h.1 rfl)
    | false => exact same_no ao bo na ca nb cb xs ys w ha hb (fun e => by have := h.2 e; cases this)
  clear ha hb h
  go_enter Tryz.func58, Tryz.ntmps58
  go_wp2_with fail
  refine HC.out.mono ?_
  rintro e w1 ⟨rfl, b1⟩
  have H1 : Hid (Below w.heap.size w w1) := b1
  clear b1
  go_wp2
  go_ret
  exact ⟨rfl, H1.out⟩

theorem row_is1 (W : World) : RowAt (W.alloc (.cells #[.int .u64 1] 56)) (some ⟨W.heap.size, 0, none⟩) 1 1 [1] := by
  refine ⟨rfl, ?_, Nat.le_refl _, by unfold maxLen; omega, by simp, fun _ => ⟨W.heap.size, 0, rfl, by simp, fun j hj => ?_⟩⟩
  · intro x hx
    rw [List.mem_singleton] at hx
    subst hx
    exact ⟨by omega, by unfold BB; omega⟩
  · have : j = 0 := by simp at hj; omega
    subst this
    rw [cell_of_row _ W.heap.size 0 _ _ _ (heap_alloc_new W _)]
    rfl

set_option maxRecDepth 100000 in
set_option maxHeartbeats 4000000 in
theorem rrmay_r (neg : Bool) (no : Option Addr) (nn nc : Nat) (eo : Option Addr) (en ec : Nat) (r : RatL) (w : World) (h : RatAt w no nn nc eo en ec r) (hg : r.neg = neg) (b : Bool) (hb : b = true ↔ MayR r) :
    Calls Tryz.prog 37 #[.agg #[.bool neg, .slice no nn nc, .slice eo en ec]] w fun e w' => e = .returned (.bool b) ∧ Below w.heap.size w w' := by
  have hnn := nn_most h.num
  have hen := nn_most h.den
  have bx := RBox.new w neg no nn nc eo en ec
  have hB0 : Below w.heap.size w (w.alloc (.cells #[.bool neg, .slice no nn nc, .slice eo en ec] 45)) := (Below.refl _ _).alloc (Nat.le_refl _) _
  have H : Hid (RatAt (w.alloc (.cells #[.bool neg, .slice no nn nc, .slice eo en ec] 45)) no nn nc eo en ec r ∧ RBox (w.alloc (.cells #[.bool neg, .slice no nn nc, .slice eo en ec] 45)) w.heap.size neg no nn nc eo en ec ∧ Below w.heap.size w (w.alloc (.cells #[.bool neg, .slice no nn nc, .slice eo en ec] 45)) ∧ r.neg = neg ∧ (b = true ↔ MayR r)) := ⟨h.below hB0, bx, hB0, hg, hb⟩
  have HL : Hid (r.den.length = en ∧ r.num.length = nn ∧ LimR r) := ⟨h.den.len, h.num.len, h.lim⟩
  have c0 := bx.c0
  have c1 := bx.c1
  have c2 := bx.c2
  clear bx hB0 h hg hb
  by_cases hmn : May r.num
  · have HMN : Hid (May r.num) := hmn
    clear hmn
    by_cases hmd : May r.den
    · have HMD : Hid (May r.den) := hmd
      clear hmd
      by_cases he : en = 0
      · have hbf : b = false := by
          cases e : b with
          | false => rfl
          | true => exact absurd ((val_zero HL.out.2.2.2 (H.out.2.2.2.2.1 e).den HL.out.1).1 he) (H.out.2.2.2.2.1 e).pos
        subst hbf
        subst he
        go_enter Tryz.func37, Tryz.ntmps37
        go_wp2_with fail
        refine (rmay_val _ _ _ _ _ H.out.1.num true ⟨fun _ => HMN.out, fun _ => rfl⟩).mono ?_
        rintro e w1 ⟨rfl, rfl⟩
        go_wp2_with fail
        refine (rmay_val _ _ _ _ _ H.out.1.den true ⟨fun _ => HMD.out, fun _ => rfl⟩).mono ?_
        rintro e w1 ⟨rfl, rfl⟩
        go_wp2
        go_ret
        exact ⟨rfl, H.out.2.2.1⟩
      · have he1 : ¬ (en : Int) = 0 := by omega
        have he2 : ((en : Int) == 0) = false := by rw [beq_eq_false_iff_ne]; exact he1
        have HE : Hid (val r.den ≠ 0) := fun e => he ((val_zero HL.out.2.2.2 HMD.out HL.out.1).2 e)
        clear he
        go_enter Tryz.func37, Tryz.ntmps37
        go_wp2_with fail
        refine (rmay_val _ _ _ _ _ H.out.1.num true ⟨fun _ => HMN.out, fun _ => rfl⟩).mono ?_
        rintro e w1 ⟨rfl, rfl⟩
        go_wp2_with fail
        refine (rmay_val _ _ _ _ _ H.out.1.den true ⟨fun _ => HMD.out, fun _ => rfl⟩).mono ?_
        rintro e w1 ⟨rfl, rfl⟩
        go_wp2_with fail
        refine (rqgcd_any _ _ _ _ _ _ r.num r.den _ H.out.1.num H.out.1.den).mono ?_
        rintro e w1 ⟨go, gn, gc, g, k, rfl, g1, g2, g3⟩
        have bx1 := H.out.2.1.below g3
        have hB1 : Below w1.heap.size w1 (w1.alloc (.cells #[.int .u64 1] 56)) := (Below.refl _ _).alloc (Nat.le_refl _) _
        have hlt := gcdI_lt (val_bd HL.out.2.2.1).1 (val_bd HL.out.2.2.2).1 (HMN.out.lt HL.out.2.2.1) (HMD.out.lt HL.out.2.2.2)
        obtain ⟨hk0, hnum⟩ := g2.ok_num ⟨HMN.out, HMD.out⟩ (fun f => f) hlt
        have hone : g = [1] ↔ gcdI (val r.num) (val r.den) = 1 := ⟨fun e => by rw [← hnum.val, e]; simp [val], fun e => by rw [e] at hnum; exact hnum.one (num1 (by omega) (by unfold BB; omega))⟩
        obtain ⟨t, ht⟩ : ∃ t : Bool, t = true ↔ g = [1] := by
          by_cases e : g = [1]
          · exact ⟨true, fun _ => e, fun _ => rfl⟩
          · exact ⟨false, fun h => (by cases h), fun h => absurd h e⟩
        have H1 : Hid (RowAt (w1.alloc (.cells #[.int .u64 1] 56)) go gn gc g ∧ Below w.heap.size w (w1.alloc (.cells #[.int .u64 1] 56)) ∧ RBox (w1.alloc (.cells #[.int .u64 1] 56)) w.heap.size neg no nn nc eo en ec ∧ (t = true ↔ g = [1]) ∧ (t = true ↔ gcdI (val r.num) (val r.den) = 1)) := ⟨g1.below hB1, chain (chain H.out.2.2.1 g3) hB1, bx1.below hB1, ht, ht.trans hone⟩
        clear g1 g2 g3 bx1 hB1 hlt hk0 hnum hone ht c0 c1 c2
        go_wp2_with fail
        refine (nsame_b go _ gn gc 1 1 g [1] _ H1.out.1 (row_is1 w1) t H1.out.2.2.2.1).mono ?_
        rintro e w2 ⟨rfl, b2⟩
        have bx2 := H1.out.2.2.1.below b2
        have H2 : Hid (Below w.heap.size w w2) := chain H1.out.2.1 b2
        have c0 := bx2.c0
        have c1 := bx2.c1
        clear b2 bx2
        have HT : Hid (t = true ↔ gcdI (val r.num) (val r.den) = 1) := H1.out.2.2.2.2
        clear H1
        cases t with
        | false =>
          have hbf : b = false := by
            cases e : b with
            | false => rfl
            | true => have := HT.out.2 (H.out.2.2.2.2.1 e).low; cases this
          subst hbf
          go_wp2
          go_ret
          exact ⟨rfl, H2.out⟩
        | true =>
          have HO : Hid (gcdI (val r.num) (val r.den) = 1) := HT.out.1 rfl
          cases neg with
          | false =>
            have hbt : b = true := H.out.2.2.2.2.2 ⟨HMN.out, HMD.out, HE.out, HO.out, fun h => by rw [H.out.2.2.2.1] at h; cases h⟩
            subst hbt
            go_wp2
            go_ret
            exact ⟨rfl, H2.out⟩
          | true =>
            by_cases hz : nn = 0
            · have hbf : b = false := by
                cases e : b with
                | false => rfl
                | true => exact absurd ((val_zero HL.out.2.2.1 (H.out.2.2.2.2.1 e).num HL.out.2.1).1 hz) ((H.out.2.2.2.2.1 e).sign H.out.2.2.2.1)
              subst hbf
              subst hz
              go_wp2
              go_ret
              exact ⟨rfl, H2.out⟩
            · have hbt : b = true := H.out.2.2.2.2.2 ⟨HMN.out, HMD.out, HE.out, HO.out, fun _ => fun e => hz ((val_zero HL.out.2.2.1 HMN.out HL.out.2.1).2 e)⟩
              subst hbt
              have hz1 : ((nn : Int) == 0) = false := by rw [beq_eq_false_iff_ne]; omega
              clear hz
              go_wp2
              go_ret
              exact ⟨rfl, H2.out⟩
    · have hbf : b = false := by
        cases e : b with
        | false => rfl
        | true => exact absurd (H.out.2.2.2.2.1 e).den hmd
      subst hbf
      have HMD : Hid (¬ May r.den) := hmd
      clear hmd
      go_enter Tryz.func37, Tryz.ntmps37
      go_wp2_with fail
      refine (rmay_val _ _ _ _ _ H.out.1.num true ⟨fun _ => HMN.out, fun _ => rfl⟩).mono ?_
      rintro e w1 ⟨rfl, rfl⟩
      go_wp2_with fail
      refine (rmay_val _ _ _ _ _ H.out.1.den false ⟨(fun e => by cases e), fun e => absurd e HMD.out⟩).mono ?_
      rintro e w1 ⟨rfl, rfl⟩
      go_wp2
      go_ret
      exact ⟨rfl, H.out.2.2.1⟩
  · have hbf : b = false := by
      cases e : b with
      | false => rfl
      | true => exact absurd (H.out.2.2.2.2.1 e).num hmn
    subst hbf
    have HMN : Hid (¬ May r.num) := hmn
    clear hmn
    go_enter Tryz.func37, Tryz.ntmps37
    go_wp2_with fail
    refine (rmay_val _ _ _ _ _ H.out.1.num false ⟨(fun e => by cases e), fun e => absurd e HMN.out⟩).mono ?_
    rintro e w1 ⟨rfl, rfl⟩
    go_wp2
    go_ret
    exact ⟨rfl, H.out.2.2.1⟩
end Go.Proofs.YtnedghhcidohnaaGreat

/-! ratio: Of, Neg, Inv; the reference's Of. -/
namespace Go.Proofs.YtnedghhcidohnaaGreat
open Go.RowKit
attribute [local go_sem ↓] Go.wp_at_zero Go.wp_at_succ

theorem gcd_one (a : Int) : gcdI a 1 = 1 := by unfold gcdI; simp

/-- A whole number. -/
theorem Is.whole {n : Int} {p q : List Int} (hp : Num p (n.natAbs : Int)) (hq : Num q 1) (hn : (n.natAbs : Int) < BB) : Is ⟨decide (n < 0), p, q⟩ n 1 := by
  have hbb := Big_BB
  have hb1 := Big_one
  refine ⟨⟨hp.may.2 (by omega), hq.may.2 hb1, by rw [hq.val]; omega, by rw [hp.val, hq.val]; exact gcd_one _, fun h => ?_⟩, ⟨hp.limbs, hq.limbs⟩, by omega, ?_⟩
  · rw [hp.val]
    have := of_decide_eq_true h
    omega
  · show sg (decide (n < 0)) (val p) * 1 = n * val q
    rw [hp.val, hq.val]
    unfold sg
    by_cases h : n < 0
    · rw [decide_eq_true h]
      simp
      omega
    · rw [decide_eq_false h]
      simp
      omega

end Go.Proofs.YtnedghhcidohnaaGreat

/-! The reference's Of. -/
namespace Go.Proofs.YtnedghhcidohnaaGreat
open Go.RowKit

set_option maxHeartbeats 1000000 in
theorem rof_r (n : Int) (w : World) (h0 : -9223372036854775808 ≤ n) (h1 : n ≤ 9223372036854775807) :
    Calls Tryz.prog 67 #[.int .i64 n] w fun e w' => ∃ neg no nn nc eo en ec r, e = .returned (.agg #[.bool neg, .slice no nn nc, .slice eo en ec]) ∧ r.neg = neg ∧ RatAt w' no nn nc eo en ec r ∧ Is r n 1 ∧ Below w.heap.size w w' := by
  have bx := RBox.new w false none 0 0 none 0 0
  have hB0 : Below w.heap.size w (w.alloc (.cells #[.bool false, .slice none 0 0, .slice none 0 0] 45)) := (Below.refl _ _).alloc (Nat.le_refl _) _
  have H : Hid (RBox _ w.heap.size false none 0 0 none 0 0 ∧ Below w.heap.size w (w.alloc (.cells #[.bool false, .slice none 0 0, .slice none 0 0] 45))) := ⟨bx, hB0⟩
  have hab : (n.natAbs : Int) < BB := by unfold BB; omega
  obtain ⟨S, hS⟩ : ∃ S, S = (n.natAbs : Int) := ⟨_, rfl⟩
  have HS : Hid (S = (n.natAbs : Int) ∧ 0 ≤ S ∧ S < BB ∧ (1 : Int) < BB) := ⟨hS, by omega, by omega, by unfold BB; omega⟩
  clear bx hB0
  by_cases hn : n < 0
  · obtain ⟨U, hU⟩ : ∃ U, U = n + 18446744073709551616 := ⟨_, rfl⟩
    have hw1 : IntKind.u64.wrap n = U := by rw [IntKind.wrap_u64]; omega
    have hw2 : IntKind.u64.wrap (-U) = S := by rw [IntKind.wrap_u64]; omega
    have HN : Hid (n < 0) := hn
    clear hab hS hU
    go_enter Tryz.func67, Tryz.ntmps67
    go_wp2_with fail
    refine (rof_any S _ HS.out.2.1 HS.out.2.2.1).mono ?_
    rintro e w1 ⟨po, pn, pc, p, rfl, p1, p2, p3, p4⟩
    have P : Hid (RowAt w1 po pn pc p ∧ Num p S ∧ RBox w1 w.heap.size false none 0 0 none 0 0 ∧ Below w.heap.size w w1) := ⟨p1, p2, H.out.1.below p4, chain H.out.2 p4⟩
    clear p1 p2 p3 p4
    obtain ⟨w2, hw⟩ : ∃ w2, w2 = w1.alloc (Obj.cells #[.int .u64 1] 56) := ⟨_, rfl⟩
    have q1 := one_row w1 1 (by omega) HS.out.2.2.2
    have q2 := num1 (x := 1) (by omega) HS.out.2.2.2
    have q4 : Below w1.heap.size w1 (w1.alloc (Obj.cells #[.int .u64 1] 56)) := (Below.refl _ _).alloc (Nat.le_refl _) _
    rw [← hw] at q1 q4
    have bx2 := P.out.2.2.1.below q4
    have r0 := bx2.c0
    have r1 := bx2.c1
    have r2 := bx2.c2
    have f0 := bx2.f 0
    have f1 := bx2.f 1
    have f2 := bx2.f 2
    have Q : Hid (RatAt w2 po pn pc (some ⟨w1.heap.size, 0, none⟩) 1 1 ⟨true, p, [1]⟩ ∧ Num [1] 1 ∧ RBox w2 w.heap.size false none 0 0 none 0 0 ∧ Below w.heap.size w w2) := ⟨⟨P.out.1.below q4, q1⟩, q2, bx2, chain P.out.2.2.2 q4⟩
    have HI : Hid (Is ⟨true, p, [1]⟩ n 1) := by
      have h := Is.whole (n := n) (p := p) (q := [1]) (by rw [← HS.out.1]; exact P.out.2.1) q2 (by rw [← HS.out.1]; exact HS.out.2.2.1)
      rw [decide_eq_true HN.out] at h
      exact h
    have HR : Hid _ := Q.out.2.2.1.set true po pn pc (some ⟨w1.heap.size, 0, none⟩) 1 1
    have HT : Hid _ := Q.out.1.setR Q.out.2.2.1 (.bool true) (.slice po pn pc) (.slice (some ⟨w1.heap.size, 0, none⟩) 1 1)
    clear q1 q2 q4 bx2
    subst hw
    go_wp2_with fail
    exact bodyPost_ret (results_r1 rfl _ HR.out rfl) rfl ⟨true, po, pn, pc, some ⟨w1.heap.size, 0, none⟩, 1, 1, ⟨true, p, [1]⟩, rfl, rfl, HT.out, HI.out, below_set Q.out.2.2.2 (Nat.le_refl _) _ _ _⟩
  · have hw1 : IntKind.u64.wrap n = S := by rw [IntKind.wrap_u64]; omega
    have HN : Hid (¬ n < 0) := hn
    clear hab hS
    go_enter Tryz.func67, Tryz.ntmps67
    go_wp2_with fail
    refine (rof_any S _ HS.out.2.1 HS.out.2.2.1).mono ?_
    rintro e w1 ⟨po, pn, pc, p, rfl, p1, p2, p3, p4⟩
    have P : Hid (RowAt w1 po pn pc p ∧ Num p S ∧ RBox w1 w.heap.size false none 0 0 none 0 0 ∧ Below w.heap.size w w1) := ⟨p1, p2, H.out.1.below p4, chain H.out.2 p4⟩
    clear p1 p2 p3 p4
    obtain ⟨w2, hw⟩ : ∃ w2, w2 = w1.alloc (Obj.cells #[.int .u64 1] 56) := ⟨_, rfl⟩
    have q1 := one_row w1 1 (by omega) HS.out.2.2.2
    have q2 := num1 (x := 1) (by omega) HS.out.2.2.2
    have q4 : Below w1.heap.size w1 (w1.alloc (Obj.cells #[.int .u64 1] 56)) := (Below.refl _ _).alloc (Nat.le_refl _) _
    rw [← hw] at q1 q4
    have bx2 := P.out.2.2.1.below q4
    have r0 := bx2.c0
    have r1 := bx2.c1
    have r2 := bx2.c2
    have f0 := bx2.f 0
    have f1 := bx2.f 1
    have f2 := bx2.f 2
    have Q : Hid (RatAt w2 po pn pc (some ⟨w1.heap.size, 0, none⟩) 1 1 ⟨false, p, [1]⟩ ∧ Num [1] 1 ∧ RBox w2 w.heap.size false none 0 0 none 0 0 ∧ Below w.heap.size w w2) := ⟨⟨P.out.1.below q4, q1⟩, q2, bx2, chain P.out.2.2.2 q4⟩
    have HI : Hid (Is ⟨false, p, [1]⟩ n 1) := by
      have h := Is.whole (n := n) (p := p) (q := [1]) (by rw [← HS.out.1]; exact P.out.2.1) q2 (by rw [← HS.out.1]; exact HS.out.2.2.1)
      rw [decide_eq_false (Int.not_lt.2 HN.out)] at h
      exact h
    have HR : Hid _ := Q.out.2.2.1.set false po pn pc (some ⟨w1.heap.size, 0, none⟩) 1 1
    have HT : Hid _ := Q.out.1.setR Q.out.2.2.1 (.bool false) (.slice po pn pc) (.slice (some ⟨w1.heap.size, 0, none⟩) 1 1)
    clear q1 q2 q4 bx2
    subst hw
    go_wp2_with fail
    exact bodyPost_ret (results_r1 rfl _ HR.out rfl) rfl ⟨false, po, pn, pc, some ⟨w1.heap.size, 0, none⟩, 1, 1, ⟨false, p, [1]⟩, rfl, rfl, HT.out, HI.out, below_set Q.out.2.2.2 (Nat.le_refl _) _ _ _⟩

end Go.Proofs.YtnedghhcidohnaaGreat

/-! The reference's Make. -/
namespace Go.Proofs.YtnedghhcidohnaaGreat
open Go.RowKit

set_option maxHeartbeats 1000000 in
theorem rmake_any (neg : Bool) (xo : Option Addr) (xn xc : Nat) (yo : Option Addr) (yn yc : Nat) (xs ys : List Int) (w : World) (hx : RowAt w xo xn xc xs) (hy : RowAt w yo yn yc ys) :
    Calls Tryz.prog 91 #[.bool neg, .slice xo xn xc, .slice yo yn yc] w fun e w' => ∃ rneg no nn nc eo en ec r k, e = .returned (.tuple #[.agg #[.bool rneg, .slice no nn nc, .slice eo en ec], .int .i64 k]) ∧ r.neg = rneg ∧ RatAt w' no nn nc eo en ec r ∧ MakeOut neg xs ys r k ∧ Below w.heap.size w w' := by
  have hxm := nn_most hx
  have hym := nn_most hy
  have bx := RBox.new w false none 0 0 none 0 0
  have hB0 : Below w.heap.size w (w.alloc (.cells #[.bool false, .slice none 0 0, .slice none 0 0] 45)) := (Below.refl _ _).alloc (Nat.le_refl _) _
  have H : Hid (RowAt (w.alloc (.cells #[.bool false, .slice none 0 0, .slice none 0 0] 45)) xo xn xc xs ∧ RowAt (w.alloc (.cells #[.bool false, .slice none 0 0, .slice none 0 0] 45)) yo yn yc ys ∧ RBox (w.alloc (.cells #[.bool false, .slice none 0 0, .slice none 0 0] 45)) w.heap.size false none 0 0 none 0 0 ∧ Below w.heap.size w (w.alloc (.cells #[.bool false, .slice none 0 0, .slice none 0 0] 45))) := ⟨hx.below hB0, hy.below hB0, bx, hB0⟩
  have HL : Hid (ys.length = yn ∧ xs.length = xn ∧ Limbs xs ∧ Limbs ys) := ⟨hy.len, hx.len, hx.limbs, hy.limbs⟩
  clear bx hB0 hx hy
  go_enter Tryz.func91, Tryz.ntmps91
  go_wp2_with fail
  refine (rqgcd_any _ _ _ _ _ _ xs ys _ H.out.1 H.out.2.1).mono ?_
  rintro e w1 ⟨go, gn, gc, g, k, rfl, g1, g2, g3⟩
  have bx1 := H.out.2.2.1.below g3
  have c0 := bx1.c0
  have c1 := bx1.c1
  have c2 := bx1.c2
  have f0 := bx1.f 0
  have f1 := bx1.f 1
  have f2 := bx1.f 2
  have HG : Hid (RowAt w1 go gn gc g ∧ Out (May xs ∧ May ys) False (gcdI (val xs) (val ys)) g k ∧ Below w.heap.size w w1 ∧ RBox w1 w.heap.size false none 0 0 none 0 0 ∧ RowAt w1 xo xn xc xs ∧ RowAt w1 yo yn yc ys) := ⟨g1, g2, chain H.out.2.2.2 g3, bx1, H.out.1.below g3, H.out.2.1.below g3⟩
  clear g1 g2 g3 bx1
  by_cases hm : May xs ∧ May ys
  · have hlt := gcdI_lt (val_bd HL.out.2.2.1).1 (val_bd HL.out.2.2.2).1 (hm.1.lt HL.out.2.2.1) (hm.2.lt HL.out.2.2.2)
    obtain ⟨hk0, hnum⟩ := HG.out.2.1.ok_num hm (fun f => f) hlt
    subst hk0
    have HM : Hid ((May xs ∧ May ys) ∧ Num g (gcdI (val xs) (val ys)) ∧ gcdI (val xs) (val ys) < Big) := ⟨hm, hnum, hlt⟩
    clear hm hlt hnum
    by_cases hy0 : yn = 0
    · have HZ : Hid (val ys = 0) := (val_zero HL.out.2.2.2 HM.out.1.2 HL.out.1).1 hy0
      subst hy0
      have HR : Hid _ := HG.out.2.2.2.1.set false none 0 0 none 0 0
      go_wp2_with fail
      exact bodyPost_ret (results_r2 rfl _ HR.out rfl _ rfl) rfl ⟨false, none, 0, 0, none, 0, 0, rat0, 30, rfl, rfl, RatAt.zero _, ⟨fun h => absurd HM.out.1 h, fun _ _ => ⟨rfl, rfl⟩, fun _ h => absurd HZ.out h⟩, below_set HG.out.2.2.1 (Nat.le_refl _) _ _ _⟩
    · have HZ : Hid (val ys ≠ 0) := fun e => hy0 ((val_zero HL.out.2.2.2 HM.out.1.2 HL.out.1).2 e)
      have hy0b : ((yn : Int) == 0) = false := by rw [beq_eq_false_iff_ne]; omega
      have HGZ : Hid (val g ≠ 0) := by
        show val g ≠ 0
        rw [HM.out.2.1.val, gcdI_comm]
        have h1 := (val_bd HL.out.2.2.2).1
        have := gcdI_pos (a := val ys) (b := val xs) (by have := HZ.out; omega)
        omega
      have HMG : Hid (May g) := HM.out.2.1.may.2 HM.out.2.2
      clear hy0 c0 c1 c2 f0 f1 f2
      go_wp2_with fail
      refine (rqdiv_any _ _ _ _ _ _ xs g _ HG.out.2.2.2.2.1 HG.out.1).mono ?_
      rintro e w2 ⟨po, pn, pc, p, so, sn, sc, s, pk, rfl, p1, p2, p3, p4⟩
      obtain ⟨_, hp, _⟩ := p3.is_fine ⟨HM.out.1.1, HMG.out⟩ HGZ.out
      rw [HM.out.2.1.val] at hp
      have HP : Hid (RowAt w2 po pn pc p ∧ Num p (val xs / gcdI (val xs) (val ys)) ∧ RowAt w2 go gn gc g ∧ RowAt w2 yo yn yc ys ∧ RBox w2 w.heap.size false none 0 0 none 0 0 ∧ Below w.heap.size w w2) := ⟨p1, hp, HG.out.1.below p4, HG.out.2.2.2.2.2.below p4, HG.out.2.2.2.1.below p4, chain HG.out.2.2.1 p4⟩
      clear p1 p2 p3 p4 hp
      go_wp2_with fail
      refine (rqdiv_any _ _ _ _ _ _ ys g _ HP.out.2.2.2.1 HP.out.2.2.1).mono ?_
      rintro e w3 ⟨qo, qn, qc, q, to', tn, tc, t, qk, rfl, p1, p2, p3, p4⟩
      obtain ⟨_, hq, _⟩ := p3.is_fine ⟨HM.out.1.2, HMG.out⟩ HGZ.out
      rw [HM.out.2.1.val] at hq
      have hpm := nn_most (HP.out.1)
      have bx3 := HP.out.2.2.2.2.1.below p4
      have HQ : Hid (RowAt w3 po pn pc p ∧ Num p (val xs / gcdI (val xs) (val ys)) ∧ RowAt w3 qo qn qc q ∧ Num q (val ys / gcdI (val xs) (val ys)) ∧ RBox w3 w.heap.size false none 0 0 none 0 0 ∧ Below w.heap.size w w3 ∧ p.length = pn) := ⟨HP.out.1.below p4, HP.out.2.1, p1, hq, bx3, chain HP.out.2.2.2.2.2 p4, HP.out.1.len⟩
      have c0 := bx3.c0
      have c1 := bx3.c1
      have c2 := bx3.c2
      have f0 := bx3.f 0
      have f1 := bx3.f 1
      have f2 := bx3.f 2
      clear p1 p2 p3 p4 hq bx3
      have HI : Hid (Is ⟨neg && decide (0 < p.length), p, q⟩ (sg neg (val xs)) (val ys)) := Is.made HL.out.2.2.1 HL.out.2.2.2 HM.out.1.1 HM.out.1.2 HZ.out HQ.out.2.1 HQ.out.2.2.2.1
      cases neg with
      | false =>
        have HR : Hid _ := HQ.out.2.2.2.2.1.set false po pn pc qo qn qc
        have HT : Hid (RatAt _ po pn pc qo qn qc ⟨false, p, q⟩) := (⟨HQ.out.1, HQ.out.2.2.1⟩ : RatAt w3 po pn pc qo qn qc ⟨false, p, q⟩).setR HQ.out.2.2.2.2.1 (.bool false) (.slice po pn pc) (.slice qo qn qc)
        go_wp2_with fail
        exact bodyPost_ret (results_r2 rfl _ HR.out rfl _ rfl) rfl ⟨false, po, pn, pc, qo, qn, qc, ⟨false, p, q⟩, 0, rfl, rfl, HT.out, ⟨fun h => absurd HM.out.1 h, fun _ h => absurd h HZ.out, fun _ _ => ⟨rfl, HI.out⟩⟩, below_set HQ.out.2.2.2.2.2.1 (Nat.le_refl _) _ _ _⟩
      | true =>
        obtain ⟨sn', hsn⟩ : ∃ sn', sn' = decide (0 < pn) := ⟨_, rfl⟩
        have HI2 : Hid (Is ⟨sn', p, q⟩ (sg true (val xs)) (val ys)) := by
          have h := HI.out
          rw [HQ.out.2.2.2.2.2.2, ← hsn] at h
          exact h
        have HR : Hid _ := HQ.out.2.2.2.2.1.set sn' po pn pc qo qn qc
        have HT : Hid (RatAt _ po pn pc qo qn qc ⟨sn', p, q⟩) := (⟨HQ.out.1, HQ.out.2.2.1⟩ : RatAt w3 po pn pc qo qn qc ⟨sn', p, q⟩).setR HQ.out.2.2.2.2.1 (.bool sn') (.slice po pn pc) (.slice qo qn qc)
        go_wp2_with fail
        rw [← hsn]
        exact bodyPost_ret (results_r2 rfl _ HR.out rfl _ rfl) rfl ⟨sn', po, pn, pc, qo, qn, qc, ⟨sn', p, q⟩, 0, rfl, rfl, HT.out, ⟨fun h => absurd HM.out.1 h, fun _ h => absurd h HZ.out, fun _ _ => ⟨rfl, HI2.out⟩⟩, below_set HQ.out.2.2.2.2.2.1 (Nat.le_refl _) _ _ _⟩
  · obtain ⟨hk, _⟩ := HG.out.2.1.is_arg hm
    subst hk
    have HM : Hid (¬ (May xs ∧ May ys)) := hm
    have HR : Hid _ := HG.out.2.2.2.1.set false none 0 0 none 0 0
    clear hm
    go_wp2_with fail
    exact bodyPost_ret (results_r2 rfl _ HR.out rfl _ rfl) rfl ⟨false, none, 0, 0, none, 0, 0, rat0, 1, rfl, rfl, RatAt.zero _, ⟨fun _ => ⟨rfl, rfl⟩, fun h => absurd h HM.out, fun h => absurd h HM.out⟩, below_set HG.out.2.2.1 (Nat.le_refl _) _ _ _⟩

end Go.Proofs.YtnedghhcidohnaaGreat

/-! The reference's plus. -/
namespace Go.Proofs.YtnedghhcidohnaaGreat
open Go.RowKit

/-- A signed number's variable. -/
def SBox (W : World) (B : Nat) (g : Bool) (o : Option Addr) (n c : Nat) : Prop := W.heap[B]? = some (.cells #[.bool g, .slice o n c] 162 (0, 0))
theorem SBox.lt {W : World} {B : Nat} {g : Bool} {o : Option Addr} {n c : Nat} (h : SBox W B g o n c) : B < W.heap.size := (Array.getElem?_eq_some_iff.1 h).1
theorem SBox.c0 {W : World} {B : Nat} {g : Bool} {o : Option Addr} {n c : Nat} (h : SBox W B g o n c) : W.cell? ⟨B, 0, none⟩ = some (.bool g) := by simp [World.cell?, show W.heap[B]? = _ from h]
theorem SBox.c1 {W : World} {B : Nat} {g : Bool} {o : Option Addr} {n c : Nat} (h : SBox W B g o n c) : W.cell? ⟨B, 1, none⟩ = some (.slice o n c) := by simp [World.cell?, show W.heap[B]? = _ from h]
theorem SBox.f {W : World} {B : Nat} {g : Bool} {o : Option Addr} {n c : Nat} (h : SBox W B g o n c) (k : Nat) : W.frozen? ⟨B, k, none⟩ = false := by simp [World.frozen?, show W.heap[B]? = _ from h]
theorem SBox.new (W : World) (g : Bool) (o : Option Addr) (n c : Nat) : SBox (W.alloc (.cells #[.bool g, .slice o n c] 162)) W.heap.size g o n c := heap_alloc_new W _
theorem SBox.below {W W' : World} {B : Nat} {g : Bool} {o : Option Addr} {n c : Nat} (h : SBox W B g o n c) (hb : Below W.heap.size W W') : SBox W' B g o n c := (hb.block B h.lt).trans h
theorem SBox.set {W : World} {B : Nat} {g : Bool} {o : Option Addr} {n c : Nat} (h : SBox W B g o n c) (g' : Bool) (o' : Option Addr) (n' c' : Nat) :
    SBox ((W.setCell ⟨B, 0, none⟩ (.bool g')).setCell ⟨B, 1, none⟩ (.slice o' n' c')) B g' o' n' c' := set_cells (set_cells h 0 (.bool g')) 1 (.slice o' n' c')
theorem below_set2 {n₀ : Nat} {a W : World} (h : Below n₀ a W) {B : Nat} (hB : n₀ ≤ B) (u v : Value) : Below n₀ a ((W.setCell ⟨B, 0, none⟩ u).setCell ⟨B, 1, none⟩ v) := (h.setCell hB u).setCell hB v
theorem RowAt.setS {W : World} {B : Nat} {g : Bool} {o : Option Addr} {n c : Nat} {ao : Option Addr} {m cap : Nat} {xs : List Int} (h : RowAt W ao m cap xs) (hB : SBox W B g o n c) (u v : Value) : RowAt ((W.setCell ⟨B, 0, none⟩ u).setCell ⟨B, 1, none⟩ v) ao m cap xs := by
  refine ⟨h.len, h.limbs, h.fits, h.most, h.bare, fun hne => ?_⟩
  obtain ⟨b, off, rfl, hlt, hc⟩ := h.cells hne
  have hbB : b ≠ B := by
    rintro rfl
    have h0 := hc 0 (List.length_pos_iff.2 hne)
    unfold World.cell? at h0
    rw [show W.heap[(⟨b, off + 0, none⟩ : Addr).block]? = _ from hB] at h0
    simp only [Nat.add_zero] at h0
    match off with
    | 0 => simp at h0
    | 1 => simp at h0
    | k + 2 => simp at h0
  have e1 : ∀ (V : World) (k : Nat) (y : Value), (V.setCell ⟨B, k, none⟩ y).heap[b]? = V.heap[b]? := fun V k y => Below.heap_setCell V ⟨B, k, none⟩ y b hbB
  have hb := (e1 _ 1 v).trans (e1 W 0 u)
  have s1 : ∀ (V : World) (k : Nat) (y : Value), (V.setCell ⟨B, k, none⟩ y).heap.size = V.heap.size := fun V k y => by simp [World.setCell]
  exact ⟨b, off, rfl, by rw [s1, s1]; exact hlt, fun j hj => (World.cell?_of_block (a := ⟨b, off + j, none⟩) hb).trans (hc j hj)⟩
theorem results_s1 {fn : Func} {t : Tmp} (hf : fn.results = #[.cell t 162]) (tmps : Array Value) {w : World} {B : Nat} {g : Bool} {o : Option Addr} {n c : Nat} (h : SBox w B g o n c) (ht : tmps[t]?.getD undef = .pointer (some ⟨B, 0, none⟩)) :
    (results fn tmps).run Tryz.prog w = .ok (.agg #[.bool g, .slice o n c]) w := by
  have hl : (loadVar 162 ⟨B, 0, none⟩).run Tryz.prog w = .ok (.agg #[.bool g, .slice o n c]) w := run_loadVar_row w B 162 162 _ (0, 0) _ h Tryz.underlying162 rfl (by kernel_rfl)
  simp only [results, hf]
  simp [asAddr, ht, hl]

set_option maxRecDepth 100000 in
set_option maxHeartbeats 4000000 in
theorem plus_r (an : Bool) (ao : Option Addr) (na ca : Nat) (bn : Bool) (bo : Option Addr) (nb cb : Nat) (xs ys : List Int) (w : World) (ha : RowAt w ao na ca xs) (hb : RowAt w bo nb cb ys) (hna : na ≤ 1000) (hnb : nb ≤ 1000) :
    Calls Tryz.prog 121 #[.agg #[.bool an, .slice ao na ca], .agg #[.bool bn, .slice bo nb cb]] w fun e w' => ∃ rn ro m cap r, e = .returned (.agg #[.bool rn, .slice ro m cap]) ∧ RowAt w' ro m cap r ∧ Num r (val r) ∧ sg rn (val r) = sg an (val xs) + sg bn (val ys) ∧ Below w.heap.size w w' := by
  have bA := SBox.new w an ao na ca
  have bB := SBox.new (w.alloc (.cells #[.bool an, .slice ao na ca] 162)) bn bo nb cb
  have bC := SBox.new ((w.alloc (.cells #[.bool an, .slice ao na ca] 162)).alloc (.cells #[.bool bn, .slice bo nb cb] 162)) false none 0 0
  obtain ⟨W, hW⟩ : ∃ W, W = ((w.alloc (.cells #[.bool an, .slice ao na ca] 162)).alloc (.cells #[.bool bn, .slice bo nb cb] 162)).alloc (.cells #[.bool false, .slice none 0 0] 162) := ⟨_, rfl⟩
  have hBel : Below w.heap.size w W := by rw [hW]; exact (((Below.refl _ _).alloc (Nat.le_refl _) _).alloc (by simp) _).alloc (by simp; omega) _
  have bA2 : SBox W w.heap.size an ao na ca := by rw [hW]; exact (bA.below ((Below.refl _ _).alloc (Nat.le_refl _) _)).below ((Below.refl _ _).alloc (Nat.le_refl _) _)
  have bB2 : SBox W (w.heap.size + 1) bn bo nb cb := by rw [hW]; rw [World.size_alloc] at bB; exact bB.below ((Below.refl _ _).alloc (Nat.le_refl _) _)
  have bC2 : SBox W (w.heap.size + 2) false none 0 0 := by rw [hW]; rw [World.size_alloc, World.size_alloc] at bC; exact bC
  have HI : Hid (RowAt W ao na ca xs ∧ RowAt W bo nb cb ys ∧ SBox W w.heap.size an ao na ca ∧ SBox W (w.heap.size + 1) bn bo nb cb ∧ SBox W (w.heap.size + 2) false none 0 0 ∧ Below w.heap.size w W ∧ na ≤ 1000 ∧ nb ≤ 1000) := ⟨ha.below hBel, hb.below hBel, bA2, bB2, bC2, hBel, hna, hnb⟩
  have HW : Hid (W = ((w.alloc (.cells #[.bool an, .slice ao na ca] 162)).alloc (.cells #[.bool bn, .slice bo nb cb] 162)).alloc (.cells #[.bool false, .slice none 0 0] 162)) := hW
  have a0 := bA2.c0
  have a1 := bA2.c1
  have b0 := bB2.c0
  have b1 := bB2.c1
  have e0 := bC2.c0
  have e1 := bC2.c1
  have f0 := bC2.f 0
  have f1 := bC2.f 1
  rw [hW] at a0 a1 b0 b1 e0 e1 f0 f1
  clear bA bB bC bA2 bB2 bC2 hBel ha hb hna hnb hW
  by_cases hs : an = bn
  · subst hs
    have hq : (an == an) = true := by simp
    go_enter Tryz.func121, Tryz.ntmps121
    go_wp2_with fail
    rw [← HW.out]
    clear a0 a1 b0 b1 e0 e1 f0 f1
    have a0 := HI.out.2.2.1.c0
    have a1 := HI.out.2.2.1.c1
    have b0 := HI.out.2.2.2.1.c0
    have b1 := HI.out.2.2.2.1.c1
    have e0 := HI.out.2.2.2.2.1.c0
    have e1 := HI.out.2.2.2.2.1.c1
    have f0 := HI.out.2.2.2.2.1.f 0
    have f1 := HI.out.2.2.2.2.1.f 1
    have hd : Below W.heap.size W W.drew := (Below.refl _ _).drew
    go_region_with (go_at_call 111; refine (radd_any _ _ _ _ _ _ xs ys _ HI.out.1.drew HI.out.2.1.drew (Nat.le_trans HI.out.2.2.2.2.2.2.1 (by decide)) (Nat.le_trans HI.out.2.2.2.2.2.2.2 (by decide))).mono ?_; rintro e w1 ⟨ro, m, cap, r, rfl, q1, q2, q3⟩; have hd := chain hd q3; have xa := (HI.out.2.2.1.below hd).c0; have xc := HI.out.2.2.2.2.1.below hd; have x0 := xc.c0; have x1 := xc.c1; have y0 := xc.f 0; have y1 := xc.f 1)
    all_goals
      have HE : Hid (SBox w1 (w.heap.size + 2) false none 0 0 ∧ RowAt w1 ro m cap r ∧ Num r (val xs + val ys) ∧ Below w.heap.size w w1) := ⟨xc, q1, q2, chain HI.out.2.2.2.2.2.1 hd⟩
      clear xc q1 q2 q3 hd
      go_wp2_with fail
      refine bodyPost_ret (results_s1 rfl _ (HE.out.1.set an ro m cap) rfl) rfl ⟨an, ro, m, cap, r, rfl, HE.out.2.1.setS HE.out.1 _ _, ?_, ?_, below_set2 HE.out.2.2.2 (by omega) _ _⟩
      · rw [HE.out.2.2.1.val]; exact HE.out.2.2.1
      · rw [HE.out.2.2.1.val]; exact sg_add an _ _
  · have hq : (an == bn) = false := by simpa using hs
    go_enter Tryz.func121, Tryz.ntmps121
    go_wp2_with fail
    rw [← HW.out]
    clear a0 a1 b0 b1 e0 e1 f0 f1
    have a0 := HI.out.2.2.1.c0
    have a1 := HI.out.2.2.1.c1
    have b0 := HI.out.2.2.2.1.c0
    have b1 := HI.out.2.2.2.1.c1
    have e0 := HI.out.2.2.2.2.1.c0
    have e1 := HI.out.2.2.2.2.1.c1
    have f0 := HI.out.2.2.2.2.1.f 0
    have f1 := HI.out.2.2.2.2.1.f 1
    by_cases hle : val ys ≤ val xs
    · refine (rsub_ok _ _ _ _ _ _ xs ys _ HI.out.1 HI.out.2.1 (Nat.le_trans HI.out.2.2.2.2.2.2.1 (by decide)) (Nat.le_trans HI.out.2.2.2.2.2.2.2 (by decide)) hle).mono ?_
      rintro e w1 ⟨ro, m, cap, r, rfl, q1, q2, q3⟩
      have xa := (HI.out.2.2.1.below q3).c0
      have xc := HI.out.2.2.2.2.1.below q3
      have x0 := xc.c0
      have x1 := xc.c1
      have y0 := xc.f 0
      have y1 := xc.f 1
      have HE : Hid (SBox w1 (w.heap.size + 2) false none 0 0 ∧ RowAt w1 ro m cap r ∧ Num r (val xs - val ys) ∧ Below w.heap.size w w1) := ⟨xc, q1, q2, chain HI.out.2.2.2.2.2.1 q3⟩
      have HQ : Hid (an ≠ bn) := hs
      clear xc q1 q2 q3 hs
      go_wp2_with fail
      refine bodyPost_ret (results_s1 rfl _ (HE.out.1.set an ro m cap) rfl) rfl ⟨an, ro, m, cap, r, rfl, HE.out.2.1.setS HE.out.1 _ _, ?_, ?_, below_set2 HE.out.2.2.2 (by omega) _ _⟩
      · rw [HE.out.2.2.1.val]; exact HE.out.2.2.1
      · rw [HE.out.2.2.1.val]
        have := HQ.out
        unfold sg
        cases an <;> cases bn <;> simp_all <;> omega
    · have HL : Hid (val xs < val ys) := by
        have h9 : val xs < val ys := by omega
        exact h9
      have HQ : Hid (an ≠ bn) := hs
      clear hs hle
      refine (rsub_no _ _ _ _ _ _ xs ys _ HI.out.1 HI.out.2.1 (Nat.le_trans HI.out.2.2.2.2.2.2.1 (by decide)) (Nat.le_trans HI.out.2.2.2.2.2.2.2 (by decide)) HL.out).mono ?_
      rintro e w1 ⟨rfl, q3⟩
      have xa := HI.out.2.2.1.below q3
      have xb := HI.out.2.2.2.1.below q3
      have xc := HI.out.2.2.2.2.1.below q3
      have HE : Hid (RowAt w1 ao na ca xs ∧ RowAt w1 bo nb cb ys ∧ SBox w1 (w.heap.size + 1) bn bo nb cb ∧ SBox w1 (w.heap.size + 2) false none 0 0 ∧ Below w.heap.size w w1) := ⟨HI.out.1.below q3, HI.out.2.1.below q3, xb, xc, chain HI.out.2.2.2.2.2.1 q3⟩
      have x0 := xa.c0
      have x1 := xa.c1
      have z0 := xb.c0
      have z1 := xb.c1
      clear xa xb xc q3 a0 a1 b0 b1 e0 e1 f0 f1
      go_wp2_with fail
      refine (rsub_ok _ _ _ _ _ _ ys xs _ HE.out.2.1 HE.out.1 (Nat.le_trans HI.out.2.2.2.2.2.2.2 (by decide)) (Nat.le_trans HI.out.2.2.2.2.2.2.1 (by decide)) (Int.le_of_lt HL.out)).mono ?_
      rintro e w2 ⟨ro, m, cap, r, rfl, q1, q2, q3⟩
      have xb := (HE.out.2.2.1.below q3).c0
      have xc := HE.out.2.2.2.1.below q3
      have u0 := xc.c0
      have u1 := xc.c1
      have v0 := xc.f 0
      have v1 := xc.f 1
      have HF : Hid (SBox w2 (w.heap.size + 2) false none 0 0 ∧ RowAt w2 ro m cap r ∧ Num r (val ys - val xs) ∧ Below w.heap.size w w2) := ⟨xc, q1, q2, chain HE.out.2.2.2.2 q3⟩
      clear xc q1 q2 q3 x0 x1 z0 z1
      go_wp2_with fail
      refine bodyPost_ret (results_s1 rfl _ (HF.out.1.set bn ro m cap) rfl) rfl ⟨bn, ro, m, cap, r, rfl, HF.out.2.1.setS HF.out.1 _ _, ?_, ?_, below_set2 HF.out.2.2.2 (by omega) _ _⟩
      · rw [HF.out.2.2.1.val]; exact HF.out.2.2.1
      · rw [HF.out.2.2.1.val]
        have := HQ.out
        unfold sg
        cases an <;> cases bn <;> simp_all <;> omega
end Go.Proofs.YtnedghhcidohnaaGreat

/-! The reference's Add of layer 5. -/
namespace Go.Proofs.YtnedghhcidohnaaGreat
open Go.RowKit

theorem yes_iff2 {p : Prop} (h : p) : true = true ↔ p := ⟨fun _ => h, fun _ => rfl⟩
theorem no_iff2 {p : Prop} (h : ¬ p) : false = true ↔ p := ⟨(fun e => by cases e), fun e => absurd e h⟩

set_option maxRecDepth 100000 in
set_option maxHeartbeats 8000000 in
theorem radd_na (an : Bool) (ao : Option Addr) (al ac : Nat) (aeo : Option Addr) (ael aec : Nat) (bn : Bool) (bo : Option Addr) (bl bc : Nat) (beo : Option Addr) (bel bec : Nat) (a b : RatL) (w : World)
    (ha : RatAt w ao al ac aeo ael aec a) (hb : RatAt w bo bl bc beo bel bec b) (hga : a.neg = an) (hgb : b.neg = bn) (hma : ¬ MayR a) :
    Calls Tryz.prog 94 #[.agg #[.bool an, .slice ao al ac, .slice aeo ael aec], .agg #[.bool bn, .slice bo bl bc, .slice beo bel bec]] w fun e w' => ∃ rneg no nn nc eo en ec r k, e = .returned (.tuple #[.agg #[.bool rneg, .slice no nn nc, .slice eo en ec], .int .i64 k]) ∧ r.neg = rneg ∧ RatAt w' no nn nc eo en ec r ∧ AddOut a b r k ∧ Below w.heap.size w w' := by
  have hbx := Boxes.new w an ao al ac aeo ael aec bn bo bl bc beo bel bec
  have HB : Hid (Boxes w (((w.alloc (.cells #[.bool an, .slice ao al ac, .slice aeo ael aec] 45)).alloc (.cells #[.bool bn, .slice bo bl bc, .slice beo bel bec] 45)).alloc (.cells #[.bool false, .slice none 0 0, .slice none 0 0] 45)) an ao al ac aeo ael aec bn bo bl bc beo bel bec) := hbx
  have HA : Hid (RatAt w ao al ac aeo ael aec a ∧ RatAt w bo bl bc beo bel bec b ∧ a.neg = an ∧ b.neg = bn) := ⟨ha, hb, hga, hgb⟩
  have c0 := hbx.a.c0
  have c1 := hbx.a.c1
  have c2 := hbx.a.c2
  have HM : Hid (¬ MayR a) := hma
  clear hbx ha hb hga hgb hma
  go_enter Tryz.func94, Tryz.ntmps94
  go_wp2_with fail
  refine (rrmay_r _ _ _ _ _ _ _ a _ (HA.out.1.below HB.out.bel) HA.out.2.2.1 false (no_iff2 HM.out)).mono ?_
  rintro e w1 ⟨rfl, q1⟩
  have B1 : Hid (Boxes w w1 an ao al ac aeo ael aec bn bo bl bc beo bel bec) := HB.out.below q1
  clear q1 c0 c1 c2
  have r0 := B1.out.r.c0
  have r1 := B1.out.r.c1
  have r2 := B1.out.r.c2
  have f0 := B1.out.r.f 0
  have f1 := B1.out.r.f 1
  have f2 := B1.out.r.f 2
  go_wp2_with fail
  refine bodyPost_ret (results_r2 rfl _ (B1.out.r.set false none 0 0 none 0 0) rfl _ rfl) rfl ⟨false, none, 0, 0, none, 0, 0, rat0, 1, rfl, rfl, RatAt.zero _, ⟨fun _ => ⟨rfl, rfl⟩, fun h => absurd h.1 HM.out, fun h => absurd h.1 HM.out⟩, below_set B1.out.bel (by omega) _ _ _⟩

set_option maxRecDepth 100000 in
set_option maxHeartbeats 8000000 in
theorem radd_nb (an : Bool) (ao : Option Addr) (al ac : Nat) (aeo : Option Addr) (ael aec : Nat) (bn : Bool) (bo : Option Addr) (bl bc : Nat) (beo : Option Addr) (bel bec : Nat) (a b : RatL) (w : World)
    (ha : RatAt w ao al ac aeo ael aec a) (hb : RatAt w bo bl bc beo bel bec b) (hga : a.neg = an) (hgb : b.neg = bn) (hma : MayR a) (hmb : ¬ MayR b) :
    Calls Tryz.prog 94 #[.agg #[.bool an, .slice ao al ac, .slice aeo ael aec], .agg #[.bool bn, .slice bo bl bc, .slice beo bel bec]] w fun e w' => ∃ rneg no nn nc eo en ec r k, e = .returned (.tuple #[.agg #[.bool rneg, .slice no nn nc, .slice eo en ec], .int .i64 k]) ∧ r.neg = rneg ∧ RatAt w' no nn nc eo en ec r ∧ AddOut a b r k ∧ Below w.heap.size w w' := by
  have hbx := Boxes.new w an ao al ac aeo ael aec bn bo bl bc beo bel bec
  have HB : Hid (Boxes w (((w.alloc (.cells #[.bool an, .slice ao al ac, .slice aeo ael aec] 45)).alloc (.cells #[.bool bn, .slice bo bl bc, .slice beo bel bec] 45)).alloc (.cells #[.bool false, .slice none 0 0, .slice none 0 0] 45)) an ao al ac aeo ael aec bn bo bl bc beo bel bec) := hbx
  have HA : Hid (RatAt w ao al ac aeo ael aec a ∧ RatAt w bo bl bc beo bel bec b ∧ a.neg = an ∧ b.neg = bn) := ⟨ha, hb, hga, hgb⟩
  have c0 := hbx.a.c0
  have c1 := hbx.a.c1
  have c2 := hbx.a.c2
  have HM : Hid (MayR a ∧ ¬ MayR b) := ⟨hma, hmb⟩
  clear hbx ha hb hga hgb hma hmb
  go_enter Tryz.func94, Tryz.ntmps94
  go_wp2_with fail
  refine (rrmay_r _ _ _ _ _ _ _ a _ (HA.out.1.below HB.out.bel) HA.out.2.2.1 true (yes_iff2 HM.out.1)).mono ?_
  rintro e w1 ⟨rfl, q1⟩
  have B1 : Hid (Boxes w w1 an ao al ac aeo ael aec bn bo bl bc beo bel bec) := HB.out.below q1
  clear q1 c0 c1 c2
  have d0 := B1.out.b.c0
  have d1 := B1.out.b.c1
  have d2 := B1.out.b.c2
  go_wp2_with fail
  refine (rrmay_r _ _ _ _ _ _ _ b _ (HA.out.2.1.below B1.out.bel) HA.out.2.2.2 false (no_iff2 HM.out.2)).mono ?_
  rintro e w2 ⟨rfl, q2⟩
  have B2 : Hid (Boxes w w2 an ao al ac aeo ael aec bn bo bl bc beo bel bec) := B1.out.below q2
  clear q2 d0 d1 d2
  have r0 := B2.out.r.c0
  have r1 := B2.out.r.c1
  have r2 := B2.out.r.c2
  have f0 := B2.out.r.f 0
  have f1 := B2.out.r.f 1
  have f2 := B2.out.r.f 2
  go_wp2_with fail
  refine bodyPost_ret (results_r2 rfl _ (B2.out.r.set false none 0 0 none 0 0) rfl _ rfl) rfl ⟨false, none, 0, 0, none, 0, 0, rat0, 1, rfl, rfl, RatAt.zero _, ⟨fun _ => ⟨rfl, rfl⟩, fun h => absurd h.2 HM.out.2, fun h => absurd h.2 HM.out.2⟩, below_set B2.out.bel (by omega) _ _ _⟩

set_option maxRecDepth 100000 in
set_option maxHeartbeats 8000000 in
theorem radd_ok (an : Bool) (ao : Option Addr) (al ac : Nat) (aeo : Option Addr) (ael aec : Nat) (bn : Bool) (bo : Option Addr) (bl bc : Nat) (beo : Option Addr) (bel bec : Nat) (a b : RatL) (w : World)
    (ha : RatAt w ao al ac aeo ael aec a) (hb : RatAt w bo bl bc beo bel bec b) (hga : a.neg = an) (hgb : b.neg = bn) (hma : MayR a) (hmb : MayR b) :
    Calls Tryz.prog 94 #[.agg #[.bool an, .slice ao al ac, .slice aeo ael aec], .agg #[.bool bn, .slice bo bl bc, .slice beo bel bec]] w fun e w' => ∃ rneg no nn nc eo en ec r k, e = .returned (.tuple #[.agg #[.bool rneg, .slice no nn nc, .slice eo en ec], .int .i64 k]) ∧ r.neg = rneg ∧ RatAt w' no nn nc eo en ec r ∧ AddOut a b r k ∧ Below w.heap.size w w' := by
  have hbx := Boxes.new w an ao al ac aeo ael aec bn bo bl bc beo bel bec
  have HB : Hid (Boxes w (((w.alloc (.cells #[.bool an, .slice ao al ac, .slice aeo ael aec] 45)).alloc (.cells #[.bool bn, .slice bo bl bc, .slice beo bel bec] 45)).alloc (.cells #[.bool false, .slice none 0 0, .slice none 0 0] 45)) an ao al ac aeo ael aec bn bo bl bc beo bel bec) := hbx
  have HA : Hid (RatAt w ao al ac aeo ael aec a ∧ RatAt w bo bl bc beo bel bec b ∧ a.neg = an ∧ b.neg = bn) := ⟨ha, hb, hga, hgb⟩
  have c0 := hbx.a.c0
  have c1 := hbx.a.c1
  have c2 := hbx.a.c2
  have HM : Hid (MayR a ∧ MayR b) := ⟨hma, hmb⟩
  clear hbx ha hb hga hgb hma hmb
  go_enter Tryz.func94, Tryz.ntmps94
  go_wp2_with fail
  refine (rrmay_r _ _ _ _ _ _ _ a _ (HA.out.1.below HB.out.bel) HA.out.2.2.1 true (yes_iff2 HM.out.1)).mono ?_
  rintro e w1 ⟨rfl, q1⟩
  have B1 : Hid (Boxes w w1 an ao al ac aeo ael aec bn bo bl bc beo bel bec) := HB.out.below q1
  clear q1 c0 c1 c2
  have d0 := B1.out.b.c0
  have d1 := B1.out.b.c1
  have d2 := B1.out.b.c2
  go_wp2_with fail
  refine (rrmay_r _ _ _ _ _ _ _ b _ (HA.out.2.1.below B1.out.bel) HA.out.2.2.2 true (yes_iff2 HM.out.2)).mono ?_
  rintro e w2 ⟨rfl, q2⟩
  have B2 : Hid (Boxes w w2 an ao al ac aeo ael aec bn bo bl bc beo bel bec) := B1.out.below q2
  clear q2 d0 d1 d2
  have c0 := B2.out.a.c0
  have c1 := B2.out.a.c1
  have c2 := B2.out.a.c2
  have d0 := B2.out.b.c0
  have d1 := B2.out.b.c1
  have d2 := B2.out.b.c2
  go_wp2_with fail
  refine (rnmul_any _ _ _ _ _ _ a.num b.den _ (HA.out.1.below B2.out.bel).num (HA.out.2.1.below B2.out.bel).den).mono ?_
  rintro e w3 ⟨xo, xn, xc, xs, k1, rfl, x1, x2, q3⟩
  have B3 : Hid (Boxes w w3 an ao al ac aeo ael aec bn bo bl bc beo bel bec) := B2.out.below q3
  have H3 : Hid (RowAt w3 xo xn xc xs ∧ Out (May a.num ∧ May b.den) False (val a.num * val b.den) xs k1 ∧ xn ≤ 8) := ⟨x1, x2, by rw [← x1.len]; exact x2.may.1⟩
  clear q3 x1 x2 c0 c1 c2 d0 d1 d2
  have c0 := B3.out.a.c0
  have c1 := B3.out.a.c1
  have c2 := B3.out.a.c2
  have d0 := B3.out.b.c0
  have d1 := B3.out.b.c1
  have d2 := B3.out.b.c2
  go_wp2_with fail
  refine (rnmul_any _ _ _ _ _ _ b.num a.den _ (HA.out.2.1.below B3.out.bel).num (HA.out.1.below B3.out.bel).den).mono ?_
  rintro e w4 ⟨yo, yn, yc, ys, k2, rfl, x1, x2, q4⟩
  have B4 : Hid (Boxes w w4 an ao al ac aeo ael aec bn bo bl bc beo bel bec) := B3.out.below q4
  have H4 : Hid (RowAt w4 xo xn xc xs ∧ RowAt w4 yo yn yc ys ∧ Out (May b.num ∧ May a.den) False (val b.num * val a.den) ys k2 ∧ yn ≤ 8) := ⟨H3.out.1.below q4, x1, x2, by rw [← x1.len]; exact x2.may.1⟩
  clear q4 x1 x2 c0 c1 c2 d0 d1 d2
  have c0 := B4.out.a.c0
  have c1 := B4.out.a.c1
  have c2 := B4.out.a.c2
  have d0 := B4.out.b.c0
  have d1 := B4.out.b.c1
  have d2 := B4.out.b.c2
  go_wp2_with fail
  refine (rnmul_any _ _ _ _ _ _ a.den b.den _ (HA.out.1.below B4.out.bel).den (HA.out.2.1.below B4.out.bel).den).mono ?_
  rintro e w5 ⟨zo, zn, zc, zs, k3, rfl, x1, x2, q5⟩
  have B5 : Hid (Boxes w w5 an ao al ac aeo ael aec bn bo bl bc beo bel bec) := B4.out.below q5
  have H5 : Hid (RowAt w5 xo xn xc xs ∧ RowAt w5 yo yn yc ys ∧ RowAt w5 zo zn zc zs ∧ Out (May a.den ∧ May b.den) False (val a.den * val b.den) zs k3) := ⟨H4.out.1.below q5, H4.out.2.1.below q5, x1, x2⟩
  clear q5 x1 x2 c0 c1 c2 d0 d1 d2
  have c0 := B5.out.a.c0
  have c1 := B5.out.a.c1
  have c2 := B5.out.a.c2
  have d0 := B5.out.b.c0
  have d1 := B5.out.b.c1
  have d2 := B5.out.b.c2
  go_wp2_with fail
  refine (plus_r an _ _ _ bn _ _ _ xs ys _ H5.out.1 H5.out.2.1 (Nat.le_trans H3.out.2.2 (by decide)) (Nat.le_trans H4.out.2.2.2 (by decide))).mono ?_
  rintro e w6 ⟨rn, ro, m, cap, r, rfl, x1, x2, x3, q6⟩
  have sb := SBox.new w6 rn ro m cap
  have hb7 : Below w6.heap.size w6 (w6.alloc (.cells #[.bool rn, .slice ro m cap] 162)) := (Below.refl _ _).alloc (Nat.le_refl _) _
  have B7 : Hid (Boxes w (w6.alloc (.cells #[.bool rn, .slice ro m cap] 162)) an ao al ac aeo ael aec bn bo bl bc beo bel bec) := (B5.out.below q6).below hb7
  have H7 : Hid (RowAt (w6.alloc (.cells #[.bool rn, .slice ro m cap] 162)) ro m cap r ∧ RowAt (w6.alloc (.cells #[.bool rn, .slice ro m cap] 162)) zo zn zc zs ∧ Num r (val r) ∧ sg rn (val r) = sg an (val xs) + sg bn (val ys) ∧ r.length = m ∧ 0 ≤ val r) := ⟨x1.below hb7, (H5.out.2.2.1.below q6).below hb7, x2, x3, x1.len, (val_bd x1.limbs).1⟩
  have s0 := sb.c0
  have s1 := sb.c1
  have hmm := nn_most x1
  clear q6 hb7 x1 x2 x3 c0 c1 c2 d0 d1 d2 sb
  have r0 := B7.out.r.c0
  have r1 := B7.out.r.c1
  have r2 := B7.out.r.c2
  have f0 := B7.out.r.f 0
  have f1 := B7.out.r.f 1
  have f2 := B7.out.r.f 2
  have HOK : Hid ((May a.num ∧ May b.den) ∧ (May b.num ∧ May a.den) ∧ (May a.den ∧ May b.den)) := ⟨⟨HM.out.1.num, HM.out.2.den⟩, ⟨HM.out.2.num, HM.out.1.den⟩, ⟨HM.out.1.den, HM.out.2.den⟩⟩
  rcases Int.lt_or_le (val a.num * val b.den) Big with g1 | g1
  · rcases Int.lt_or_le (val b.num * val a.den) Big with g2 | g2
    · rcases Int.lt_or_le (val a.den * val b.den) Big with g3 | g3
      · obtain ⟨rfl, n1⟩ := H3.out.2.1.ok_num HOK.out.1 (fun f => f) g1
        obtain ⟨rfl, n2⟩ := H4.out.2.2.1.ok_num HOK.out.2.1 (fun f => f) g2
        obtain ⟨rfl, n3⟩ := H5.out.2.2.2.ok_num HOK.out.2.2 (fun f => f) g3
        have HN : Hid (addTop a b = sg rn (val r) ∧ Num zs (val a.den * val b.den) ∧ val a.den * val b.den < Big ∧ val zs = val a.den * val b.den ∧ val a.num * val b.den < Big ∧ val b.num * val a.den < Big) := by
          refine ⟨?_, n3, g3, n3.val, g1, g2⟩
          rw [addTop_eq, H7.out.2.2.2.1, n1.val, n2.val, HA.out.2.2.1, HA.out.2.2.2]
          rfl
        clear g1 g2 g3 n1 n2 n3
        by_cases hm : 8 < m
        · have hm2 : (8 : Int) < (m : Int) := by omega
          have HT : Hid (AddBig a b ∨ Big ≤ a.bot * b.bot) := by
            refine .inl (.inr (.inr ?_))
            rw [HN.out.1, sg_abs rn H7.out.2.2.2.2.2]
            rcases Int.lt_or_le (val r) Big with g | g
            · have := H7.out.2.2.1.le8.2 g
              have := H7.out.2.2.2.2.1
              omega
            · exact g
          clear hm
          go_wp2_with fail
          refine bodyPost_ret (results_r2 rfl _ (B7.out.r.set false none 0 0 none 0 0) rfl _ rfl) rfl ⟨false, none, 0, 0, none, 0, 0, rat0, 21, rfl, rfl, RatAt.zero _, ⟨fun h => absurd HM.out h, fun _ _ => ⟨rfl, rfl⟩, fun _ h => absurd (HT.out) h⟩, below_set B7.out.bel (by omega) _ _ _⟩
        · have hm2 : ¬ (8 : Int) < (m : Int) := by omega
          have HS : Hid (val r < Big ∧ May r ∧ May zs) := ⟨H7.out.2.2.1.le8.1 (by have := H7.out.2.2.2.2.1; omega), H7.out.2.2.1.may.2 (H7.out.2.2.1.le8.1 (by have := H7.out.2.2.2.2.1; omega)), HN.out.2.1.may.2 HN.out.2.2.1⟩
          clear hm
          go_wp2_with fail
          refine (rmake_any rn _ _ _ _ _ _ r zs _ H7.out.1 H7.out.2.1).mono ?_
          rintro e w8 ⟨vg, vo, vn, vc, veo, ven, vec, v, k, rfl, y1, y2, y3, q8⟩
          have B8 : Hid (Boxes w w8 an ao al ac aeo ael aec bn bo bl bc beo bel bec) := B7.out.below q8
          have hbp := Int.mul_pos (HM.out.1.bot_pos HA.out.1.lim) (HM.out.2.bot_pos HA.out.2.1.lim)
          have hfine := y3.fine ⟨HS.out.2.1, HS.out.2.2⟩ (by
            rw [HN.out.2.2.2.1]
            have h9 : 0 < val a.den * val b.den := hbp
            omega)
          have HV : Hid (v.neg = vg ∧ RatAt w8 vo vn vc veo ven vec v ∧ k = 0 ∧ Is v (addTop a b) (a.bot * b.bot)) := by
            refine ⟨y1, y2, hfine.1, ?_⟩
            have h9 := hfine.2
            rw [HN.out.2.2.2.1, ← HN.out.1] at h9
            exact h9
          have HNB : Hid (¬ (AddBig a b ∨ Big ≤ a.bot * b.bot)) := by
            rintro ((h | h | h) | h)
            · exact absurd HN.out.2.2.2.2.1 (Int.not_lt.2 h)
            · exact absurd HN.out.2.2.2.2.2 (Int.not_lt.2 h)
            · rw [HN.out.1, sg_abs rn H7.out.2.2.2.2.2] at h
              exact absurd HS.out.1 (Int.not_lt.2 h)
            · exact absurd HN.out.2.2.1 (Int.not_lt.2 h)
          clear y1 y2 y3 q8 hbp hfine s0 s1 r0 r1 r2 f0 f1 f2
          have r0 := B8.out.r.c0
          have r1 := B8.out.r.c1
          have r2 := B8.out.r.c2
          have f0 := B8.out.r.f 0
          have f1 := B8.out.r.f 1
          have f2 := B8.out.r.f 2
          go_wp2_with fail
          refine bodyPost_ret (results_r2 rfl _ (B8.out.r.set vg vo vn vc veo ven vec) rfl _ rfl) rfl ⟨vg, vo, vn, vc, veo, ven, vec, v, k, rfl, HV.out.1, HV.out.2.1.setR B8.out.r _ _ _, ⟨fun h => absurd HM.out h, fun _ h => absurd h HNB.out, fun _ _ => HV.out.2.2⟩, below_set B8.out.bel (by omega) _ _ _⟩
      · obtain ⟨rfl, _⟩ := H3.out.2.1.ok_num HOK.out.1 (fun f => f) g1
        obtain ⟨rfl, _⟩ := H4.out.2.2.1.ok_num HOK.out.2.1 (fun f => f) g2
        obtain ⟨rfl, _⟩ := H5.out.2.2.2.is_big HOK.out.2.2 (fun f => f) g3
        have HT : Hid (AddBig a b ∨ Big ≤ a.bot * b.bot) := .inr g3
        clear g1 g2 g3
        go_wp2_with fail
        refine bodyPost_ret (results_r2 rfl _ (B7.out.r.set false none 0 0 none 0 0) rfl _ rfl) rfl ⟨false, none, 0, 0, none, 0, 0, rat0, 21, rfl, rfl, RatAt.zero _, ⟨fun h => absurd HM.out h, fun _ _ => ⟨rfl, rfl⟩, fun _ h => absurd (HT.out) h⟩, below_set B7.out.bel (by omega) _ _ _⟩
    · obtain ⟨rfl, _⟩ := H3.out.2.1.ok_num HOK.out.1 (fun f => f) g1
      obtain ⟨rfl, _⟩ := H4.out.2.2.1.is_big HOK.out.2.1 (fun f => f) g2
      have HT : Hid (AddBig a b ∨ Big ≤ a.bot * b.bot) := .inl (.inr (.inl g2))
      clear g1 g2
      go_wp2_with fail
      refine bodyPost_ret (results_r2 rfl _ (B7.out.r.set false none 0 0 none 0 0) rfl _ rfl) rfl ⟨false, none, 0, 0, none, 0, 0, rat0, 21, rfl, rfl, RatAt.zero _, ⟨fun h => absurd HM.out h, fun _ _ => ⟨rfl, rfl⟩, fun _ h => absurd (HT.out) h⟩, below_set B7.out.bel (by omega) _ _ _⟩
  · obtain ⟨rfl, _⟩ := H3.out.2.1.is_big HOK.out.1 (fun f => f) g1
    have HT : Hid (AddBig a b ∨ Big ≤ a.bot * b.bot) := .inl (.inl g1)
    clear g1
    go_wp2_with fail
    refine bodyPost_ret (results_r2 rfl _ (B7.out.r.set false none 0 0 none 0 0) rfl _ rfl) rfl ⟨false, none, 0, 0, none, 0, 0, rat0, 21, rfl, rfl, RatAt.zero _, ⟨fun h => absurd HM.out h, fun _ _ => ⟨rfl, rfl⟩, fun _ h => absurd (HT.out) h⟩, below_set B7.out.bel (by omega) _ _ _⟩

theorem rradd_r (an : Bool) (ao : Option Addr) (al ac : Nat) (aeo : Option Addr) (ael aec : Nat) (bn : Bool) (bo : Option Addr) (bl bc : Nat) (beo : Option Addr) (bel bec : Nat) (a b : RatL) (w : World)
    (ha : RatAt w ao al ac aeo ael aec a) (hb : RatAt w bo bl bc beo bel bec b) (hga : a.neg = an) (hgb : b.neg = bn) :
    Calls Tryz.prog 94 #[.agg #[.bool an, .slice ao al ac, .slice aeo ael aec], .agg #[.bool bn, .slice bo bl bc, .slice beo bel bec]] w fun e w' => ∃ rneg no nn nc eo en ec r k, e = .returned (.tuple #[.agg #[.bool rneg, .slice no nn nc, .slice eo en ec], .int .i64 k]) ∧ r.neg = rneg ∧ RatAt w' no nn nc eo en ec r ∧ AddOut a b r k ∧ Below w.heap.size w w' := by
  by_cases hma : MayR a
  · by_cases hmb : MayR b
    · exact radd_ok an ao al ac aeo ael aec bn bo bl bc beo bel bec a b w ha hb hga hgb hma hmb
    · exact radd_nb an ao al ac aeo ael aec bn bo bl bc beo bel bec a b w ha hb hga hgb hma hmb
  · exact radd_na an ao al ac aeo ael aec bn bo bl bc beo bel bec a b w ha hb hga hgb hma
end Go.Proofs.YtnedghhcidohnaaGreat

/-! The reference's Mul of layer 5. -/
namespace Go.Proofs.YtnedghhcidohnaaGreat
open Go.RowKit

set_option maxRecDepth 100000 in
set_option maxHeartbeats 8000000 in
theorem rmu_na (an : Bool) (ao : Option Addr) (al ac : Nat) (aeo : Option Addr) (ael aec : Nat) (bn : Bool) (bo : Option Addr) (bl bc : Nat) (beo : Option Addr) (bel bec : Nat) (a b : RatL) (w : World)
    (ha : RatAt w ao al ac aeo ael aec a) (hb : RatAt w bo bl bc beo bel bec b) (hga : a.neg = an) (hgb : b.neg = bn) (hma : ¬ MayR a) :
    Calls Tryz.prog 69 #[.agg #[.bool an, .slice ao al ac, .slice aeo ael aec], .agg #[.bool bn, .slice bo bl bc, .slice beo bel bec]] w fun e w' => ∃ rneg no nn nc eo en ec r k, e = .returned (.tuple #[.agg #[.bool rneg, .slice no nn nc, .slice eo en ec], .int .i64 k]) ∧ r.neg = rneg ∧ RatAt w' no nn nc eo en ec r ∧ MulOut a b r k ∧ Below w.heap.size w w' := by
  have hbx := Boxes.new w an ao al ac aeo ael aec bn bo bl bc beo bel bec
  have HB : Hid (Boxes w (((w.alloc (.cells #[.bool an, .slice ao al ac, .slice aeo ael aec] 45)).alloc (.cells #[.bool bn, .slice bo bl bc, .slice beo bel bec] 45)).alloc (.cells #[.bool false, .slice none 0 0, .slice none 0 0] 45)) an ao al ac aeo ael aec bn bo bl bc beo bel bec) := hbx
  have HA : Hid (RatAt w ao al ac aeo ael aec a ∧ RatAt w bo bl bc beo bel bec b ∧ a.neg = an ∧ b.neg = bn) := ⟨ha, hb, hga, hgb⟩
  have c0 := hbx.a.c0
  have c1 := hbx.a.c1
  have c2 := hbx.a.c2
  have HM : Hid (¬ MayR a) := hma
  clear hbx ha hb hga hgb hma
  go_enter Tryz.func69, Tryz.ntmps69
  go_wp2_with fail
  refine (rrmay_r _ _ _ _ _ _ _ a _ (HA.out.1.below HB.out.bel) HA.out.2.2.1 false (no_iff2 HM.out)).mono ?_
  rintro e w1 ⟨rfl, q1⟩
  have B1 : Hid (Boxes w w1 an ao al ac aeo ael aec bn bo bl bc beo bel bec) := HB.out.below q1
  clear q1 c0 c1 c2
  have r0 := B1.out.r.c0
  have r1 := B1.out.r.c1
  have r2 := B1.out.r.c2
  have f0 := B1.out.r.f 0
  have f1 := B1.out.r.f 1
  have f2 := B1.out.r.f 2
  go_wp2_with fail
  refine bodyPost_ret (results_r2 rfl _ (B1.out.r.set false none 0 0 none 0 0) rfl _ rfl) rfl ⟨false, none, 0, 0, none, 0, 0, rat0, 1, rfl, rfl, RatAt.zero _, ⟨fun _ => ⟨rfl, rfl⟩, fun h => absurd h.1 HM.out, fun h => absurd h.1 HM.out⟩, below_set B1.out.bel (by omega) _ _ _⟩

set_option maxRecDepth 100000 in
set_option maxHeartbeats 8000000 in
theorem rmu_nb (an : Bool) (ao : Option Addr) (al ac : Nat) (aeo : Option Addr) (ael aec : Nat) (bn : Bool) (bo : Option Addr) (bl bc : Nat) (beo : Option Addr) (bel bec : Nat) (a b : RatL) (w : World)
    (ha : RatAt w ao al ac aeo ael aec a) (hb : RatAt w bo bl bc beo bel bec b) (hga : a.neg = an) (hgb : b.neg = bn) (hma : MayR a) (hmb : ¬ MayR b) :
    Calls Tryz.prog 69 #[.agg #[.bool an, .slice ao al ac, .slice aeo ael aec], .agg #[.bool bn, .slice bo bl bc, .slice beo bel bec]] w fun e w' => ∃ rneg no nn nc eo en ec r k, e = .returned (.tuple #[.agg #[.bool rneg, .slice no nn nc, .slice eo en ec], .int .i64 k]) ∧ r.neg = rneg ∧ RatAt w' no nn nc eo en ec r ∧ MulOut a b r k ∧ Below w.heap.size w w' := by
  have hbx := Boxes.new w an ao al ac aeo ael aec bn bo bl bc beo bel bec
  have HB : Hid (Boxes w (((w.alloc (.cells #[.bool an, .slice ao al ac, .slice aeo ael aec] 45)).alloc (.cells #[.bool bn, .slice bo bl bc, .slice beo bel bec] 45)).alloc (.cells #[.bool false, .slice none 0 0, .slice none 0 0] 45)) an ao al ac aeo ael aec bn bo bl bc beo bel bec) := hbx
  have HA : Hid (RatAt w ao al ac aeo ael aec a ∧ RatAt w bo bl bc beo bel bec b ∧ a.neg = an ∧ b.neg = bn) := ⟨ha, hb, hga, hgb⟩
  have c0 := hbx.a.c0
  have c1 := hbx.a.c1
  have c2 := hbx.a.c2
  have HM : Hid (MayR a ∧ ¬ MayR b) := ⟨hma, hmb⟩
  clear hbx ha hb hga hgb hma hmb
  go_enter Tryz.func69, Tryz.ntmps69
  go_wp2_with fail
  refine (rrmay_r _ _ _ _ _ _ _ a _ (HA.out.1.below HB.out.bel) HA.out.2.2.1 true (yes_iff2 HM.out.1)).mono ?_
  rintro e w1 ⟨rfl, q1⟩
  have B1 : Hid (Boxes w w1 an ao al ac aeo ael aec bn bo bl bc beo bel bec) := HB.out.below q1
  clear q1 c0 c1 c2
  have d0 := B1.out.b.c0
  have d1 := B1.out.b.c1
  have d2 := B1.out.b.c2
  go_wp2_with fail
  refine (rrmay_r _ _ _ _ _ _ _ b _ (HA.out.2.1.below B1.out.bel) HA.out.2.2.2 false (no_iff2 HM.out.2)).mono ?_
  rintro e w2 ⟨rfl, q2⟩
  have B2 : Hid (Boxes w w2 an ao al ac aeo ael aec bn bo bl bc beo bel bec) := B1.out.below q2
  clear q2 d0 d1 d2
  have r0 := B2.out.r.c0
  have r1 := B2.out.r.c1
  have r2 := B2.out.r.c2
  have f0 := B2.out.r.f 0
  have f1 := B2.out.r.f 1
  have f2 := B2.out.r.f 2
  go_wp2_with fail
  refine bodyPost_ret (results_r2 rfl _ (B2.out.r.set false none 0 0 none 0 0) rfl _ rfl) rfl ⟨false, none, 0, 0, none, 0, 0, rat0, 1, rfl, rfl, RatAt.zero _, ⟨fun _ => ⟨rfl, rfl⟩, fun h => absurd h.2 HM.out.2, fun h => absurd h.2 HM.out.2⟩, below_set B2.out.bel (by omega) _ _ _⟩

set_option maxRecDepth 100000 in
set_option maxHeartbeats 8000000 in
theorem rmu_ok (an : Bool) (ao : Option Addr) (al ac : Nat) (aeo : Option Addr) (ael aec : Nat) (bn : Bool) (bo : Option Addr) (bl bc : Nat) (beo : Option Addr) (bel bec : Nat) (a b : RatL) (w : World)
    (ha : RatAt w ao al ac aeo ael aec a) (hb : RatAt w bo bl bc beo bel bec b) (hga : a.neg = an) (hgb : b.neg = bn) (hma : MayR a) (hmb : MayR b) :
    Calls Tryz.prog 69 #[.agg #[.bool an, .slice ao al ac, .slice aeo ael aec], .agg #[.bool bn, .slice bo bl bc, .slice beo bel bec]] w fun e w' => ∃ rneg no nn nc eo en ec r k, e = .returned (.tuple #[.agg #[.bool rneg, .slice no nn nc, .slice eo en ec], .int .i64 k]) ∧ r.neg = rneg ∧ RatAt w' no nn nc eo en ec r ∧ MulOut a b r k ∧ Below w.heap.size w w' := by
  have hbx := Boxes.new w an ao al ac aeo ael aec bn bo bl bc beo bel bec
  have HB : Hid (Boxes w (((w.alloc (.cells #[.bool an, .slice ao al ac, .slice aeo ael aec] 45)).alloc (.cells #[.bool bn, .slice bo bl bc, .slice beo bel bec] 45)).alloc (.cells #[.bool false, .slice none 0 0, .slice none 0 0] 45)) an ao al ac aeo ael aec bn bo bl bc beo bel bec) := hbx
  have HA : Hid (RatAt w ao al ac aeo ael aec a ∧ RatAt w bo bl bc beo bel bec b ∧ a.neg = an ∧ b.neg = bn) := ⟨ha, hb, hga, hgb⟩
  have c0 := hbx.a.c0
  have c1 := hbx.a.c1
  have c2 := hbx.a.c2
  have HM : Hid (MayR a ∧ MayR b) := ⟨hma, hmb⟩
  clear hbx ha hb hga hgb hma hmb
  go_enter Tryz.func69, Tryz.ntmps69
  go_wp2_with fail
  refine (rrmay_r _ _ _ _ _ _ _ a _ (HA.out.1.below HB.out.bel) HA.out.2.2.1 true (yes_iff2 HM.out.1)).mono ?_
  rintro e w1 ⟨rfl, q1⟩
  have B1 : Hid (Boxes w w1 an ao al ac aeo ael aec bn bo bl bc beo bel bec) := HB.out.below q1
  clear q1 c0 c1 c2
  have d0 := B1.out.b.c0
  have d1 := B1.out.b.c1
  have d2 := B1.out.b.c2
  go_wp2_with fail
  refine (rrmay_r _ _ _ _ _ _ _ b _ (HA.out.2.1.below B1.out.bel) HA.out.2.2.2 true (yes_iff2 HM.out.2)).mono ?_
  rintro e w2 ⟨rfl, q2⟩
  have B2 : Hid (Boxes w w2 an ao al ac aeo ael aec bn bo bl bc beo bel bec) := B1.out.below q2
  clear q2 d0 d1 d2
  have c0 := B2.out.a.c0
  have c1 := B2.out.a.c1
  have c2 := B2.out.a.c2
  have d0 := B2.out.b.c0
  have d1 := B2.out.b.c1
  have d2 := B2.out.b.c2
  go_wp2_with fail
  refine (rnmul_any _ _ _ _ _ _ a.num b.num _ (HA.out.1.below B2.out.bel).num (HA.out.2.1.below B2.out.bel).num).mono ?_
  rintro e w3 ⟨xo, xn, xc, xs, k1, rfl, x1, x2, q3⟩
  have B3 : Hid (Boxes w w3 an ao al ac aeo ael aec bn bo bl bc beo bel bec) := B2.out.below q3
  have H3 : Hid (RowAt w3 xo xn xc xs ∧ Out (May a.num ∧ May b.num) False (val a.num * val b.num) xs k1) := ⟨x1, x2⟩
  clear q3 x1 x2 c0 c1 c2 d0 d1 d2
  have c0 := B3.out.a.c0
  have c1 := B3.out.a.c1
  have c2 := B3.out.a.c2
  have d0 := B3.out.b.c0
  have d1 := B3.out.b.c1
  have d2 := B3.out.b.c2
  go_wp2_with fail
  refine (rnmul_any _ _ _ _ _ _ a.den b.den _ (HA.out.1.below B3.out.bel).den (HA.out.2.1.below B3.out.bel).den).mono ?_
  rintro e w4 ⟨yo, yn, yc, ys, k2, rfl, x1, x2, q4⟩
  have B4 : Hid (Boxes w w4 an ao al ac aeo ael aec bn bo bl bc beo bel bec) := B3.out.below q4
  have H4 : Hid (RowAt w4 xo xn xc xs ∧ RowAt w4 yo yn yc ys ∧ Out (May a.den ∧ May b.den) False (val a.den * val b.den) ys k2) := ⟨H3.out.1.below q4, x1, x2⟩
  clear q4 x1 x2 c0 c1 c2 d0 d1 d2
  have HOK : Hid ((May a.num ∧ May b.num) ∧ (May a.den ∧ May b.den)) := ⟨⟨HM.out.1.num, HM.out.2.num⟩, ⟨HM.out.1.den, HM.out.2.den⟩⟩
  rcases Int.lt_or_le (val a.num * val b.num) Big with g1 | g1
  · rcases Int.lt_or_le (val a.den * val b.den) Big with g2 | g2
    · obtain ⟨rfl, n1⟩ := H3.out.2.ok_num HOK.out.1 (fun f => f) g1
      obtain ⟨rfl, n2⟩ := H4.out.2.2.ok_num HOK.out.2 (fun f => f) g2
      have HN : Hid (May xs ∧ May ys ∧ val xs = val a.num * val b.num ∧ val ys = val a.den * val b.den ∧ val a.num * val b.num < Big ∧ val a.den * val b.den < Big) := ⟨n1.may.2 g1, n2.may.2 g2, n1.val, n2.val, g1, g2⟩
      clear g1 g2 n1 n2
      have c0 := B4.out.a.c0
      have c1 := B4.out.a.c1
      have c2 := B4.out.a.c2
      have d0 := B4.out.b.c0
      have d1 := B4.out.b.c1
      have d2 := B4.out.b.c2
      go_wp2_with fail
      refine (rmake_any (an != bn) _ _ _ _ _ _ xs ys _ H4.out.1 H4.out.2.1).mono ?_
      rintro e w8 ⟨vg, vo, vn, vc, veo, ven, vec, v, k, rfl, y1, y2, y3, q8⟩
      have B8 : Hid (Boxes w w8 an ao al ac aeo ael aec bn bo bl bc beo bel bec) := B4.out.below q8
      have hbp := Int.mul_pos (HM.out.1.bot_pos HA.out.1.lim) (HM.out.2.bot_pos HA.out.2.1.lim)
      have hfine := y3.fine ⟨HN.out.1, HN.out.2.1⟩ (by
        rw [HN.out.2.2.2.1]
        have h9 : 0 < val a.den * val b.den := hbp
        omega)
      have HV : Hid (v.neg = vg ∧ RatAt w8 vo vn vc veo ven vec v ∧ k = 0 ∧ Is v (a.top * b.top) (a.bot * b.bot)) := by
        refine ⟨y1, y2, hfine.1, ?_⟩
        have h9 := hfine.2
        rw [HN.out.2.2.1, HN.out.2.2.2.1, sg_times] at h9
        show Is v (sg a.neg (val a.num) * sg b.neg (val b.num)) (val a.den * val b.den)
        rw [HA.out.2.2.1, HA.out.2.2.2]
        exact h9
      have HNB : Hid (¬ (Big ≤ val a.num * val b.num ∨ Big ≤ a.bot * b.bot)) := by
        rintro (h | h)
        · exact absurd HN.out.2.2.2.2.1 (Int.not_lt.2 h)
        · exact absurd HN.out.2.2.2.2.2 (Int.not_lt.2 h)
      clear y1 y2 y3 q8 hbp hfine c0 c1 c2 d0 d1 d2
      have r0 := B8.out.r.c0
      have r1 := B8.out.r.c1
      have r2 := B8.out.r.c2
      have f0 := B8.out.r.f 0
      have f1 := B8.out.r.f 1
      have f2 := B8.out.r.f 2
      go_wp2_with fail
      refine bodyPost_ret (results_r2 rfl _ (B8.out.r.set vg vo vn vc veo ven vec) rfl _ rfl) rfl ⟨vg, vo, vn, vc, veo, ven, vec, v, k, rfl, HV.out.1, HV.out.2.1.setR B8.out.r _ _ _, ⟨fun h => absurd HM.out h, fun _ h => absurd h HNB.out, fun _ _ => HV.out.2.2⟩, below_set B8.out.bel (by omega) _ _ _⟩
    · obtain ⟨rfl, _⟩ := H3.out.2.ok_num HOK.out.1 (fun f => f) g1
      obtain ⟨rfl, _⟩ := H4.out.2.2.is_big HOK.out.2 (fun f => f) g2
      have HT : Hid (Big ≤ val a.num * val b.num ∨ Big ≤ a.bot * b.bot) := .inr g2
      clear g1 g2
      have r0 := B4.out.r.c0
      have r1 := B4.out.r.c1
      have r2 := B4.out.r.c2
      have f0 := B4.out.r.f 0
      have f1 := B4.out.r.f 1
      have f2 := B4.out.r.f 2
      go_wp2_with fail
      refine bodyPost_ret (results_r2 rfl _ (B4.out.r.set false none 0 0 none 0 0) rfl _ rfl) rfl ⟨false, none, 0, 0, none, 0, 0, rat0, 21, rfl, rfl, RatAt.zero _, ⟨fun h => absurd HM.out h, fun _ _ => ⟨rfl, rfl⟩, fun _ h => absurd (HT.out) h⟩, below_set B4.out.bel (by omega) _ _ _⟩
  · obtain ⟨rfl, _⟩ := H3.out.2.is_big HOK.out.1 (fun f => f) g1
    have HT : Hid (Big ≤ val a.num * val b.num ∨ Big ≤ a.bot * b.bot) := .inl g1
    clear g1
    have r0 := B4.out.r.c0
    have r1 := B4.out.r.c1
    have r2 := B4.out.r.c2
    have f0 := B4.out.r.f 0
    have f1 := B4.out.r.f 1
    have f2 := B4.out.r.f 2
    go_wp2_with fail
    refine bodyPost_ret (results_r2 rfl _ (B4.out.r.set false none 0 0 none 0 0) rfl _ rfl) rfl ⟨false, none, 0, 0, none, 0, 0, rat0, 21, rfl, rfl, RatAt.zero _, ⟨fun h => absurd HM.out h, fun _ _ => ⟨rfl, rfl⟩, fun _ h => absurd (HT.out) h⟩, below_set B4.out.bel (by omega) _ _ _⟩

theorem rrmul_r (an : Bool) (ao : Option Addr) (al ac : Nat) (aeo : Option Addr) (ael aec : Nat) (bn : Bool) (bo : Option Addr) (bl bc : Nat) (beo : Option Addr) (bel bec : Nat) (a b : RatL) (w : World)
    (ha : RatAt w ao al ac aeo ael aec a) (hb : RatAt w bo bl bc beo bel bec b) (hga : a.neg = an) (hgb : b.neg = bn) :
    Calls Tryz.prog 69 #[.agg #[.bool an, .slice ao al ac, .slice aeo ael aec], .agg #[.bool bn, .slice bo bl bc, .slice beo bel bec]] w fun e w' => ∃ rneg no nn nc eo en ec r k, e = .returned (.tuple #[.agg #[.bool rneg, .slice no nn nc, .slice eo en ec], .int .i64 k]) ∧ r.neg = rneg ∧ RatAt w' no nn nc eo en ec r ∧ MulOut a b r k ∧ Below w.heap.size w w' := by
  by_cases hma : MayR a
  · by_cases hmb : MayR b
    · exact rmu_ok an ao al ac aeo ael aec bn bo bl bc beo bel bec a b w ha hb hga hgb hma hmb
    · exact rmu_nb an ao al ac aeo ael aec bn bo bl bc beo bel bec a b w ha hb hga hgb hma hmb
  · exact rmu_na an ao al ac aeo ael aec bn bo bl bc beo bel bec a b w ha hb hga hgb hma
end Go.Proofs.YtnedghhcidohnaaGreat
