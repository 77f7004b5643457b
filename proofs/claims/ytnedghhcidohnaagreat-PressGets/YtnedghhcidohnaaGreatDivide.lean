/-
  quot.divide: the quotient and the rest of trim rows.
-/
import Derived.Deep.CutRange
import Derived.Laws.CopyOwn
import Derived.Test.YtnedghhcidohnaaGreatJD1
import Derived.Test.YtnedghhcidohnaaGreatJE1
namespace Go.Proofs.YtnedghhcidohnaaGreat
open Go.RowKit

theorem RowAt.apart1 {w : World} {ao : Option Addr} {n cap : Nat} {xs : List Int} (h : RowAt w ao n cap xs) {p : Nat} {v : Value} {t : TypeId} (hp : w.heap[p]? = some (.cells #[v] t (0, 0))) (hv : ∀ i, v ≠ .int .u64 i) (u : Value) :
    RowAt (w.setCell ⟨p, 0, none⟩ u) ao n cap xs := by
  refine ⟨h.len, h.limbs, h.fits, h.most, h.bare, fun hne => ?_⟩
  obtain ⟨b, off, e, hb, hc⟩ := h.cells hne
  have hpos : 0 < xs.length := List.length_pos_iff.2 hne
  have hbG : b ≠ p := by
    intro e
    subst e
    have h4 := hc 0 hpos
    simp only [World.cell?, hp] at h4
    cases off with
    | zero => exact hv _ (by simpa using h4)
    | succ o => simp at h4
  refine ⟨b, off, e, by simpa [World.setCell] using hb, fun j hj => ?_⟩
  rw [World.cell?_of_block (w := w) (Below.heap_setCell w ⟨p, 0, none⟩ u b hbG)]
  exact hc j hj

/-- A row from a place on. -/
theorem RowAt.skip {w : World} {ao : Option Addr} {n cap : Nat} {xs : List Int} (h : RowAt w ao n cap xs) (m : Nat) (hm : m ≤ n) {bo : Option Addr} (hbo : ∀ b off, ao = some ⟨b, off, none⟩ → m < n → bo = some ⟨b, off + m, none⟩) (hn : bo = none → cap - m = 0) :
    RowAt w bo (n - m) (cap - m) (xs.drop m) := by
  have hl := h.len
  have hf := h.fits
  refine ⟨by simp; omega, limbs_drop h.limbs m, by omega, by have := h.most; omega, hn, fun hne => ?_⟩
  have hlt : m < n := by
    rcases Nat.lt_or_ge m n with h1 | h1
    · exact h1
    · exact absurd (by simp; omega) hne
  obtain ⟨b, off, e, hb, hc⟩ := h.cells (fun e => hne (by simp [e]))
  refine ⟨b, off + m, hbo b off e hlt, hb, fun j hj => ?_⟩
  simp only [List.length_drop] at hj
  rw [Nat.add_assoc, hc (m + j) (by omega)]
  simp

/-- What lies in memory ahead of the loop of divide. -/
structure DivSt (w wc : World) (pb : Nat) (Ao : Option Addr) (nA cA : Nat) (As : List Int) (Bo : Option Addr) (nB cB : Nat) (Bs : List Int) (va vb : Int) : Prop where
  A : RowAt wc Ao nA cA As
  B : RowAt wc Bo nB cB Bs
  sA : Num As va
  sB : Num Bs vb
  blk : wc.heap[pb]? = some (.cells #[.slice Bo nB cB] 42 (0, 0))
  bel : Below w.heap.size w wc
  few : nA ≤ 2000
  few' : nB ≤ 2000

theorem shift_up (v : Int) (up : Nat) (h : up ≤ 63) : shiftI v (up : Int) = v * 2 ^ up := by rw [shiftI, if_neg (by omega), if_neg (by omega), show (min (up : Int) 1000).toNat = up by omega]

/-- A block that holds limbs. -/
def LimbBlock (w : World) (g : Nat) (zs : List Int) : Prop := w.heap[g]? = some (.cells (zs.map (Value.int .u64)).toArray 56 (0, 0))

theorem LimbBlock.row {w : World} {g : Nat} {zs : List Int} (h : LimbBlock w g zs) (hl : Limbs zs) (n : Nat) (hn : zs.length = n) (hm : n ≤ maxLen) : RowAt w (some ⟨g, 0, none⟩) n n zs := by
  refine ⟨hn, hl, Nat.le_refl _, hm, by simp, fun _ => ⟨g, 0, rfl, lt_of_block h, fun j hj => ?_⟩⟩
  have h' : w.heap[g]? = some (.cells (zs.map (Value.int .u64)).toArray 56 (0, 0)) := h
  simp [World.cell?, h', hj]

theorem LimbBlock.of {w : World} {g : Nat} {zs : List Int} (h : w.rowIs g 56 zs.length (fun j => .int .u64 (zs.getD j 0))) : LimbBlock w g zs := by
  obtain ⟨c, h1, h2, h3⟩ := h
  have e : c = (zs.map (Value.int .u64)).toArray := by
    apply Array.ext
    · simp [h2]
    · intro i hi hi2
      have := h3 i (by omega)
      rw [Array.getElem?_eq_getElem hi] at this
      simp at hi2
      simp [hi2] at this
      simp [this]
  rw [e] at h1
  exact h1

theorem LimbBlock.copied {w : World} {g : Nat} {x : Int} {rs zs : List Int} (h : LimbBlock w g (x :: zs)) :
    LimbBlock (w.setRow g (((x :: zs).map (Value.int .u64)).take 1 ++ (rs.map (Value.int .u64) ++ ((x :: zs).map (Value.int .u64)).drop (1 + (rs.map (Value.int .u64)).length))).toArray) g (x :: (rs ++ zs.drop rs.length)) := by
  have := setRow_heap w g _ (((x :: zs).map (Value.int .u64)).take 1 ++ (rs.map (Value.int .u64) ++ ((x :: zs).map (Value.int .u64)).drop (1 + (rs.map (Value.int .u64)).length))).toArray 56 (0, 0) h
  unfold LimbBlock
  rw [this]
  congr 3
  simp [Nat.add_comm 1]

theorem val_pad (rs : List Int) (k : Nat) : val (rs ++ List.replicate k 0) = val rs := by
  induction rs with
  | nil => simp [val, val_zeros0]
  | cons x xs ih => simp [val, ih]

theorem limbs_app {xs ys : List Int} (hx : Limbs xs) (hy : Limbs ys) : Limbs (xs ++ ys) := fun z hz => by
  rcases List.mem_append.1 hz with h | h
  · exact hx z h
  · exact hy z h

/-- What lies in memory once the row of a place is laid. -/
structure PlaceSt (wr w5 : World) (N : Nat) (zs : List Int) : Prop where
  bel : Below wr.heap.size wr w5
  blk : LimbBlock w5 wr.heap.size zs
  box : w5.heap[wr.heap.size + 1]? = some (.cells #[.slice (some ⟨wr.heap.size, 0, none⟩) N N] 42 (0, 0))

theorem place_first (wr : World) (N n : Nat) (xk : Int) (hN : N = n + 2) :
    PlaceSt wr ((wr.alloc (Obj.cells ((madeCells #[Value.int IntKind.u64 0] N).setIfInBounds 0 (Value.int IntKind.u64 xk)) 56)).alloc (Obj.cells #[Value.slice (some ⟨wr.heap.size, 0, none⟩) N N] 42)).drew N (xk :: List.replicate (n + 1) 0) := by
  subst hN
  refine ⟨(((Below.refl _ _).alloc (Nat.le_refl _) _).alloc (by simp) _).drew, ?_, ?_⟩
  · show ((wr.alloc _).alloc _).heap[wr.heap.size]? = _
    rw [Below.heap_alloc _ _ _ (by simp), heap_alloc_new]
    congr 2
    apply Array.ext
    · simp [madeCells]
    · intro i h1 h2
      simp [madeCells] at h1
      cases i with
      | zero => simp [madeCells]
      | succ i =>
        rw [Array.getElem_setIfInBounds_ne (by simpa [madeCells] using h1) (by omega)]
        simp [madeCells, Nat.mod_one]
  · show ((wr.alloc _).alloc _).heap[wr.heap.size + 1]? = _
    have := heap_alloc_new (wr.alloc (Obj.cells ((madeCells #[Value.int IntKind.u64 0] (n + 2)).setIfInBounds 0 (Value.int IntKind.u64 xk)) 56)) (Obj.cells #[Value.slice (some ⟨wr.heap.size, 0, none⟩) (n + 2) (n + 2)] 42)
    simpa using this

theorem Tryz.size24 : (Tryz.prog.info? 56).map (·.size) = some 1 := by kernel_rfl

/-- What the loop of divide holds, k places being left. -/
def DivRel (wc : World) (m n j : Nat) (As : List Int) (V : Int) (ro : Option Addr) (nr cr : Nat) (qs rs : List Int) (wr : World) : Prop :=
  RowAt wr ro nr cr rs ∧ wr.rowIs wc.heap.size 56 m (fun t => .int .u64 (qs.getD t 0)) ∧ Below wc.heap.size wc wr ∧ DivInv As V (n + 1) m j qs rs

theorem RowAt.far {w : World} {ao : Option Addr} {n cap : Nat} {xs : List Int} (h : RowAt w ao n cap xs) {B g : Nat} (hf : Fresh B ao) (hg : g < B) (q : Nat) (u : Value) : RowAt (w.setCell ⟨g, q, none⟩ u) ao n cap xs := by
  refine ⟨h.len, h.limbs, h.fits, h.most, h.bare, fun hne => ?_⟩
  obtain ⟨b, off, e, hb, hc⟩ := h.cells hne
  have hbg : b ≠ g := by have := hf _ e; simp at this; omega
  refine ⟨b, off, e, by simpa [World.setCell] using hb, fun j hj => ?_⟩
  rw [World.cell?_of_block (w := w) (Below.heap_setCell w ⟨g, q, none⟩ u b hbg)]
  exact hc j hj

theorem shift_dn (v : Int) (up : Nat) (h : up ≤ 63) : shiftI v (-(up : Int)) = v / 2 ^ up := by
  cases up with
  | zero => rw [shiftI, if_neg (by omega), if_neg (by omega), show (min (-((0 : Nat) : Int)) 1000).toNat = 0 by omega]; simp
  | succ k => rw [shiftI, if_neg (by omega), if_pos (by omega), show (-(-((k + 1 : Nat) : Int))).toNat = k + 1 by omega]

theorem set_row {qs : List Int} {k : Nat} {d : Int} (hk : k < qs.length) (t : Nat) : (if t = k then Value.int .u64 d else Value.int .u64 (qs.getD t 0)) = Value.int .u64 ((qs.set k d).getD t 0) := by
  by_cases h : t = k
  · subst h; simp [hk]
  · rw [if_neg h, List.getD_eq_getElem?_getD, List.getD_eq_getElem?_getD, List.getElem?_set_ne (by omega)]

theorem DivRel.next {w2 : World} {m n k : Nat} {As : List Int} {V : Int} {ro so : Option Addr} {nr cr sm sc : Nat} {qs rs ss : List Int} {wr w7 w8 : World} {d : Int} (h : DivRel w2 m n (k + 1) As V ro nr cr qs rs wr) (hA : Limbs As) (hk : k < m) (hV : V < BB ^ (n + 1)) (hs : w2.heap.size < wr.heap.size) (hd : d = (lim As k + BB * val rs) / V)
    (hb : Below wr.heap.size wr w7) (hb8 : Below w7.heap.size w7 w8) (hf : Fresh w7.heap.size so) (hss : RowAt w8 so sm sc ss) (hn : Num ss (lim As k + BB * val rs - V * d)) :
    DivRel w2 m n k As V so sm sc (qs.set k d) ss (w8.setCell ⟨w2.heap.size, k, none⟩ (.int .u64 d)) := by
  obtain ⟨h1, h2, h3, h4⟩ := h
  have hbb : Below wr.heap.size wr w8 := hb.trans (hb8.mono hb.size)
  refine ⟨hss.far hf (Nat.lt_of_lt_of_le hs hb.size) _ _, ?_, (h3.trans (hbb.mono (Nat.le_of_lt hs))).setCell (Nat.le_refl _) _, div_next h4 hA hk hV hd hn⟩
  exact World.rowIs.congr (World.rowIs.set (h2.of_block (hbb.block _ hs)) k _) (fun t _ => set_row (by rw [h4.len]; exact hk) t)

/-- A guess is just right, once what it asks for is there. -/
theorem just {V q R d : Int} (hV : 0 < V) (hd : d = R / V) (hq : d ≤ q) (hle : V * q ≤ R) : q = d := by
  have : q ≤ R / V := by rw [Int.le_ediv_iff_mul_le hV, Int.mul_comm]; exact hle
  omega
theorem more {V q R d : Int} (hV : 0 < V) (hd : d = R / V) (hlt : R < V * q) : d ≤ q - 1 := by
  have : R / V < q := by rw [Int.ediv_lt_iff_lt_mul hV, Int.mul_comm]; exact hlt
  omega

set_option maxRecDepth 100000 in
set_option maxHeartbeats 4000000 in
theorem divide_any (ao bo : Option Addr) (na ca nb cb : Nat) (xs ys : List Int) (w : World) (ha : RowAt w ao na ca xs) (hb : RowAt w bo nb cb ys) (hna : na ≤ 1000) (hnb : nb ≤ 1000) (tx : Trim xs) (ty : Trim ys) (hy : ys ≠ []) :
    Calls Tryz.prog 131 #[.slice ao na ca, .slice bo nb cb] w fun e w' => ∃ qo qn qc qs ro rn rc rs, e = .returned (.tuple #[.slice qo qn qc, .slice ro rn rc]) ∧ RowAt w' qo qn qc qs ∧ RowAt w' ro rn rc rs ∧ Num qs (val xs / val ys) ∧ Num rs (val xs % val ys) ∧ Below w.heap.size w w' := by
  obtain ⟨n, hn⟩ : ∃ n, nb = n + 1 := by
    have := hb.len
    cases nb with
    | zero => exact absurd (List.length_eq_zero_iff.1 this) hy
    | succ n => exact ⟨n, rfl⟩
  subst hn
  obtain ⟨bb, boff, rfl, hblt, hbc⟩ := hb.cells hy
  have hck := hbc n (by have := hb.len; omega)
  rw [← lim_nat] at hck
  obtain ⟨x, hx⟩ : ∃ x, x = lim ys n := ⟨_, rfl⟩
  rw [← hx] at hck
  have hx0 : 0 < x := by
    have h1 := ty n hb.len
    have h2 := (lim_bd hb.limbs n).1
    rw [← lim_nat, ← hx] at h1
    rw [← hx] at h2
    omega
  have hx1 : x < BB := by rw [hx]; exact (lim_bd hb.limbs n).2
  obtain ⟨up, hup⟩ : ∃ up, up = 64 - bitLen x.toNat := ⟨_, rfl⟩
  have hlead := lead_up hx0 hx1
  rw [← hup] at hlead
  have HUP : Hid (up = 64 - bitLen x.toNat) := hup
  have HX : Hid (x = lim ys n) := hx
  have HX1 : Hid (x < BB) := hx1
  have HA : Hid _ := ha
  have HB : Hid _ := hb
  have hu63 := hlead.2.2
  have HLD : Hid (9223372036854775808 ≤ x * 2 ^ up ∧ (x + 1) * 2 ^ up ≤ BB) := ⟨hlead.1, hlead.2.1⟩
  have HTX : Hid (Trim xs) := tx
  have HTY : Hid (Trim ys) := ty
  have hck' : (w.alloc (Obj.cells #[Value.slice (some ⟨bb, boff, none⟩) (n + 1) cb] 42)).cell? ⟨bb, boff + n, none⟩ = some (.int .u64 x) := (Below.cell ((Below.refl w.heap.size w).alloc (Nat.le_refl _) _) (p := ⟨bb, boff + n, none⟩) hblt).trans hck
  clear ha hb hup hx hx1 hlead tx ty hbc hy hck
  go_enter Tryz.func131, Tryz.ntmps131
  go_wp2
  go_step3
  go_wp2_with fail
  refine (lead_any x _ (by omega) HX1.out).mono ?_
  rintro e w1 ⟨rfl, rfl⟩
  rw [← HUP.out]
  go_upto_region 2 with fail
  go_cut [0] from 22 to 27 (fun s0 wc => ∃ Ao nA cA As Bo nB cB Bs, s0 = .slice Ao nA cA ∧ DivSt w wc w.heap.size Ao nA cA As Bo nB cB Bs (val xs * 2 ^ up) (val ys * 2 ^ up))
  case first =>
    have h0 : Below w.heap.size w (w.alloc (Obj.cells #[Value.slice (some ⟨bb, boff, none⟩) (n + 1) cb] 42)).drew := ((Below.refl _ _).alloc (Nat.le_refl _) _).drew
    have h1 : (w.alloc (Obj.cells #[Value.slice (some ⟨bb, boff, none⟩) (n + 1) cb] 42)).drew.heap[w.heap.size]? = some (.cells #[Value.slice (some ⟨bb, boff, none⟩) (n + 1) cb] 42 (0, 0)) := heap_alloc_new w _
    have H0 : Hid _ := h0
    have H1 : Hid _ := h1
    clear h0 h1 hck'
    go_region_with (first
      | (go_at_call_of 135 (Value.slice ao na ca); refine (shift_any _ _ _ _ xs _ ?_ ?_ ?_ ?_).mono ?_; exact HA.out.below H0.out; omega; omega; omega; rintro e wA ⟨Ao, nA, cA, As, rfl, a1, a2, a3, a4⟩; have hA := heapAt a4 (lt_of_block H1.out) H1.out; have hA' := cell_of_one hA; have bA := H0.out.trans (a4.mono H0.out.size))
      | (go_at_call 135; refine (shift_any _ _ _ _ ys _ (HB.out.below bA) ?_ ?_ ?_).mono ?_; omega; omega; omega; rintro e wB ⟨Bo, nB, cB, Bs, rfl, b1, b2, b3, b4⟩; have hB := heapAt b4 (lt_of_block hA) hA; have hB' := cell_of_one hB; have hBf := free_of_one hB; have bB := bA.trans (b4.mono bA.size)))
    all_goals
      have HZ : Hid (DivSt w (wB.setCell ⟨w.heap.size, 0, none⟩ (Value.slice Bo nB cB)) w.heap.size Ao nA cA As Bo nB cB Bs (val xs * 2 ^ up) (val ys * 2 ^ up)) := by
        rw [shift_up _ _ hu63] at a2 b2
        exact ⟨(a1.below b4).apart1 hB (by simp) _, b1.apart1 hB (by simp) _, a2, b2, one_setCell hB, bB.setCell (Nat.le_refl _) _, by omega, by omega⟩
      clear a1 a2 a3 a4 b1 b2 b3 b4 hA hA' hB hB' hBf bA bB H0 H1
      go_wp2_with fail
      go_meet
      exact ⟨Ao, nA, cA, As, Bo, nB, cB, Bs, rfl, HZ.out⟩
  case rest =>
    rename World => w2
    obtain ⟨Ao, nA, cA, As, Bo, nB, cB, Bs, rfl, hst⟩ := hcut
    have hnl := norm_len HB.out.limbs HB.out.len (Int.pow_pos (by omega)) (by rw [← HX.out]; exact HLD.out.1) (by rw [← HX.out]; exact HLD.out.2) hst.sB
    obtain rfl : nB = n + 1 := by have := hst.B.len; omega
    obtain ⟨Bb, Boff, rfl, hBlt, hBc⟩ := hst.B.cells (by intro e; have := hnl.1; rw [e] at this; simp at this)
    have hcell := cell_of_one hst.blk
    have hfewA := hst.few
    have HST : Hid (DivSt w w2 w.heap.size Ao nA cA As (some ⟨Bb, Boff, none⟩) (n + 1) cB Bs (val xs * 2 ^ up) (val ys * 2 ^ up)) := hst
    have HNL : Hid (Bs.length = n + 1 ∧ 9223372036854775808 ≤ lim Bs n) := hnl
    obtain ⟨m, hm⟩ : ∃ m, m = nA - n := ⟨_, rfl⟩
    have hmx : (if (nA : Int) - ((n : Int) + 1) + 1 < 0 then (0 : Int) else (nA : Int) - ((n : Int) + 1) + 1) = (m : Int) := by split <;> omega
    have HM : Hid (m = nA - n) := hm
    have hmA : m ≤ nA := by omega
    have hm2 : m ≤ 2000 := by omega
    clear hst hnl hck' hBc hm HLD HX HUP HX1
    go_upto_region 5 with fail
    go_cut [4, 5] from 36 to 40 (fun s4 s5 wd => ∃ ro nr cr, s4 = .slice (some ⟨w2.heap.size, 0, none⟩) m m ∧ s5 = .slice ro nr cr ∧ RowAt wd ro nr cr (As.drop m) ∧ wd.rowIs w2.heap.size 56 m (fun _ => .int .u64 0) ∧ Below w2.heap.size w2 wd)
    case first =>
      have hmk := run_make_row' (P := Tryz.prog) 42 56 (.int .u64 0) 8 Tryz.underlying42 Tryz.info56 rfl .i64 .i64 m (by omega) (by omega)
      have hfit : (nA : Int) ≤ (cA : Int) := by have := HST.out.A.fits; omega
      have hfit2 : (m : Int) ≤ (cA : Int) := by have := HST.out.A.fits; omega
      have hfit3 : (m : Int) ≤ (nA : Int) := by omega
      have HBD : Hid (Below w2.heap.size w2 (w2.alloc (Obj.cells (madeCells #[Value.int IntKind.u64 0] m) 56)).drew) := ((Below.refl _ _).alloc (Nat.le_refl _) _).drew
      have HRW : Hid ((w2.alloc (Obj.cells (madeCells #[Value.int IntKind.u64 0] m) 56)).drew.rowIs w2.heap.size 56 m (fun _ => .int .u64 0)) := World.rowIs_made w2 _ m 56
      cases Ao with
      | none =>
        have HSK : Hid (RowAt (w2.alloc (Obj.cells (madeCells #[Value.int IntKind.u64 0] m) 56)).drew none (nA - m) (cA - m) (As.drop m)) :=
          (HST.out.A.below HBD.out).skip m hmA (fun b off e => by cases e) (fun _ => by have := HST.out.A.bare rfl; omega)
        clear hcell
        go_region
        go_wp2_with fail
        go_meet
        exact ⟨_, nA - m, cA - m, rfl, rfl, HSK.out, HRW.out, HBD.out⟩
      | some ad =>
        have HSK : Hid (RowAt (w2.alloc (Obj.cells (madeCells #[Value.int IntKind.u64 0] m) 56)).drew (if cA = m then some ad else some (ad.add m)) (nA - m) (cA - m) (As.drop m)) :=
          (HST.out.A.below HBD.out).skip m hmA (fun b off e hl => by cases e; rw [if_neg (by omega)]; simp [Addr.add]) (fun e => by split at e <;> cases e)
        clear hcell
        go_region
        generalize (if cA = m then some ad else some (ad.add m)) = so at HSK ⊢
        go_wp2_with fail
        go_meet
        exact ⟨_, nA - m, cA - m, rfl, rfl, HSK.out, HRW.out, HBD.out⟩
    case rest =>
      obtain ⟨ro, nr, cr, rfl, rfl, hro, hrow, hbd⟩ := hcut
      have hD0 : DivInv As (val Bs) (n + 1) m m (List.replicate m 0) (As.drop m) := div_start HST.out.A.limbs HST.out.B.limbs HNL.out.1 HST.out.sB.trim rfl (by rw [HST.out.A.len]; exact HM.out)
      have HR0 : Hid (DivRel w2 m n m As (val Bs) ro nr cr (List.replicate m 0) (As.drop m) wc) := ⟨hro, World.rowIs.congr hrow (fun t _ => by simp only [← lim_nat, lim_zeros]), hbd, hD0⟩
      clear hro hrow hbd hD0 hmx
      go_wp2
      go_step3
      go_wp2_with fail
      go_loopg [5, 9] m (fun k s5 s9 wr => ∃ (j : Nat) (i : Int) (ro : Option Addr) (nr cr : Nat) (qs rs : List Int), j ≤ m ∧ j ≤ k ∧ i = (j : Int) - 1 ∧ s9 = .int .i64 i ∧ s5 = .slice ro nr cr ∧ DivRel w2 m n j As (val Bs) ro nr cr qs rs wr)
      case atStart => exact ⟨m, _, ro, nr, cr, _, _, Nat.le_refl _, Nat.le_refl _, rfl, rfl, rfl, HR0.out⟩
      case round =>
        clear HR0 ro nr cr
        obtain ⟨j, i, ro, nr, cr, qs, rs, hjm, hjk, hij, rfl, rfl, hrel⟩ := hrel
        have HREL : Hid (DivRel w2 m n j As (val Bs) ro nr cr qs rs wr) := hrel
        clear hrel
        cases j with
        | zero =>
          obtain rfl : i = -1 := by omega
          clear hij
          have hqr := HREL.out.2.1
          have hqn := HREL.out.2.2.2.len
          have HQR : Hid (RowAt wr (some ⟨w2.heap.size, 0, none⟩) m m qs) := ⟨hqn, HREL.out.2.2.2.limbs, Nat.le_refl _, by unfold maxLen; omega, by simp, fun _ => ⟨_, _, rfl, hqr.lt, fun j hj => by rw [Nat.zero_add]; exact hqr.cell (by omega)⟩⟩
          have hwle : w.heap.size ≤ w2.heap.size := HST.out.bel.size
          have HWR : Hid (Below w.heap.size w wr) := HST.out.bel.trans (HREL.out.2.2.1.mono hwle)
          have hnr : nr ≤ 2000 := by have := HREL.out.1.len; have := HREL.out.2.2.2.rlen; omega
          have hyp : 0 < val ys := by
            have := val_ge HB.out.limbs HTY.out n HB.out.len
            have := pw_pos n
            omega
          have hen := div_end HREL.out.2.2.2 (P := 2 ^ up) (a := val xs) (b := val ys) (Int.pow_pos (by omega)) hyp HST.out.sA.val HST.out.sB.val
          have HEN : Hid (val qs = val xs / val ys ∧ val rs / 2 ^ up = val xs % val ys) := ⟨hen.1, hen.2.1⟩
          clear hqr hqn hyp hen
          go_wp2_with fail
          refine (trim_any _ _ _ qs _ HQR.out (by omega)).mono ?_
          rintro e w9 ⟨qo, qn, qc, q2, rfl, t1, t2, t3, t4⟩
          have T1 : Hid _ := t1
          have T2 : Hid (Num q2 (val qs)) := t2
          have T4 : Hid (Below wr.heap.size wr w9) := t4
          clear t1 t2 t3 t4
          go_wp2_with fail
          refine (shift_any _ _ _ (-(up : Int)) rs _ (HREL.out.1.below T4.out) (by omega) (by omega) (by omega)).mono ?_
          rintro e w10 ⟨so, sn, sc, s2, rfl, t1, t2, t3, t4⟩
          have S1 : Hid _ := t1
          have S2 : Hid (Num s2 (shiftI (val rs) (-(up : Int)))) := t2
          have S4 : Hid (Below w9.heap.size w9 w10) := t4
          clear t1 t2 t3 t4
          go_wp2_with fail
          rw [Exit.noGoto_ret]
          go_ret2
          refine ⟨qo, qn, qc, q2, so, sn, sc, s2, rfl, T1.out.below S4.out, S1.out, ?_, ?_, HWR.out.trans ((T4.out.trans (S4.out.mono T4.out.size)).mono HWR.out.size)⟩
          · have h := T2.out
            rw [HEN.out.1] at h
            exact h
          · have h := S2.out
            rw [shift_dn _ _ hu63, HEN.out.2] at h
            exact h
        | succ k =>
          obtain rfl : i = (k : Int) := by omega
          clear hij
          obtain ⟨N, hN⟩ : ∃ N : Nat, (n : Int) + 1 + 1 = (N : Int) := ⟨n + 2, by omega⟩
          have hmk := run_make_row' (P := Tryz.prog) 42 56 (.int .u64 0) 8 Tryz.underlying42 Tryz.info56 rfl .i64 .i64 N (by omega) (by omega)
          have hnN : N = n + 2 := by omega
          have HNN : Hid (N = n + 2) := hnN
          obtain ⟨Ab, Aoff, rfl, hAlt, hAc⟩ := HST.out.A.cells (by intro e; have := HST.out.A.len; rw [e] at this; simp at this; omega)
          have hak := hAc k (by rw [HST.out.A.len]; omega)
          rw [← lim_nat] at hak
          obtain ⟨xk, hxk⟩ : ∃ v, v = lim As k := ⟨_, rfl⟩
          rw [← hxk] at hak
          have HXK : Hid (xk = lim As k) := hxk
          have hsz : w2.heap.size ≤ wr.heap.size := HREL.out.2.2.1.size
          have hkA : (k : Int) < (nA : Int) := by omega
          have hN0 : (0 : Int) < (N : Int) := by omega
          have hb2 : Below wr.heap.size wr ((wr.alloc (Obj.cells (madeCells #[Value.int IntKind.u64 0] N) 56)).alloc (Obj.cells #[Value.slice (some ⟨wr.heap.size, 0, none⟩) N N] 42)) := ((Below.refl _ _).alloc (Nat.le_refl _) _).alloc (by simp) _
          have hca : ((wr.alloc (Obj.cells (madeCells #[Value.int IntKind.u64 0] N) 56)).alloc (Obj.cells #[Value.slice (some ⟨wr.heap.size, 0, none⟩) N N] 42)).cell? ⟨Ab, Aoff + k, none⟩ = some (.int .u64 xk) :=
            (hb2.cell (p := ⟨Ab, Aoff + k, none⟩) (by show Ab < wr.heap.size; omega)).trans ((HREL.out.2.2.1.cell (p := ⟨Ab, Aoff + k, none⟩) hAlt).trans hak)
          have hrw : ((wr.alloc (Obj.cells (madeCells #[Value.int IntKind.u64 0] N) 56)).alloc (Obj.cells #[Value.slice (some ⟨wr.heap.size, 0, none⟩) N N] 42)).rowIs wr.heap.size 56 N (fun _ => .int .u64 0) :=
            (World.rowIs_made wr (.int .u64 0) N 56).of_block (Below.heap_alloc _ _ _ (by simp))
          have hcr := hrw.cell (i := 0) (by omega)
          have hfr := hrw.frozen 0
          have HP := place_first wr N n xk hnN
          have HP' : Hid _ := HP
          clear hAc hak hxk hb2 hrw hnN HP
          go_upto_region 10 with fail
          go_cut [] from 43 to 89 (fun w5 => PlaceSt wr w5 N (xk :: List.replicate (n + 1) 0))
          case first =>
            go_region
            go_wp2_with fail
            go_meet
            exact HP'.out
          case rest =>
            rename World => w5
            have HC5 : Hid (PlaceSt wr w5 N (xk :: List.replicate (n + 1) 0)) := hcut
            have hbox := cell_of_one hcut.box
            have hN1 : ¬ N = 1 := by have := HNN.out; omega
            have hN2 : (1 : Int) ≤ (N : Int) := by omega
            have hrl := HREL.out.1.len
            have hrm := HREL.out.2.2.2.rlen
            have HRL : Hid (rs.length = nr ∧ nr ≤ n + 1) := ⟨hrl, by omega⟩
            clear hcut hca hcr hfr HP' hrl hrm hmk
            go_upto_region 11 with fail
            go_cut [] from 43 to 89 (fun w6 => PlaceSt wr w6 N (xk :: (rs ++ List.replicate (n + 1 - nr) 0)))
            case first =>
              by_cases hrs : rs = []
              · have HF : Hid (PlaceSt wr w5 N (xk :: (rs ++ List.replicate (n + 1 - nr) 0))) := by
                  have h := HRL.out.1
                  rw [hrs] at h
                  simp at h
                  rw [hrs, ← h]
                  exact HC5.out
                have HZ0 : Hid (nr = 0) := by show nr = 0; rw [← HRL.out.1, hrs]; rfl
                clear hrs
                go_wp2_with (refine wpList_copy_nothing rfl (.tmp 57) (.tmp 58) 42 42 rfl 56 Tryz.underlying42 Tryz.size24 _ _ _ _ _ _ rfl rfl (by have := HZ0.out; show min nr _ = 0; omega) ?_)
                go_wp2_with fail
                go_meet
                exact HF.out
              · obtain ⟨rb, roff, rfl, hrlt, hrc⟩ := HREL.out.1.cells hrs
                have hN3 : N - 1 = n + 1 := by have := HNN.out; omega
                have hmin : (rs.map (Value.int .u64)).length = Nat.min nr (N - 1) := by
                  have h1 := HRL.out.1
                  have h2 := HRL.out.2
                  rw [List.length_map, hN3]
                  show rs.length = min nr (n + 1)
                  omega
                have HMIN : Hid ((rs.map (Value.int .u64)).length = Nat.min nr (N - 1)) := hmin
                have HSRC : Hid (∀ j v, (rs.map (Value.int .u64))[j]? = some v → w5.cell? ((⟨rb, roff, none⟩ : Addr).add j) = some v) := by
                  intro j v hv
                  have hj : j < rs.length := by
                    rcases Nat.lt_or_ge j rs.length with h | h
                    · exact h
                    · rw [List.getElem?_eq_none (by simpa using h)] at hv; cases hv
                  have h1 := hrc j hj
                  have e : (⟨rb, roff, none⟩ : Addr).add j = ⟨rb, roff + j, none⟩ := by simp [Addr.add]
                  rw [e, HC5.out.bel.cell (p := ⟨rb, roff + j, none⟩) hrlt, h1]
                  simp [hj] at hv
                  simp [hj, ← hv]
                have HF : Hid (PlaceSt wr (w5.setRow wr.heap.size (((xk :: List.replicate (n + 1) 0).map (Value.int .u64)).take 1 ++ (rs.map (Value.int .u64) ++ ((xk :: List.replicate (n + 1) 0).map (Value.int .u64)).drop (1 + (rs.map (Value.int .u64)).length))).toArray) N (xk :: (rs ++ List.replicate (n + 1 - nr) 0))) := by
                  refine ⟨below_setRow HC5.out.bel (Nat.le_refl _) _, ?_, ?_⟩
                  · have h := HC5.out.blk.copied (rs := rs)
                    rw [List.drop_replicate, HRL.out.1] at h
                    exact h
                  · rw [setRow_other _ _ _ _ (by omega)]
                    exact HC5.out.box
                clear hmin hrc hN3
                go_wp2_with (refine wpList_copy_own rfl (.tmp 57) (.tmp 58) 42 42 rfl 56 Tryz.underlying42 Tryz.size24 wr.heap.size 1 _ _ ⟨rb, roff, none⟩ _ _ rfl rfl ((xk :: List.replicate (n + 1) 0).map (Value.int .u64)).toArray 56 HC5.out.blk (rs.map (Value.int .u64)) HMIN.out HSRC.out ?_ ?_ ?_)
                · have h1 := HRL.out; simp; omega
                · simp [Value.oneCell']
                · go_wp2_with fail
                  go_meet
                  exact HF.out
            case rest =>
              rename World => w6
              obtain ⟨zs, hzs⟩ : ∃ zs, zs = xk :: (rs ++ List.replicate (n + 1 - nr) 0) := ⟨_, rfl⟩
              rw [← hzs] at hcut
              have hxb := lim_bd HST.out.A.limbs k
              rw [← HXK.out] at hxb
              have hzl : Limbs zs := by
                rw [hzs]
                intro z hz
                rcases List.mem_cons.1 hz with h | h
                · rw [h]; exact hxb
                · exact limbs_app HREL.out.1.limbs (limbs_zeros _) z h
              have hzn : zs.length = N := by
                have h1 := HRL.out
                have h2 := HNN.out
                rw [hzs]; simp; omega
              have hzv : val zs = xk + BB * val rs := by rw [hzs, val, val_pad]
              have RZ : Hid (RowAt w6 (some ⟨wr.heap.size, 0, none⟩) N N zs) := hcut.blk.row hzl N hzn (by unfold maxLen; omega)
              have HC6 : Hid (PlaceSt wr w6 N zs) := hcut
              have HZV : Hid (val zs = xk + BB * val rs) := hzv
              have hbox6 := cell_of_one hcut.box
              have hwlt : w.heap.size < w2.heap.size := lt_of_block HST.out.blk
              have hb26 : Below w2.heap.size w2 w6 := HREL.out.2.2.1.trans (hcut.bel.mono hsz)
              have hbb6 : w6.cell? ⟨w.heap.size, 0, none⟩ = some (Value.slice (some ⟨Bb, Boff, none⟩) (n + 1) cB) := (hb26.cell (p := ⟨w.heap.size, 0, none⟩) hwlt).trans hcell
              have hz1 := RZ.out.cellAt (n + 1) (by have := HNN.out; omega)
              have hz0 := RZ.out.cellAt n (by have := HNN.out; omega)
              rw [Nat.zero_add] at hz1 hz0
              have hBn : w6.cell? ⟨Bb, Boff + n, none⟩ = some (.int .u64 (lim Bs n)) := (HST.out.B.below hb26).cellAt n (by omega)
              have lz1 := lim_bd hzl (n + 1 : Nat)
              have lz0 := lim_bd hzl n
              have lB := lim_bd HST.out.B.limbs n
              have lB0 := HNL.out.2
              obtain ⟨z1, ez1⟩ : ∃ v, v = lim zs (n + 1 : Nat) := ⟨_, rfl⟩
              obtain ⟨z0, ez0⟩ : ∃ v, v = lim zs n := ⟨_, rfl⟩
              obtain ⟨d0, ed0⟩ : ∃ v, v = lim Bs n := ⟨_, rfl⟩
              rw [← ez1] at hz1 lz1
              rw [← ez0] at hz0 lz0
              rw [← ed0] at hBn lB lB0
              obtain ⟨G, hG⟩ : ∃ G, G = guessI z1 z0 d0 := ⟨_, rfl⟩
              obtain ⟨V, hV⟩ : ∃ V, V = val Bs := ⟨_, rfl⟩
              have hVp : 0 < V := by
                have := val_ge HST.out.B.limbs HST.out.sB.trim n HST.out.B.len
                have := pw_pos n
                omega
              have hVl : V < BB ^ (n + 1) := by rw [hV, ← HNL.out.1]; exact (val_bd HST.out.B.limbs).2
              obtain ⟨d, hd⟩ : ∃ d, d = val zs / V := ⟨_, rfl⟩
              have hdr := div_row HREL.out.2.2.2 HST.out.A.limbs
              rw [← hV, ← HXK.out, ← hzv, ← hd] at hdr
              have hd0 : 0 ≤ d := by rw [hd]; exact Int.ediv_nonneg hdr.1 (by omega)
              have hGd : d ≤ G := by
                rw [hG, guessI]
                split
                · have := hdr.2; unfold BB at this; omega
                · rw [hd]
                  exact guess_least hzl (by rw [hzn]; exact HNN.out) HST.out.B.limbs HNL.out.1 hV (by rw [← ed0]; exact lB0) (by rw [ez1, ez0, ed0])
              have hGl : 0 ≤ G ∧ G < BB := by
                refine ⟨by omega, ?_⟩
                rw [hG, guessI]
                split
                · unfold BB; omega
                · have := lz0.2
                  exact Int.ediv_lt_of_lt_mul (by omega) (by have h1 : z1 + 1 ≤ d0 := by omega
                                                             have h2 := Int.mul_le_mul_of_nonneg_right h1 (Int.le_of_lt BB_pos)
                                                             rw [Int.add_mul, Int.one_mul, Int.mul_comm d0] at h2
                                                             omega)
              have HG : Hid (G = guessI z1 z0 d0) := hG
              have HDD : Hid (d = val zs / V ∧ 0 < V ∧ V = val Bs ∧ V < BB ^ (n + 1) ∧ d ≤ G) := ⟨hd, hVp, hV, hVl, hGd⟩
              have HLB : Hid ((0 ≤ z1 ∧ z1 < BB) ∧ (0 ≤ z0 ∧ z0 < BB) ∧ (0 ≤ d0 ∧ d0 < BB) ∧ 9223372036854775808 ≤ d0) := ⟨lz1, lz0, lB, lB0⟩
              have HGL : Hid (0 ≤ G ∧ G < BB) := hGl
              have H26 : Hid (Below w2.heap.size w2 w6) := hb26
              have hq1 : ((n : Int) + 1) < (N : Int) := by have := HNN.out; omega
              have hq2 : (n : Int) < (N : Int) := by have := HNN.out; omega
              have hq3 : IntKind.i64.wrap ((n : Int) + 1 - 1) = (n : Int) := by rw [IntKind.wrap_i64]; omega
              have hmf : ∀ (fn : Fn) (first cap : Array Value) (w : World), (Instr.makeFunc fn first cap).run Tryz.prog w = .ok (.func fn first cap) w := fun _ _ _ _ => rfl
              clear hcut hzl hzn hzv hzs hxb lz1 lz0 lB lB0 ez1 ez0 ed0 hG hV hVp hVl hd hdr hd0 hGd hGl hb26 HC5 hbox
              go_upto_region 13 with fail
              go_quiet ((go_at_call 139; refine Calls.quiet_of (guess_any z1 z0 d0 _ HLB.out.1.1 HLB.out.2.1.1 HLB.out.2.1.2 HLB.out.2.2.2 HLB.out.2.2.1.2)))
              rw [← HG.out]
              have HW7 : Hid (Below w6.heap.size w6 (w6.drewN nq)) := below_drewN (Below.refl _ _) nq
              clear hz1 hz0 hBn hq1 hq2 hq3 hbox6 hbb6
              go_wp2_with fail
              go_loopg [12] (G.toNat) (fun g s12 wq => ∃ q : Int, s12 = .int .u64 q ∧ d ≤ q ∧ q < BB ∧ q.toNat ≤ g ∧ Below w6.heap.size w6 wq)
              case atStart => exact ⟨G, rfl, HDD.out.2.2.2.2, HGL.out.2, Nat.le_refl _, HW7.out⟩
              case round =>
                rename World => w7
                rename Nat => gi
                obtain ⟨q, rfl, hdq, hqB, hqg, hb67⟩ := hrel
                have hd0 : 0 ≤ d := by
                  rw [HDD.out.1]
                  exact Int.ediv_nonneg (val_bd RZ.out.limbs).1 (Int.le_of_lt HDD.out.2.1)
                have hq0 : 0 ≤ q := by omega
                have HQ : Hid (d ≤ q ∧ 0 ≤ q ∧ q < BB ∧ q.toNat ≤ gi ∧ 0 ≤ d) := ⟨hdq, hq0, hqB, hqg, hd0⟩
                have HB67 : Hid (Below w6.heap.size w6 w7) := hb67
                have HRZ : Hid (RowAt w7 (some ⟨wr.heap.size, 0, none⟩) N N zs) := RZ.out.below hb67
                have HBZ : Hid (RowAt w7 (some ⟨Bb, Boff, none⟩) (n + 1) cB Bs) := (HST.out.B.below H26.out).below hb67
                have hlx : wr.heap.size + 1 < w7.heap.size := Nat.lt_of_lt_of_le (lt_of_block HC6.out.box) hb67.size
                have hly : w.heap.size < w7.heap.size := Nat.lt_of_lt_of_le (Nat.lt_of_lt_of_le hwlt H26.out.size) hb67.size
                have hcx : Hid (w7.cell? ⟨wr.heap.size + 1, 0, none⟩ = some (.slice (some ⟨wr.heap.size, 0, none⟩) N N)) := cell_of_one (heapAt hb67 (lt_of_block HC6.out.box) HC6.out.box)
                have hcy : Hid (w7.cell? ⟨w.heap.size, 0, none⟩ = some (.slice (some ⟨Bb, Boff, none⟩) (n + 1) cB)) :=
                  (hb67.cell (p := ⟨w.heap.size, 0, none⟩) (Nat.lt_of_lt_of_le hwlt H26.out.size)).trans ((H26.out.cell (p := ⟨w.heap.size, 0, none⟩) hwlt).trans hcell)
                have hNn : N ≤ 1002 := by have := HNN.out; omega
                have hs2 : w2.heap.size < wr.heap.size := HREL.out.2.1.lt
                have hbr7 : Below wr.heap.size wr w7 := HC6.out.bel.trans (hb67.mono HC6.out.bel.size)
                have HBR7 : Hid (Below wr.heap.size wr w7) := hbr7
                clear hdq hqB hqg hd0 hb67 hbr7
                by_cases hle : val Bs * q ≤ val zs
                · have HLE : Hid (val Bs * q ≤ val zs) := hle
                  clear hle
                  go_wp2_with fail
                  refine (less_yes _ _ _ _ _ _ _ _ zs Bs q _ HRZ.out HBZ.out (by omega) (by omega) HQ.out.2.1 HQ.out.2.2.1 hcx.out hcy.out hlx hly HLE.out).mono ?_
                  rintro e w8 ⟨so, sm, sc, ss, rfl, g1, g2, g3, g4⟩
                  have hqd : q = d := just HDD.out.2.1 HDD.out.1 HQ.out.1 (by rw [HDD.out.2.2.1]; exact HLE.out)
                  have hqr : w8.rowIs w2.heap.size 56 m (fun t => .int .u64 (qs.getD t 0)) := (HREL.out.2.1.of_block (HBR7.out.block _ hs2)).of_block (g4.block _ (Nat.lt_of_lt_of_le hs2 HBR7.out.size))
                  have hqc := hqr.cell (i := k) (by omega)
                  have hqf := hqr.frozen k
                  have HN8 : Hid (DivRel w2 m n k As (val Bs) so sm sc (qs.set k q) ss (w8.setCell ⟨w2.heap.size, k, none⟩ (.int .u64 q))) := by
                    refine HREL.out.next HST.out.A.limbs (by omega) (by rw [← HDD.out.2.2.1]; exact HDD.out.2.2.2.1) hs2 ?_ HBR7.out g4 g3 g1 ?_
                    · rw [hqd, HDD.out.1, HZV.out, HXK.out, HDD.out.2.2.1]
                    · rw [← HXK.out, ← HZV.out]; exact g2
                  have hkm : (k : Int) < (m : Int) := by omega
                  clear g1 g2 g3 g4 hqd hqr
                  go_wp2_with fail
                  go_roundg k
                  case measure => omega
                  case rel => exact ⟨k, _, so, sm, sc, _, ss, by omega, Nat.le_refl _, rfl, rfl, rfl, HN8.out⟩
                · have HLT : Hid (val zs < val Bs * q) := Int.not_le.1 hle
                  clear hle
                  have hm1 := more HDD.out.2.1 HDD.out.1 (by rw [HDD.out.2.2.1]; exact HLT.out)
                  have HM1 : Hid (d ≤ q - 1) := hm1
                  have hq1 : 1 ≤ q := by have := HQ.out.2.2.2.2; omega
                  have hq2 : q ≤ 18446744073709551615 := by have := HQ.out.2.2.1; unfold BB at this; omega
                  clear hm1
                  go_wp2_with fail
                  refine (less_no _ _ _ _ _ _ _ _ zs Bs q _ HRZ.out HBZ.out (by omega) (by omega) HQ.out.2.1 HQ.out.2.2.1 hcx.out hcy.out hlx hly HLT.out).mono ?_
                  rintro e w8 ⟨so, sc, rfl, g4⟩
                  have HB8 : Hid (Below w6.heap.size w6 w8) := HB67.out.trans (g4.mono HB67.out.size)
                  clear g4
                  go_wp2_with fail
                  go_roundg ((q - 1).toNat)
                  case measure => have := HQ.out.2.2.2.1; omega
                  case rel => exact ⟨q - 1, rfl, HM1.out, by have := HQ.out.2.2.1; omega, Nat.le_refl _, HB8.out⟩
end Go.Proofs.YtnedghhcidohnaaGreat
