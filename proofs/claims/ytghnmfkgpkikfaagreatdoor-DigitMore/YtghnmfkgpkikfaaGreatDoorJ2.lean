/-
  Joined: Divide · RTrim · Digits · Whole · Cmp · Bits · RCmp · NatBase · Within · NatOps · Quot · DigMath · Add2 · Add · NatAdd · RSub · RMul · RDivMath · RTimes · RAdd · ROf · RDivA.
-/
import Derived.Test.YtghnmfkgpkikfaaGreatDoorJ1
import Derived.Deep.CutRange
import Derived.Laws.CopyOwn
import Derived.Laws.AppendOwnNone
import Derived.Deep.RegionHeld3
import Derived.Deep.AppendLies
import Derived.Deep.DrawnRows
import Derived.Deep.LoopGhost

/-! quot.divide: the quotient and the rest of trim rows. -/
namespace Go.Proofs.YtghnmfkgpkikfaaGreatDoor
open Go.RowKit

theorem RowAt.apart1 {w : World} {ao : Option Addr} {n cap : Nat} {xs : List Int} (h : RowAt w ao n cap xs) {p : Nat} {v : Value} {t : TypeId} (hp : w.heap[p]? = some (.cells #[v] t (0, 0))) (hv : ∀ i, v ≠ .int .u64 i) (u : Value) :
    RowAt (w.setCell ⟨p, 0, none⟩ u) ao n cap xs := by
  refine ⟨h.len, h.limbs, h.fits, h.most, h.bare, fun hne => ?_⟩
  obtain ⟨b, off, e, hb, hc⟩ := h.cells hne
  have hpos : 0 < xs.length := List.length_pos_iff.2 hne
  have hbG : b ≠ p := by
    intro e
    subst e
    have h4 := hc 0 hpos
    simp only [World.cell?, hp] at h4
    cases off with
    | zero => exact hv _ (by simpa using h4)
    | succ o => simp at h4
  refine ⟨b, off, e, by simpa [World.setCell] using hb, fun j hj => ?_⟩
  rw [World.cell?_of_block (w := w) (Below.heap_setCell w ⟨p, 0, none⟩ u b hbG)]
  exact hc j hj

/-- A row from a place on. -/
theorem RowAt.skip {w : World} {ao : Option Addr} {n cap : Nat} {xs : List Int} (h : RowAt w ao n cap xs) (m : Nat) (hm : m ≤ n) {bo : Option Addr} (hbo : ∀ b off, ao = some ⟨b, off, none⟩ → m < n → bo = some ⟨b, off + m, none⟩) (hn : bo = none → cap - m = 0) :
    RowAt w bo (n - m) (cap - m) (xs.drop m) := by
  have hl := h.len
  have hf := h.fits
  refine ⟨by simp; omega, limbs_drop h.limbs m, by omega, by have := h.most; omega, hn, fun hne => ?_⟩
  have hlt : m < n := by
    rcases Nat.lt_or_ge m n with h1 | h1
    · exact h1
    · exact absurd (by simp; omega) hne
  obtain ⟨b, off, e, hb, hc⟩ := h.cells (fun e => hne (by simp [e]))
  refine ⟨b, off + m, hbo b off e hlt, hb, fun j hj => ?_⟩
  simp only [List.length_drop] at hj
  rw [Nat.add_assoc, hc (m + j) (by omega)]
  simp

/-- What lies in memory ahead of the loop of divide. -/
structure DivSt (w wc : World) (pb : Nat) (Ao : Option Addr) (nA cA : Nat) (As : List Int) (Bo : Option Addr) (nB cB : Nat) (Bs : List Int) (va vb : Int) : Prop where
  A : RowAt wc Ao nA cA As
  B : RowAt wc Bo nB cB Bs
  sA : Num As va
  sB : Num Bs vb
  blk : wc.heap[pb]? = some (.cells #[.slice Bo nB cB] 22 (0, 0))
  bel : Below w.heap.size w wc
  few : nA ≤ 2000
  few' : nB ≤ 2000

theorem shift_up (v : Int) (up : Nat) (h : up ≤ 63) : shiftI v (up : Int) = v * 2 ^ up := by rw [shiftI, if_neg (by omega), if_neg (by omega), show (min (up : Int) 1000).toNat = up by omega]

/-- A block that holds limbs. -/
def LimbBlock (w : World) (g : Nat) (zs : List Int) : Prop := w.heap[g]? = some (.cells (zs.map (Value.int .u64)).toArray 24 (0, 0))

theorem LimbBlock.row {w : World} {g : Nat} {zs : List Int} (h : LimbBlock w g zs) (hl : Limbs zs) (n : Nat) (hn : zs.length = n) (hm : n ≤ maxLen) : RowAt w (some ⟨g, 0, none⟩) n n zs := by
  refine ⟨hn, hl, Nat.le_refl _, hm, by simp, fun _ => ⟨g, 0, rfl, lt_of_block h, fun j hj => ?_⟩⟩
  have h' : w.heap[g]? = some (.cells (zs.map (Value.int .u64)).toArray 24 (0, 0)) := h
  simp [World.cell?, h', hj]

theorem LimbBlock.of {w : World} {g : Nat} {zs : List Int} (h : w.rowIs g 24 zs.length (fun j => .int .u64 (zs.getD j 0))) : LimbBlock w g zs := by
  obtain ⟨c, h1, h2, h3⟩ := h
  have e : c = (zs.map (Value.int .u64)).toArray := by
    apply Array.ext
    · simp [h2]
    · intro i hi hi2
      have := h3 i (by omega)
      rw [Array.getElem?_eq_getElem hi] at this
      simp at hi2
      simp [hi2] at this
      simp [this]
  rw [e] at h1
  exact h1

theorem LimbBlock.copied {w : World} {g : Nat} {x : Int} {rs zs : List Int} (h : LimbBlock w g (x :: zs)) :
    LimbBlock (w.setRow g (((x :: zs).map (Value.int .u64)).take 1 ++ (rs.map (Value.int .u64) ++ ((x :: zs).map (Value.int .u64)).drop (1 + (rs.map (Value.int .u64)).length))).toArray) g (x :: (rs ++ zs.drop rs.length)) := by
  have := setRow_heap w g _ (((x :: zs).map (Value.int .u64)).take 1 ++ (rs.map (Value.int .u64) ++ ((x :: zs).map (Value.int .u64)).drop (1 + (rs.map (Value.int .u64)).length))).toArray 24 (0, 0) h
  unfold LimbBlock
  rw [this]
  congr 3
  simp [Nat.add_comm 1]

theorem val_pad (rs : List Int) (k : Nat) : val (rs ++ List.replicate k 0) = val rs := by
  induction rs with
  | nil => simp [val, val_zeros0]
  | cons x xs ih => simp [val, ih]

theorem limbs_app {xs ys : List Int} (hx : Limbs xs) (hy : Limbs ys) : Limbs (xs ++ ys) := fun z hz => by
  rcases List.mem_append.1 hz with h | h
  · exact hx z h
  · exact hy z h

/-- What lies in memory once the row of a place is laid. -/
structure PlaceSt (wr w5 : World) (N : Nat) (zs : List Int) : Prop where
  bel : Below wr.heap.size wr w5
  blk : LimbBlock w5 wr.heap.size zs
  box : w5.heap[wr.heap.size + 1]? = some (.cells #[.slice (some ⟨wr.heap.size, 0, none⟩) N N] 22 (0, 0))

theorem place_first (wr : World) (N n : Nat) (xk : Int) (hN : N = n + 2) :
    PlaceSt wr ((wr.alloc (Obj.cells ((madeCells #[Value.int IntKind.u64 0] N).setIfInBounds 0 (Value.int IntKind.u64 xk)) 24)).alloc (Obj.cells #[Value.slice (some ⟨wr.heap.size, 0, none⟩) N N] 22)).drew N (xk :: List.replicate (n + 1) 0) := by
  subst hN
  refine ⟨(((Below.refl _ _).alloc (Nat.le_refl _) _).alloc (by simp) _).drew, ?_, ?_⟩
  · show ((wr.alloc _).alloc _).heap[wr.heap.size]? = _
    rw [Below.heap_alloc _ _ _ (by simp), heap_alloc_new]
    congr 2
    apply Array.ext
    · simp [madeCells]
    · intro i h1 h2
      simp [madeCells] at h1
      cases i with
      | zero => simp [madeCells]
      | succ i =>
        rw [Array.getElem_setIfInBounds_ne (by simpa [madeCells] using h1) (by omega)]
        simp [madeCells, Nat.mod_one]
  · show ((wr.alloc _).alloc _).heap[wr.heap.size + 1]? = _
    have := heap_alloc_new (wr.alloc (Obj.cells ((madeCells #[Value.int IntKind.u64 0] (n + 2)).setIfInBounds 0 (Value.int IntKind.u64 xk)) 24)) (Obj.cells #[Value.slice (some ⟨wr.heap.size, 0, none⟩) (n + 2) (n + 2)] 22)
    simpa using this

theorem Tryz.size24 : (Tryz.prog.info? 24).map (·.size) = some 1 := by kernel_rfl

/-- What the loop of divide holds, k places being left. -/
def DivRel (wc : World) (m n j : Nat) (As : List Int) (V : Int) (ro : Option Addr) (nr cr : Nat) (qs rs : List Int) (wr : World) : Prop :=
  RowAt wr ro nr cr rs ∧ wr.rowIs wc.heap.size 24 m (fun t => .int .u64 (qs.getD t 0)) ∧ Below wc.heap.size wc wr ∧ DivInv As V (n + 1) m j qs rs

theorem RowAt.far {w : World} {ao : Option Addr} {n cap : Nat} {xs : List Int} (h : RowAt w ao n cap xs) {B g : Nat} (hf : Fresh B ao) (hg : g < B) (q : Nat) (u : Value) : RowAt (w.setCell ⟨g, q, none⟩ u) ao n cap xs := by
  refine ⟨h.len, h.limbs, h.fits, h.most, h.bare, fun hne => ?_⟩
  obtain ⟨b, off, e, hb, hc⟩ := h.cells hne
  have hbg : b ≠ g := by have := hf _ e; simp at this; omega
  refine ⟨b, off, e, by simpa [World.setCell] using hb, fun j hj => ?_⟩
  rw [World.cell?_of_block (w := w) (Below.heap_setCell w ⟨g, q, none⟩ u b hbg)]
  exact hc j hj

theorem shift_dn (v : Int) (up : Nat) (h : up ≤ 63) : shiftI v (-(up : Int)) = v / 2 ^ up := by
  cases up with
  | zero => rw [shiftI, if_neg (by omega), if_neg (by omega), show (min (-((0 : Nat) : Int)) 1000).toNat = 0 by omega]; simp
  | succ k => rw [shiftI, if_neg (by omega), if_pos (by omega), show (-(-((k + 1 : Nat) : Int))).toNat = k + 1 by omega]

theorem set_row {qs : List Int} {k : Nat} {d : Int} (hk : k < qs.length) (t : Nat) : (if t = k then Value.int .u64 d else Value.int .u64 (qs.getD t 0)) = Value.int .u64 ((qs.set k d).getD t 0) := by
  by_cases h : t = k
  · subst h; simp [hk]
  · rw [if_neg h, List.getD_eq_getElem?_getD, List.getD_eq_getElem?_getD, List.getElem?_set_ne (by omega)]

theorem DivRel.next {w2 : World} {m n k : Nat} {As : List Int} {V : Int} {ro so : Option Addr} {nr cr sm sc : Nat} {qs rs ss : List Int} {wr w7 w8 : World} {d : Int} (h : DivRel w2 m n (k + 1) As V ro nr cr qs rs wr) (hA : Limbs As) (hk : k < m) (hV : V < BB ^ (n + 1)) (hs : w2.heap.size < wr.heap.size) (hd : d = (lim As k + BB * val rs) / V)
    (hb : Below wr.heap.size wr w7) (hb8 : Below w7.heap.size w7 w8) (hf : Fresh w7.heap.size so) (hss : RowAt w8 so sm sc ss) (hn : Num ss (lim As k + BB * val rs - V * d)) :
    DivRel w2 m n k As V so sm sc (qs.set k d) ss (w8.setCell ⟨w2.heap.size, k, none⟩ (.int .u64 d)) := by
  obtain ⟨h1, h2, h3, h4⟩ := h
  have hbb : Below wr.heap.size wr w8 := hb.trans (hb8.mono hb.size)
  refine ⟨hss.far hf (Nat.lt_of_lt_of_le hs hb.size) _ _, ?_, (h3.trans (hbb.mono (Nat.le_of_lt hs))).setCell (Nat.le_refl _) _, div_next h4 hA hk hV hd hn⟩
  exact World.rowIs.congr (World.rowIs.set (h2.of_block (hbb.block _ hs)) k _) (fun t _ => set_row (by rw [h4.len]; exact hk) t)

/-- A guess is just right, once what it asks for is there. -/
theorem just {V q R d : Int} (hV : 0 < V) (hd : d = R / V) (hq : d ≤ q) (hle : V * q ≤ R) : q = d := by
  have : q ≤ R / V := by rw [Int.le_ediv_iff_mul_le hV, Int.mul_comm]; exact hle
  omega
theorem more {V q R d : Int} (hV : 0 < V) (hd : d = R / V) (hlt : R < V * q) : d ≤ q - 1 := by
  have : R / V < q := by rw [Int.ediv_lt_iff_lt_mul hV, Int.mul_comm]; exact hlt
  omega

set_option maxRecDepth 100000 in
set_option maxHeartbeats 4000000 in
theorem divide_fresh (ao bo : Option Addr) (na ca nb cb : Nat) (xs ys : List Int) (w : World) (ha : RowAt w ao na ca xs) (hb : RowAt w bo nb cb ys) (hna : na ≤ 1000) (hnb : nb ≤ 1000) (tx : Trim xs) (ty : Trim ys) (hy : ys ≠ []) :
    Calls Tryz.prog 86 #[.slice ao na ca, .slice bo nb cb] w fun e w' => ∃ qo qn qc qs ro rn rc rs, e = .returned (.tuple #[.slice qo qn qc, .slice ro rn rc]) ∧ RowAt w' qo qn qc qs ∧ RowAt w' ro rn rc rs ∧ Num qs (val xs / val ys) ∧ Num rs (val xs % val ys) ∧ Below w.heap.size w w' ∧ Fresh w.heap.size qo := by
  obtain ⟨n, hn⟩ : ∃ n, nb = n + 1 := by
    have := hb.len
    cases nb with
    | zero => exact absurd (List.length_eq_zero_iff.1 this) hy
    | succ n => exact ⟨n, rfl⟩
  subst hn
  obtain ⟨bb, boff, rfl, hblt, hbc⟩ := hb.cells hy
  have hck := hbc n (by have := hb.len; omega)
  rw [← lim_nat] at hck
  obtain ⟨x, hx⟩ : ∃ x, x = lim ys n := ⟨_, rfl⟩
  rw [← hx] at hck
  have hx0 : 0 < x := by
    have h1 := ty n hb.len
    have h2 := (lim_bd hb.limbs n).1
    rw [← lim_nat, ← hx] at h1
    rw [← hx] at h2
    omega
  have hx1 : x < BB := by rw [hx]; exact (lim_bd hb.limbs n).2
  obtain ⟨up, hup⟩ : ∃ up, up = 64 - bitLen x.toNat := ⟨_, rfl⟩
  have hlead := lead_up hx0 hx1
  rw [← hup] at hlead
  have HUP : Hid (up = 64 - bitLen x.toNat) := hup
  have HX : Hid (x = lim ys n) := hx
  have HX1 : Hid (x < BB) := hx1
  have HA : Hid _ := ha
  have HB : Hid _ := hb
  have hu63 := hlead.2.2
  have HLD : Hid (9223372036854775808 ≤ x * 2 ^ up ∧ (x + 1) * 2 ^ up ≤ BB) := ⟨hlead.1, hlead.2.1⟩
  have HTX : Hid (Trim xs) := tx
  have HTY : Hid (Trim ys) := ty
  have hck' : (w.alloc (Obj.cells #[Value.slice (some ⟨bb, boff, none⟩) (n + 1) cb] 22)).cell? ⟨bb, boff + n, none⟩ = some (.int .u64 x) := (Below.cell ((Below.refl w.heap.size w).alloc (Nat.le_refl _) _) (p := ⟨bb, boff + n, none⟩) hblt).trans hck
  clear ha hb hup hx hx1 hlead tx ty hbc hy hck
  go_enter Tryz.func86, Tryz.ntmps86
  go_wp2
  go_step3
  go_wp2_with fail
  refine (lead_any x _ (by omega) HX1.out).mono ?_
  rintro e w1 ⟨rfl, rfl⟩
  rw [← HUP.out]
  go_upto_region 2 with fail
  go_cut [0] from 22 to 27 (fun s0 wc => ∃ Ao nA cA As Bo nB cB Bs, s0 = .slice Ao nA cA ∧ DivSt w wc w.heap.size Ao nA cA As Bo nB cB Bs (val xs * 2 ^ up) (val ys * 2 ^ up))
  case first =>
    have h0 : Below w.heap.size w (w.alloc (Obj.cells #[Value.slice (some ⟨bb, boff, none⟩) (n + 1) cb] 22)).drew := ((Below.refl _ _).alloc (Nat.le_refl _) _).drew
    have h1 : (w.alloc (Obj.cells #[Value.slice (some ⟨bb, boff, none⟩) (n + 1) cb] 22)).drew.heap[w.heap.size]? = some (.cells #[Value.slice (some ⟨bb, boff, none⟩) (n + 1) cb] 22 (0, 0)) := heap_alloc_new w _
    have H0 : Hid _ := h0
    have H1 : Hid _ := h1
    clear h0 h1 hck'
    go_region_with (first
      | (go_at_call_of 101 (Value.slice ao na ca); refine (shift_any _ _ _ _ xs _ ?_ ?_ ?_ ?_).mono ?_; exact HA.out.below H0.out; omega; omega; omega; rintro e wA ⟨Ao, nA, cA, As, rfl, a1, a2, a3, a4⟩; have hA := heapAt a4 (lt_of_block H1.out) H1.out; have hA' := cell_of_one hA; have bA := H0.out.trans (a4.mono H0.out.size))
      | (go_at_call 101; refine (shift_any _ _ _ _ ys _ (HB.out.below bA) ?_ ?_ ?_).mono ?_; omega; omega; omega; rintro e wB ⟨Bo, nB, cB, Bs, rfl, b1, b2, b3, b4⟩; have hB := heapAt b4 (lt_of_block hA) hA; have hB' := cell_of_one hB; have hBf := free_of_one hB; have bB := bA.trans (b4.mono bA.size)))
    all_goals
      have HZ : Hid (DivSt w (wB.setCell ⟨w.heap.size, 0, none⟩ (Value.slice Bo nB cB)) w.heap.size Ao nA cA As Bo nB cB Bs (val xs * 2 ^ up) (val ys * 2 ^ up)) := by
        rw [shift_up _ _ hu63] at a2 b2
        exact ⟨(a1.below b4).apart1 hB (by simp) _, b1.apart1 hB (by simp) _, a2, b2, one_setCell hB, bB.setCell (Nat.le_refl _) _, by omega, by omega⟩
      clear a1 a2 a3 a4 b1 b2 b3 b4 hA hA' hB hB' hBf bA bB H0 H1
      go_wp2_with fail
      go_meet
      exact ⟨Ao, nA, cA, As, Bo, nB, cB, Bs, rfl, HZ.out⟩
  case rest =>
    rename World => w2
    obtain ⟨Ao, nA, cA, As, Bo, nB, cB, Bs, rfl, hst⟩ := hcut
    have hnl := norm_len HB.out.limbs HB.out.len (Int.pow_pos (by omega)) (by rw [← HX.out]; exact HLD.out.1) (by rw [← HX.out]; exact HLD.out.2) hst.sB
    obtain rfl : nB = n + 1 := by have := hst.B.len; omega
    obtain ⟨Bb, Boff, rfl, hBlt, hBc⟩ := hst.B.cells (by intro e; have := hnl.1; rw [e] at this; simp at this)
    have hcell := cell_of_one hst.blk
    have hfewA := hst.few
    have HST : Hid (DivSt w w2 w.heap.size Ao nA cA As (some ⟨Bb, Boff, none⟩) (n + 1) cB Bs (val xs * 2 ^ up) (val ys * 2 ^ up)) := hst
    have HNL : Hid (Bs.length = n + 1 ∧ 9223372036854775808 ≤ lim Bs n) := hnl
    obtain ⟨m, hm⟩ : ∃ m, m = nA - n := ⟨_, rfl⟩
    have hmx : (if (nA : Int) - ((n : Int) + 1) + 1 < 0 then (0 : Int) else (nA : Int) - ((n : Int) + 1) + 1) = (m : Int) := by split <;> omega
    have HM : Hid (m = nA - n) := hm
    have hmA : m ≤ nA := by omega
    have hm2 : m ≤ 2000 := by omega
    clear hst hnl hck' hBc hm HLD HX HUP HX1
    go_upto_region 5 with fail
    go_cut [4, 5] from 36 to 40 (fun s4 s5 wd => ∃ ro nr cr, s4 = .slice (some ⟨w2.heap.size, 0, none⟩) m m ∧ s5 = .slice ro nr cr ∧ RowAt wd ro nr cr (As.drop m) ∧ wd.rowIs w2.heap.size 24 m (fun _ => .int .u64 0) ∧ Below w2.heap.size w2 wd)
    case first =>
      have hmk := run_make_row' (P := Tryz.prog) 22 24 (.int .u64 0) 8 Tryz.underlying22 Tryz.info24 rfl .i64 .i64 m (by omega) (by omega)
      have hfit : (nA : Int) ≤ (cA : Int) := by have := HST.out.A.fits; omega
      have hfit2 : (m : Int) ≤ (cA : Int) := by have := HST.out.A.fits; omega
      have hfit3 : (m : Int) ≤ (nA : Int) := by omega
      have HBD : Hid (Below w2.heap.size w2 (w2.alloc (Obj.cells (madeCells #[Value.int IntKind.u64 0] m) 24)).drew) := ((Below.refl _ _).alloc (Nat.le_refl _) _).drew
      have HRW : Hid ((w2.alloc (Obj.cells (madeCells #[Value.int IntKind.u64 0] m) 24)).drew.rowIs w2.heap.size 24 m (fun _ => .int .u64 0)) := World.rowIs_made w2 _ m 24
      cases Ao with
      | none =>
        have HSK : Hid (RowAt (w2.alloc (Obj.cells (madeCells #[Value.int IntKind.u64 0] m) 24)).drew none (nA - m) (cA - m) (As.drop m)) :=
          (HST.out.A.below HBD.out).skip m hmA (fun b off e => by cases e) (fun _ => by have := HST.out.A.bare rfl; omega)
        clear hcell
        go_region
        go_wp2_with fail
        go_meet
        exact ⟨_, nA - m, cA - m, rfl, rfl, HSK.out, HRW.out, HBD.out⟩
      | some ad =>
        have HSK : Hid (RowAt (w2.alloc (Obj.cells (madeCells #[Value.int IntKind.u64 0] m) 24)).drew (if cA = m then some ad else some (ad.add m)) (nA - m) (cA - m) (As.drop m)) :=
          (HST.out.A.below HBD.out).skip m hmA (fun b off e hl => by cases e; rw [if_neg (by omega)]; simp [Addr.add]) (fun e => by split at e <;> cases e)
        clear hcell
        go_region
        generalize (if cA = m then some ad else some (ad.add m)) = so at HSK ⊢
        go_wp2_with fail
        go_meet
        exact ⟨_, nA - m, cA - m, rfl, rfl, HSK.out, HRW.out, HBD.out⟩
    case rest =>
      obtain ⟨ro, nr, cr, rfl, rfl, hro, hrow, hbd⟩ := hcut
      have hD0 : DivInv As (val Bs) (n + 1) m m (List.replicate m 0) (As.drop m) := div_start HST.out.A.limbs HST.out.B.limbs HNL.out.1 HST.out.sB.trim rfl (by rw [HST.out.A.len]; exact HM.out)
      have HR0 : Hid (DivRel w2 m n m As (val Bs) ro nr cr (List.replicate m 0) (As.drop m) wc) := ⟨hro, World.rowIs.congr hrow (fun t _ => by simp only [← lim_nat, lim_zeros]), hbd, hD0⟩
      clear hro hrow hbd hD0 hmx
      go_wp2
      go_step3
      go_wp2_with fail
      go_loopg [5, 9] m (fun k s5 s9 wr => ∃ (j : Nat) (i : Int) (ro : Option Addr) (nr cr : Nat) (qs rs : List Int), j ≤ m ∧ j ≤ k ∧ i = (j : Int) - 1 ∧ s9 = .int .i64 i ∧ s5 = .slice ro nr cr ∧ DivRel w2 m n j As (val Bs) ro nr cr qs rs wr)
      case atStart => exact ⟨m, _, ro, nr, cr, _, _, Nat.le_refl _, Nat.le_refl _, rfl, rfl, rfl, HR0.out⟩
      case round =>
        clear HR0 ro nr cr
        obtain ⟨j, i, ro, nr, cr, qs, rs, hjm, hjk, hij, rfl, rfl, hrel⟩ := hrel
        have HREL : Hid (DivRel w2 m n j As (val Bs) ro nr cr qs rs wr) := hrel
        clear hrel
        cases j with
        | zero =>
          obtain rfl : i = -1 := by omega
          clear hij
          have hqr := HREL.out.2.1
          have hqn := HREL.out.2.2.2.len
          have HQR : Hid (RowAt wr (some ⟨w2.heap.size, 0, none⟩) m m qs) := ⟨hqn, HREL.out.2.2.2.limbs, Nat.le_refl _, by unfold maxLen; omega, by simp, fun _ => ⟨_, _, rfl, hqr.lt, fun j hj => by rw [Nat.zero_add]; exact hqr.cell (by omega)⟩⟩
          have hwle : w.heap.size ≤ w2.heap.size := HST.out.bel.size
          have HWR : Hid (Below w.heap.size w wr) := HST.out.bel.trans (HREL.out.2.2.1.mono hwle)
          have hnr : nr ≤ 2000 := by have := HREL.out.1.len; have := HREL.out.2.2.2.rlen; omega
          have hyp : 0 < val ys := by
            have := val_ge HB.out.limbs HTY.out n HB.out.len
            have := pw_pos n
            omega
          have hen := div_end HREL.out.2.2.2 (P := 2 ^ up) (a := val xs) (b := val ys) (Int.pow_pos (by omega)) hyp HST.out.sA.val HST.out.sB.val
          have HEN : Hid (val qs = val xs / val ys ∧ val rs / 2 ^ up = val xs % val ys) := ⟨hen.1, hen.2.1⟩
          clear hqr hqn hyp hen
          go_wp2_with fail
          refine (trim_fresh _ _ _ qs _ HQR.out (by omega)).mono ?_
          rintro e w9 ⟨qo, qn, qc, q2, rfl, t1, t2, t3, t4, t5⟩
          have T5 : Hid (Fresh w.heap.size qo) := t5.mono HWR.out.size
          clear t5
          have T1 : Hid _ := t1
          have T2 : Hid (Num q2 (val qs)) := t2
          have T4 : Hid (Below wr.heap.size wr w9) := t4
          clear t1 t2 t3 t4
          go_wp2_with fail
          refine (shift_any _ _ _ (-(up : Int)) rs _ (HREL.out.1.below T4.out) (by omega) (by omega) (by omega)).mono ?_
          rintro e w10 ⟨so, sn, sc, s2, rfl, t1, t2, t3, t4⟩
          have S1 : Hid _ := t1
          have S2 : Hid (Num s2 (shiftI (val rs) (-(up : Int)))) := t2
          have S4 : Hid (Below w9.heap.size w9 w10) := t4
          clear t1 t2 t3 t4
          go_wp2_with fail
          rw [Exit.noGoto_ret]
          go_ret2
          refine ⟨qo, qn, qc, q2, so, sn, sc, s2, rfl, T1.out.below S4.out, S1.out, ?_, ?_, HWR.out.trans ((T4.out.trans (S4.out.mono T4.out.size)).mono HWR.out.size), T5.out⟩
          · have h := T2.out
            rw [HEN.out.1] at h
            exact h
          · have h := S2.out
            rw [shift_dn _ _ hu63, HEN.out.2] at h
            exact h
        | succ k =>
          obtain rfl : i = (k : Int) := by omega
          clear hij
          obtain ⟨N, hN⟩ : ∃ N : Nat, (n : Int) + 1 + 1 = (N : Int) := ⟨n + 2, by omega⟩
          have hmk := run_make_row' (P := Tryz.prog) 22 24 (.int .u64 0) 8 Tryz.underlying22 Tryz.info24 rfl .i64 .i64 N (by omega) (by omega)
          have hnN : N = n + 2 := by omega
          have HNN : Hid (N = n + 2) := hnN
          obtain ⟨Ab, Aoff, rfl, hAlt, hAc⟩ := HST.out.A.cells (by intro e; have := HST.out.A.len; rw [e] at this; simp at this; omega)
          have hak := hAc k (by rw [HST.out.A.len]; omega)
          rw [← lim_nat] at hak
          obtain ⟨xk, hxk⟩ : ∃ v, v = lim As k := ⟨_, rfl⟩
          rw [← hxk] at hak
          have HXK : Hid (xk = lim As k) := hxk
          have hsz : w2.heap.size ≤ wr.heap.size := HREL.out.2.2.1.size
          have hkA : (k : Int) < (nA : Int) := by omega
          have hN0 : (0 : Int) < (N : Int) := by omega
          have hb2 : Below wr.heap.size wr ((wr.alloc (Obj.cells (madeCells #[Value.int IntKind.u64 0] N) 24)).alloc (Obj.cells #[Value.slice (some ⟨wr.heap.size, 0, none⟩) N N] 22)) := ((Below.refl _ _).alloc (Nat.le_refl _) _).alloc (by simp) _
          have hca : ((wr.alloc (Obj.cells (madeCells #[Value.int IntKind.u64 0] N) 24)).alloc (Obj.cells #[Value.slice (some ⟨wr.heap.size, 0, none⟩) N N] 22)).cell? ⟨Ab, Aoff + k, none⟩ = some (.int .u64 xk) :=
            (hb2.cell (p := ⟨Ab, Aoff + k, none⟩) (by show Ab < wr.heap.size; omega)).trans ((HREL.out.2.2.1.cell (p := ⟨Ab, Aoff + k, none⟩) hAlt).trans hak)
          have hrw : ((wr.alloc (Obj.cells (madeCells #[Value.int IntKind.u64 0] N) 24)).alloc (Obj.cells #[Value.slice (some ⟨wr.heap.size, 0, none⟩) N N] 22)).rowIs wr.heap.size 24 N (fun _ => .int .u64 0) :=
            (World.rowIs_made wr (.int .u64 0) N 24).of_block (Below.heap_alloc _ _ _ (by simp))
          have hcr := hrw.cell (i := 0) (by omega)
          have hfr := hrw.frozen 0
          have HP := place_first wr N n xk hnN
          have HP' : Hid _ := HP
          clear hAc hak hxk hb2 hrw hnN HP
          go_upto_region 10 with fail
          go_cut [] from 43 to 89 (fun w5 => PlaceSt wr w5 N (xk :: List.replicate (n + 1) 0))
          case first =>
            go_region
            go_wp2_with fail
            go_meet
            exact HP'.out
          case rest =>
            rename World => w5
            have HC5 : Hid (PlaceSt wr w5 N (xk :: List.replicate (n + 1) 0)) := hcut
            have hbox := cell_of_one hcut.box
            have hN1 : ¬ N = 1 := by have := HNN.out; omega
            have hN2 : (1 : Int) ≤ (N : Int) := by omega
            have hrl := HREL.out.1.len
            have hrm := HREL.out.2.2.2.rlen
            have HRL : Hid (rs.length = nr ∧ nr ≤ n + 1) := ⟨hrl, by omega⟩
            clear hcut hca hcr hfr HP' hrl hrm hmk
            go_upto_region 11 with fail
            go_cut [] from 43 to 89 (fun w6 => PlaceSt wr w6 N (xk :: (rs ++ List.replicate (n + 1 - nr) 0)))
            case first =>
              by_cases hrs : rs = []
              · have HF : Hid (PlaceSt wr w5 N (xk :: (rs ++ List.replicate (n + 1 - nr) 0))) := by
                  have h := HRL.out.1
                  rw [hrs] at h
                  simp at h
                  rw [hrs, ← h]
                  exact HC5.out
                have HZ0 : Hid (nr = 0) := by show nr = 0; rw [← HRL.out.1, hrs]; rfl
                clear hrs
                go_wp2_with (refine wpList_copy_nothing rfl (.tmp 57) (.tmp 58) 22 22 rfl 24 Tryz.underlying22 Tryz.size24 _ _ _ _ _ _ rfl rfl (by have := HZ0.out; show min nr _ = 0; omega) ?_)
                go_wp2_with fail
                go_meet
                exact HF.out
              · obtain ⟨rb, roff, rfl, hrlt, hrc⟩ := HREL.out.1.cells hrs
                have hN3 : N - 1 = n + 1 := by have := HNN.out; omega
                have hmin : (rs.map (Value.int .u64)).length = Nat.min nr (N - 1) := by
                  have h1 := HRL.out.1
                  have h2 := HRL.out.2
                  rw [List.length_map, hN3]
                  show rs.length = min nr (n + 1)
                  omega
                have HMIN : Hid ((rs.map (Value.int .u64)).length = Nat.min nr (N - 1)) := hmin
                have HSRC : Hid (∀ j v, (rs.map (Value.int .u64))[j]? = some v → w5.cell? ((⟨rb, roff, none⟩ : Addr).add j) = some v) := by
                  intro j v hv
                  have hj : j < rs.length := by
                    rcases Nat.lt_or_ge j rs.length with h | h
                    · exact h
                    · rw [List.getElem?_eq_none (by simpa using h)] at hv; cases hv
                  have h1 := hrc j hj
                  have e : (⟨rb, roff, none⟩ : Addr).add j = ⟨rb, roff + j, none⟩ := by simp [Addr.add]
                  rw [e, HC5.out.bel.cell (p := ⟨rb, roff + j, none⟩) hrlt, h1]
                  simp [hj] at hv
                  simp [hj, ← hv]
                have HF : Hid (PlaceSt wr (w5.setRow wr.heap.size (((xk :: List.replicate (n + 1) 0).map (Value.int .u64)).take 1 ++ (rs.map (Value.int .u64) ++ ((xk :: List.replicate (n + 1) 0).map (Value.int .u64)).drop (1 + (rs.map (Value.int .u64)).length))).toArray) N (xk :: (rs ++ List.replicate (n + 1 - nr) 0))) := by
                  refine ⟨below_setRow HC5.out.bel (Nat.le_refl _) _, ?_, ?_⟩
                  · have h := HC5.out.blk.copied (rs := rs)
                    rw [List.drop_replicate, HRL.out.1] at h
                    exact h
                  · rw [setRow_other _ _ _ _ (by omega)]
                    exact HC5.out.box
                clear hmin hrc hN3
                go_wp2_with (refine wpList_copy_own rfl (.tmp 57) (.tmp 58) 22 22 rfl 24 Tryz.underlying22 Tryz.size24 wr.heap.size 1 _ _ ⟨rb, roff, none⟩ _ _ rfl rfl ((xk :: List.replicate (n + 1) 0).map (Value.int .u64)).toArray 24 HC5.out.blk (rs.map (Value.int .u64)) HMIN.out HSRC.out ?_ ?_ ?_)
                · have h1 := HRL.out; simp; omega
                · simp [Value.oneCell']
                · go_wp2_with fail
                  go_meet
                  exact HF.out
            case rest =>
              rename World => w6
              obtain ⟨zs, hzs⟩ : ∃ zs, zs = xk :: (rs ++ List.replicate (n + 1 - nr) 0) := ⟨_, rfl⟩
              rw [← hzs] at hcut
              have hxb := lim_bd HST.out.A.limbs k
              rw [← HXK.out] at hxb
              have hzl : Limbs zs := by
                rw [hzs]
                intro z hz
                rcases List.mem_cons.1 hz with h | h
                · rw [h]; exact hxb
                · exact limbs_app HREL.out.1.limbs (limbs_zeros _) z h
              have hzn : zs.length = N := by
                have h1 := HRL.out
                have h2 := HNN.out
                rw [hzs]; simp; omega
              have hzv : val zs = xk + BB * val rs := by rw [hzs, val, val_pad]
              have RZ : Hid (RowAt w6 (some ⟨wr.heap.size, 0, none⟩) N N zs) := hcut.blk.row hzl N hzn (by unfold maxLen; omega)
              have HC6 : Hid (PlaceSt wr w6 N zs) := hcut
              have HZV : Hid (val zs = xk + BB * val rs) := hzv
              have hbox6 := cell_of_one hcut.box
              have hwlt : w.heap.size < w2.heap.size := lt_of_block HST.out.blk
              have hb26 : Below w2.heap.size w2 w6 := HREL.out.2.2.1.trans (hcut.bel.mono hsz)
              have hbb6 : w6.cell? ⟨w.heap.size, 0, none⟩ = some (Value.slice (some ⟨Bb, Boff, none⟩) (n + 1) cB) := (hb26.cell (p := ⟨w.heap.size, 0, none⟩) hwlt).trans hcell
              have hz1 := RZ.out.cellAt (n + 1) (by have := HNN.out; omega)
              have hz0 := RZ.out.cellAt n (by have := HNN.out; omega)
              rw [Nat.zero_add] at hz1 hz0
              have hBn : w6.cell? ⟨Bb, Boff + n, none⟩ = some (.int .u64 (lim Bs n)) := (HST.out.B.below hb26).cellAt n (by omega)
              have lz1 := lim_bd hzl (n + 1 : Nat)
              have lz0 := lim_bd hzl n
              have lB := lim_bd HST.out.B.limbs n
              have lB0 := HNL.out.2
              obtain ⟨z1, ez1⟩ : ∃ v, v = lim zs (n + 1 : Nat) := ⟨_, rfl⟩
              obtain ⟨z0, ez0⟩ : ∃ v, v = lim zs n := ⟨_, rfl⟩
              obtain ⟨d0, ed0⟩ : ∃ v, v = lim Bs n := ⟨_, rfl⟩
              rw [← ez1] at hz1 lz1
              rw [← ez0] at hz0 lz0
              rw [← ed0] at hBn lB lB0
              obtain ⟨G, hG⟩ : ∃ G, G = guessI z1 z0 d0 := ⟨_, rfl⟩
              obtain ⟨V, hV⟩ : ∃ V, V = val Bs := ⟨_, rfl⟩
              have hVp : 0 < V := by
                have := val_ge HST.out.B.limbs HST.out.sB.trim n HST.out.B.len
                have := pw_pos n
                omega
              have hVl : V < BB ^ (n + 1) := by rw [hV, ← HNL.out.1]; exact (val_bd HST.out.B.limbs).2
              obtain ⟨d, hd⟩ : ∃ d, d = val zs / V := ⟨_, rfl⟩
              have hdr := div_row HREL.out.2.2.2 HST.out.A.limbs
              rw [← hV, ← HXK.out, ← hzv, ← hd] at hdr
              have hd0 : 0 ≤ d := by rw [hd]; exact Int.ediv_nonneg hdr.1 (by omega)
              have hGd : d ≤ G := by
                rw [hG, guessI]
                split
                · have := hdr.2; unfold BB at this; omega
                · rw [hd]
                  exact guess_least hzl (by rw [hzn]; exact HNN.out) HST.out.B.limbs HNL.out.1 hV (by rw [← ed0]; exact lB0) (by rw [ez1, ez0, ed0])
              have hGl : 0 ≤ G ∧ G < BB := by
                refine ⟨by omega, ?_⟩
                rw [hG, guessI]
                split
                · unfold BB; omega
                · have := lz0.2
                  exact Int.ediv_lt_of_lt_mul (by omega) (by have h1 : z1 + 1 ≤ d0 := by omega
                                                             have h2 := Int.mul_le_mul_of_nonneg_right h1 (Int.le_of_lt BB_pos)
                                                             rw [Int.add_mul, Int.one_mul, Int.mul_comm d0] at h2
                                                             omega)
              have HG : Hid (G = guessI z1 z0 d0) := hG
              have HDD : Hid (d = val zs / V ∧ 0 < V ∧ V = val Bs ∧ V < BB ^ (n + 1) ∧ d ≤ G) := ⟨hd, hVp, hV, hVl, hGd⟩
              have HLB : Hid ((0 ≤ z1 ∧ z1 < BB) ∧ (0 ≤ z0 ∧ z0 < BB) ∧ (0 ≤ d0 ∧ d0 < BB) ∧ 9223372036854775808 ≤ d0) := ⟨lz1, lz0, lB, lB0⟩
              have HGL : Hid (0 ≤ G ∧ G < BB) := hGl
              have H26 : Hid (Below w2.heap.size w2 w6) := hb26
              have hq1 : ((n : Int) + 1) < (N : Int) := by have := HNN.out; omega
              have hq2 : (n : Int) < (N : Int) := by have := HNN.out; omega
              have hq3 : IntKind.i64.wrap ((n : Int) + 1 - 1) = (n : Int) := by rw [IntKind.wrap_i64]; omega
              have hmf : ∀ (fn : Fn) (first cap : Array Value) (w : World), (Instr.makeFunc fn first cap).run Tryz.prog w = .ok (.func fn first cap) w := fun _ _ _ _ => rfl
              clear hcut hzl hzn hzv hzs hxb lz1 lz0 lB lB0 ez1 ez0 ed0 hG hV hVp hVl hd hdr hd0 hGd hGl hb26 HC5 hbox
              go_upto_region 13 with fail
              go_quiet ((go_at_call 104; refine Calls.quiet_of (guess_any z1 z0 d0 _ HLB.out.1.1 HLB.out.2.1.1 HLB.out.2.1.2 HLB.out.2.2.2 HLB.out.2.2.1.2)))
              rw [← HG.out]
              have HW7 : Hid (Below w6.heap.size w6 (w6.drewN nq)) := below_drewN (Below.refl _ _) nq
              clear hz1 hz0 hBn hq1 hq2 hq3 hbox6 hbb6
              go_wp2_with fail
              go_loopg [12] (G.toNat) (fun g s12 wq => ∃ q : Int, s12 = .int .u64 q ∧ d ≤ q ∧ q < BB ∧ q.toNat ≤ g ∧ Below w6.heap.size w6 wq)
              case atStart => exact ⟨G, rfl, HDD.out.2.2.2.2, HGL.out.2, Nat.le_refl _, HW7.out⟩
              case round =>
                rename World => w7
                rename Nat => gi
                obtain ⟨q, rfl, hdq, hqB, hqg, hb67⟩ := hrel
                have hd0 : 0 ≤ d := by
                  rw [HDD.out.1]
                  exact Int.ediv_nonneg (val_bd RZ.out.limbs).1 (Int.le_of_lt HDD.out.2.1)
                have hq0 : 0 ≤ q := by omega
                have HQ : Hid (d ≤ q ∧ 0 ≤ q ∧ q < BB ∧ q.toNat ≤ gi ∧ 0 ≤ d) := ⟨hdq, hq0, hqB, hqg, hd0⟩
                have HB67 : Hid (Below w6.heap.size w6 w7) := hb67
                have HRZ : Hid (RowAt w7 (some ⟨wr.heap.size, 0, none⟩) N N zs) := RZ.out.below hb67
                have HBZ : Hid (RowAt w7 (some ⟨Bb, Boff, none⟩) (n + 1) cB Bs) := (HST.out.B.below H26.out).below hb67
                have hlx : wr.heap.size + 1 < w7.heap.size := Nat.lt_of_lt_of_le (lt_of_block HC6.out.box) hb67.size
                have hly : w.heap.size < w7.heap.size := Nat.lt_of_lt_of_le (Nat.lt_of_lt_of_le hwlt H26.out.size) hb67.size
                have hcx : Hid (w7.cell? ⟨wr.heap.size + 1, 0, none⟩ = some (.slice (some ⟨wr.heap.size, 0, none⟩) N N)) := cell_of_one (heapAt hb67 (lt_of_block HC6.out.box) HC6.out.box)
                have hcy : Hid (w7.cell? ⟨w.heap.size, 0, none⟩ = some (.slice (some ⟨Bb, Boff, none⟩) (n + 1) cB)) :=
                  (hb67.cell (p := ⟨w.heap.size, 0, none⟩) (Nat.lt_of_lt_of_le hwlt H26.out.size)).trans ((H26.out.cell (p := ⟨w.heap.size, 0, none⟩) hwlt).trans hcell)
                have hNn : N ≤ 1002 := by have := HNN.out; omega
                have hs2 : w2.heap.size < wr.heap.size := HREL.out.2.1.lt
                have hbr7 : Below wr.heap.size wr w7 := HC6.out.bel.trans (hb67.mono HC6.out.bel.size)
                have HBR7 : Hid (Below wr.heap.size wr w7) := hbr7
                clear hdq hqB hqg hd0 hb67 hbr7
                by_cases hle : val Bs * q ≤ val zs
                · have HLE : Hid (val Bs * q ≤ val zs) := hle
                  clear hle
                  go_wp2_with fail
                  refine (less_yes _ _ _ _ _ _ _ _ zs Bs q _ HRZ.out HBZ.out (by omega) (by omega) HQ.out.2.1 HQ.out.2.2.1 hcx.out hcy.out hlx hly HLE.out).mono ?_
                  rintro e w8 ⟨so, sm, sc, ss, rfl, g1, g2, g3, g4⟩
                  have hqd : q = d := just HDD.out.2.1 HDD.out.1 HQ.out.1 (by rw [HDD.out.2.2.1]; exact HLE.out)
                  have hqr : w8.rowIs w2.heap.size 24 m (fun t => .int .u64 (qs.getD t 0)) := (HREL.out.2.1.of_block (HBR7.out.block _ hs2)).of_block (g4.block _ (Nat.lt_of_lt_of_le hs2 HBR7.out.size))
                  have hqc := hqr.cell (i := k) (by omega)
                  have hqf := hqr.frozen k
                  have HN8 : Hid (DivRel w2 m n k As (val Bs) so sm sc (qs.set k q) ss (w8.setCell ⟨w2.heap.size, k, none⟩ (.int .u64 q))) := by
                    refine HREL.out.next HST.out.A.limbs (by omega) (by rw [← HDD.out.2.2.1]; exact HDD.out.2.2.2.1) hs2 ?_ HBR7.out g4 g3 g1 ?_
                    · rw [hqd, HDD.out.1, HZV.out, HXK.out, HDD.out.2.2.1]
                    · rw [← HXK.out, ← HZV.out]; exact g2
                  have hkm : (k : Int) < (m : Int) := by omega
                  clear g1 g2 g3 g4 hqd hqr
                  go_wp2_with fail
                  go_roundg k
                  case measure => omega
                  case rel => exact ⟨k, _, so, sm, sc, _, ss, by omega, Nat.le_refl _, rfl, rfl, rfl, HN8.out⟩
                · have HLT : Hid (val zs < val Bs * q) := Int.not_le.1 hle
                  clear hle
                  have hm1 := more HDD.out.2.1 HDD.out.1 (by rw [HDD.out.2.2.1]; exact HLT.out)
                  have HM1 : Hid (d ≤ q - 1) := hm1
                  have hq1 : 1 ≤ q := by have := HQ.out.2.2.2.2; omega
                  have hq2 : q ≤ 18446744073709551615 := by have := HQ.out.2.2.1; unfold BB at this; omega
                  clear hm1
                  go_wp2_with fail
                  refine (less_no _ _ _ _ _ _ _ _ zs Bs q _ HRZ.out HBZ.out (by omega) (by omega) HQ.out.2.1 HQ.out.2.2.1 hcx.out hcy.out hlx hly HLT.out).mono ?_
                  rintro e w8 ⟨so, sc, rfl, g4⟩
                  have HB8 : Hid (Below w6.heap.size w6 w8) := HB67.out.trans (g4.mono HB67.out.size)
                  clear g4
                  go_wp2_with fail
                  go_roundg ((q - 1).toNat)
                  case measure => have := HQ.out.2.2.2.1; omega
                  case rel => exact ⟨q - 1, rfl, HM1.out, by have := HQ.out.2.2.1; omega, Nat.le_refl _, HB8.out⟩
theorem divide_any (ao bo : Option Addr) (na ca nb cb : Nat) (xs ys : List Int) (w : World) (ha : RowAt w ao na ca xs) (hb : RowAt w bo nb cb ys) (hna : na ≤ 1000) (hnb : nb ≤ 1000) (tx : Trim xs) (ty : Trim ys) (hy : ys ≠ []) :
    Calls Tryz.prog 86 #[.slice ao na ca, .slice bo nb cb] w fun e w' => ∃ qo qn qc qs ro rn rc rs, e = .returned (.tuple #[.slice qo qn qc, .slice ro rn rc]) ∧ RowAt w' qo qn qc qs ∧ RowAt w' ro rn rc rs ∧ Num qs (val xs / val ys) ∧ Num rs (val xs % val ys) ∧ Below w.heap.size w w' :=
  (divide_fresh ao bo na ca nb cb xs ys w ha hb hna hnb tx ty hy).mono fun _ _ ⟨qo, qn, qc, qs, ro, rn, rc, rs, h0, h1, h2, h3, h4, h5, _⟩ => ⟨qo, qn, qc, qs, ro, rn, rc, rs, h0, h1, h2, h3, h4, h5⟩

end Go.Proofs.YtghnmfkgpkikfaaGreatDoor

/-! The reference's Trim. -/
namespace Go.Proofs.YtghnmfkgpkikfaaGreatDoor
open Go.RowKit

theorem ints_one (zs : List Int) : ∀ u ∈ zs.map (Value.int .u64), u.oneCell' = true := ints_oneCell .u64 zs

theorem owns0 (w : World) : (w.alloc (Obj.cells #[] 24)).ownsRow w.heap.size 24 1 (.slice (some ⟨w.heap.size, 0, none⟩) 0 0) 0 [] :=
  World.ownsRow_lit w #[] 0 (Nat.le_refl _) (by unfold maxLen; omega) rfl

theorem below_grown {w w1 : World} (o : Obj) {k : Nat} (hg : (w.alloc o).grownBy w1 (some k)) (hk : w.heap.size ≤ k) : Below w.heap.size w w1 :=
  ((Below.refl _ _).alloc (Nat.le_refl _) o).grown hg (by simp) (fun j hj => by cases hj; exact hk)

theorem Fresh.owns {w : World} {base : Nat} {v : Value} {n : Nat} {xs : List Value} (h : w.ownsRow base 24 1 v n xs) {ao : Option Addr} {m c : Nat} (e : v = .slice ao m c) : Fresh base ao := by
  rcases h.2 with ⟨rfl, h0⟩ | ⟨g, cap, cur, rfl, hg, _⟩
  · cases e; exact Fresh.none _
  · cases e; exact fun p hp => by cases hp; exact hg

set_option maxHeartbeats 400000 in
theorem rtrim_fresh (ao : Option Addr) (n cap : Nat) (xs : List Int) (w : World) (h : RowAt w ao n cap xs) (hn : n ≤ 900000) :
    Calls Tryz.prog 36 #[.slice ao n cap] w fun e w' => ∃ ro m cp r, e = .returned (.slice ro m cp) ∧ RowAt w' ro m cp r ∧ Num r (val xs) ∧ m ≤ n ∧ Fresh w.heap.size ro ∧ Below w.heap.size w w' := by
  obtain ⟨i0, hi, hz0, hz1, hz2⟩ := info_parts Tryz.info24
  have hcp := h.most
  have hfit := h.fits
  unfold maxLen at hcp
  by_cases h0 : n = 0
  · have hx : xs = [] := List.length_eq_zero_iff.1 (h.len.trans h0)
    have HX : Hid _ := hx
    have hbare := h.bare
    clear hx h
    subst h0
    have fin : ∀ w1 : World, (w1.ownsRow w.heap.size 24 1 (.slice (some ⟨w.heap.size, 0, none⟩) 0 0) 0 []) → RowAt w1 (some ⟨w.heap.size, 0, none⟩) 0 0 [] := fun w1 ho => by
      obtain ⟨a, c, e, hr⟩ := RowAt.owns (zs := []) ho (by intro x hx; simp at hx)
      cases e
      exact hr
    cases ao with
    | none =>
      obtain rfl := hbare rfl
      have HF : Hid _ := fin
      clear fin hbare
      go_enter Tryz.func36, Tryz.ntmps36
      go_wp2
      refine wp_loop_rounds 1 ?_
      rw [rounds_succ]
      go_wp2_with (at_builtin; refine wpList_append_own_none rfl (.tmp 20) (.tmp 23) 22 rfl w.heap.size 24 i0 1 Tryz.underlying22 hi _ 0 [] rfl (owns0 w) rfl ?_)
      go_ret
      exact ⟨_, _, _, _, rfl, HF.out _ (owns0 w), by rw [HX.out]; exact Num.nil, Nat.le_refl _, Fresh.at _ _, (Below.refl _ _).alloc (Nat.le_refl _) _⟩
    | some ad =>
      have HF : Hid _ := fin
      clear fin hbare
      go_enter Tryz.func36, Tryz.ntmps36
      go_wp2
      refine wp_loop_rounds 1 ?_
      rw [rounds_succ]
      go_wp2_with (at_builtin; refine wpList_append_own _ rfl (.tmp 20) (.tmp 23) 22 rfl w.heap.size 24 i0 (.int .u64 0) 1 8 Tryz.underlying22 hi hz0 hz1 hz2 rfl (by decide) _ 0 [] rfl (owns0 w) ad 0 cap [] rfl rfl (by intro j u hj; simp at hj) (by intro u hu; simp at hu) (by unfold maxLen; omega) (by omega) (by simp) ?_)
      intro v' w1 hown' hgrow _
      obtain ⟨a, c, e, hr⟩ := RowAt.owns (zs := []) hown' (by intro x hx; simp at hx)
      have HFR : Hid (Fresh w.heap.size a) := Fresh.owns hown' e
      rw [e]
      go_wp2
      go_ret
      exact ⟨_, _, _, _, rfl, hr, by rw [HX.out]; exact Num.nil, Nat.le_refl _, HFR.out, below_grown _ hgrow (Nat.le_refl _)⟩
  · obtain ⟨b, off, rfl, hlt, hc⟩ := h.cells (by intro e; have := h.len; rw [e] at this; simp at this; omega)
    have HL : Hid _ := h.len
    have HM : Hid _ := h.limbs
    have HC : Hid _ := hc
    clear h hc
    go_enter Tryz.func36, Tryz.ntmps36
    go_wp2
    go_loop [3] (fun i => ∃ k : Nat, k ≤ n ∧ i = .int .i64 k ∧ ∀ j, k ≤ j → xs.getD j 0 = 0) (fun i => (intOf i).toNat)
    case atStart => exact ⟨n, Nat.le_refl _, rfl, fun j hj => by simp [show xs.length ≤ j by have := HL.out; omega]⟩
    case round =>
      obtain ⟨k, hk, rfl, hz⟩ := hrel
      have HZ : Hid (∀ j, k ≤ j → xs.getD j 0 = 0) := hz
      clear hz
      have main : (k ≠ 0 → xs.getD (k - 1) 0 ≠ 0) → ∀ (v' : Value) (w1 : World), w1.ownsRow w.heap.size 24 1 v' (0 + k) ([] ++ (xs.take k).map (Value.int .u64)) → (w.alloc (Obj.cells #[] 24)).grownBy w1 (some w.heap.size) →
          ∃ ro m cp r, v' = .slice ro m cp ∧ RowAt w1 ro m cp r ∧ Num r (val xs) ∧ m ≤ n ∧ Fresh w.heap.size ro ∧ Below w.heap.size w w1 := fun htop v' w1 ho hg => by
        rw [Nat.zero_add, List.nil_append] at ho
        obtain ⟨a, c, e, hr⟩ := RowAt.owns ho (limbs_take HM.out k)
        exact ⟨a, k, c, _, e, hr, Num.ofTl HM.out ⟨by have := HL.out; omega, HZ.out, htop⟩, hk, Fresh.owns ho e, below_grown _ hg (Nat.le_refl _)⟩
      have hnews : ∀ j u, ((xs.take k).map (Value.int .u64))[j]? = some u → (w.alloc (Obj.cells #[] 24)).cell? ((⟨b, off, none⟩ : Addr).add j) = some u := fun j u hj => by
        have hjk : j < k := by
          rcases Nat.lt_or_ge j k with h' | h'
          · exact h'
          · rw [List.getElem?_eq_none (by simp; omega)] at hj; simp at hj
        have hjl : j < xs.length := by have := HL.out; omega
        rw [Addr.add_lit, World.cell?_alloc_past _ _ _ (by exact hlt), HC.out j hjl]
        simp [hjk, hjl] at hj
        simp [hjl, hj]
      have hnl : ((xs.take k).map (Value.int .u64)).length = k * 1 := by have := HL.out; simp; omega
      have MN : Hid _ := main
      have HN : Hid _ := hnews
      have HNL : Hid _ := hnl
      clear main hnews hnl
      by_cases hk0 : k = 0
      · subst hk0
        go_wp2_with (at_builtin; refine wpList_append_own _ rfl (.tmp 20) (.tmp 23) 22 rfl w.heap.size 24 i0 (.int .u64 0) 1 8 Tryz.underlying22 hi hz0 hz1 hz2 rfl (by decide) _ 0 [] rfl (owns0 w) ⟨b, off, none⟩ 0 cap ((xs.take 0).map (Value.int .u64)) rfl HNL.out HN.out (ints_one _) (by unfold maxLen; omega) (by omega) (by simp) ?_)
        intro v' w1 hown' hgrow _
        obtain ⟨ro, m, cp, r, e, h1⟩ := MN.out (by simp) v' w1 hown' hgrow
        rw [e]
        go_wp2
        go_ret
        exact ⟨ro, m, cp, r, rfl, h1⟩
      · obtain ⟨m, rfl⟩ := Nat.exists_eq_succ_of_ne_zero hk0
        have hck := HC.out m (by have := HL.out; omega)
        obtain ⟨x, hx⟩ : ∃ x, x = xs.getD m 0 := ⟨_, rfl⟩
        rw [← hx] at hck
        have HX : Hid (x = xs.getD m 0) := hx
        clear hx
        by_cases hx0 : x = 0
        · have HX0 : Hid (x = 0) := hx0
          have hb0 : (x == 0) = true := by simp [hx0]
          clear hx0
          go_wp2
          go_round
          case rel =>
            refine ⟨m, by omega, by go_num, fun j hj => ?_⟩
            by_cases e : j = m
            · rw [e, ← HX.out]; exact HX0.out
            · exact HZ.out j (by omega)
          case measure => simp [intOf]
        · have hb0 : (x == 0) = false := by simp [hx0]
          go_wp2_with (at_builtin; refine wpList_append_own _ rfl (.tmp 20) (.tmp 23) 22 rfl w.heap.size 24 i0 (.int .u64 0) 1 8 Tryz.underlying22 hi hz0 hz1 hz2 rfl (by decide) _ 0 [] rfl (owns0 w) ⟨b, off, none⟩ (m + 1) cap ((xs.take (m + 1)).map (Value.int .u64)) rfl HNL.out HN.out (ints_one _) (by unfold maxLen; omega) (by omega) (by simp) ?_)
          intro v' w1 hown' hgrow _
          obtain ⟨ro, m', cp, r, e, h1⟩ := MN.out (fun _ => by show xs.getD m 0 ≠ 0; rw [← HX.out]; exact hx0) v' w1 (by rw [Nat.zero_add, List.nil_append, List.map_take]; exact hown') hgrow
          rw [e]
          go_wp2
          go_ret
          exact ⟨ro, m', cp, r, rfl, h1⟩

theorem rtrim_any (ao : Option Addr) (n cap : Nat) (xs : List Int) (w : World) (h : RowAt w ao n cap xs) (hn : n ≤ 900000) :
    Calls Tryz.prog 36 #[.slice ao n cap] w fun e w' => ∃ ro m cp r, e = .returned (.slice ro m cp) ∧ RowAt w' ro m cp r ∧ Num r (val xs) ∧ m ≤ n ∧ Below w.heap.size w w' :=
  (rtrim_fresh ao n cap xs w h hn).mono fun _ _ ⟨ro, m, cp, r, h1, h2, h3, h4, _, h6⟩ => ⟨ro, m, cp, r, h1, h2, h3, h4, h6⟩
end Go.Proofs.YtghnmfkgpkikfaaGreatDoor

/-! The reference's at and Digits. -/
namespace Go.Proofs.YtghnmfkgpkikfaaGreatDoor
open Go.RowKit

set_option maxHeartbeats 400000 in
theorem rat_any (ao : Option Addr) (n cap : Nat) (xs : List Int) (i : Nat) (w : World) (h : RowAt w ao n cap xs) :
    Calls Tryz.prog 38 #[.slice ao n cap, .int .i64 i] w fun e w' => e = .returned (.int .u64 (lim xs i)) ∧ w' = w := by
  obtain rfl := h.len
  have hl : xs.length ≤ maxLen := Nat.le_trans h.fits h.most
  unfold maxLen at hl
  by_cases hk : i < xs.length
  · obtain ⟨b, off, rfl, hlt, hc⟩ := h.cells (by intro e; rw [e] at hk; simp at hk)
    have hck := hc i hk
    rw [← lim_nat] at hck
    clear hc h
    go_enter Tryz.func38, Tryz.ntmps38
    go_wp2
    go_ret
    exact ⟨rfl, rfl⟩
  · go_enter Tryz.func38, Tryz.ntmps38
    go_wp2
    go_ret
    exact ⟨ret_int (lim_past _ _ (by omega)).symm, rfl⟩

/-- A row that a call has made, at the head of its block. -/
def OwnR (w : World) (base g n cap : Nat) (zs : List Int) : Prop := w.ownsRow base 24 1 (.slice (some ⟨g, 0, none⟩) n cap) n (zs.map (Value.int .u64))

theorem OwnR.lt {w : World} {base g n cap : Nat} {zs : List Int} (h : OwnR w base g n cap zs) : base ≤ g ∧ g < w.heap.size := World.ownsRow.lt h g rfl
theorem OwnR.row {w : World} {base g n cap : Nat} {zs : List Int} (h : OwnR w base g n cap zs) (hl : Limbs zs) : RowAt w (some ⟨g, 0, none⟩) n cap zs := by
  obtain ⟨a, c, e, hr⟩ := RowAt.owns h hl
  cases e
  exact hr
theorem OwnR.nil (w : World) : OwnR (w.alloc (Obj.cells #[] 24)) w.heap.size w.heap.size 0 0 [] := owns0 w

set_option maxRecDepth 100000 in
set_option maxHeartbeats 1000000 in
theorem digits_any (ao : Option Addr) (n cap : Nat) (xs : List Int) (w : World) (h : RowAt w ao n cap xs) (hn : n ≤ 100000) :
    Calls Tryz.prog 37 #[.slice ao n cap] w fun e w' => ∃ ro cp, e = .returned (.slice ro (2 * n) cp) ∧ RowAt w' ro (2 * n) cp (hd xs) ∧ Below w.heap.size w w' := by
  obtain ⟨i0, hi, hz0, hz1, hz2⟩ := info_parts Tryz.info24
  by_cases h0 : n = 0
  · have hx : xs = [] := List.length_eq_zero_iff.1 (h.len.trans h0)
    subst h0
    subst hx
    have HR : Hid _ := (OwnR.nil w).row (by intro x hx; simp at hx)
    clear h
    go_enter Tryz.func37, Tryz.ntmps37
    go_wp2
    refine wp_loop_rounds 1 ?_
    rw [rounds_succ]
    go_wp2
    go_ret
    exact ⟨_, _, rfl, HR.out, (Below.refl _ _).alloc (Nat.le_refl _) _⟩
  · obtain ⟨b, off, rfl, hlt, hc⟩ := h.cells (by intro e; have := h.len; rw [e] at this; simp at this; omega)
    have HL : Hid (xs.length = n) := h.len
    have HM : Hid (Limbs xs) := h.limbs
    have HC : Hid _ := hc
    clear h hc
    go_enter Tryz.func37, Tryz.ntmps37
    go_wp2
    go_loopw [3, 4] (fun o i wr => ∃ k g c : Nat, k ≤ n ∧ i = .int .i64 k ∧ o = .slice (some ⟨g, 0, none⟩) (2 * k) c ∧ OwnR wr w.heap.size g (2 * k) c (hd (xs.take k)) ∧ Below w.heap.size w wr) (fun _ i _ => n - (intOf i).toNat)
    case atStart => exact ⟨0, w.heap.size, 0, Nat.zero_le _, rfl, rfl, OwnR.nil w, (Below.refl _ _).alloc (Nat.le_refl _) _⟩
    case round =>
      obtain ⟨k, g, c, hk, rfl, rfl, hown, hbel⟩ := hrel
      by_cases hlt2 : k < n
      · have hkl : k < xs.length := by have := HL.out; omega
        have hck : wr.cell? ⟨b, off + k, none⟩ = some (.int .u64 (xs.getD k 0)) := (hbel.cell (p := ⟨b, off + k, none⟩) hlt).trans (HC.out k hkl)
        have hxb : 0 ≤ xs.getD k 0 ∧ xs.getD k 0 < BB := by have := lim_bd HM.out k; rw [lim_nat] at this; exact this
        obtain ⟨x, hx⟩ : ∃ x, x = xs.getD k 0 := ⟨_, rfl⟩
        rw [← hx] at hck hxb
        have hx0 := hxb.1
        have hx1 : x ≤ 18446744073709551615 := by have := hxb.2; unfold BB at this; omega
        have hxs := hd_take xs k hkl
        rw [← hx] at hxs
        have HX : Hid (hd (xs.take (k + 1)) = hd (xs.take k) ++ [x % HH, x / HH]) := hxs
        have HO : Hid (OwnR wr w.heap.size g (2 * k) c (hd (xs.take k))) := hown
        have hsz : w.heap.size ≤ wr.heap.size := hbel.size
        have hgw := hown.lt
        have hbg : some b ≠ some g := by intro e; cases e; omega
        have g1 : (0 : Int) ≤ (k : Int) := by omega
        have g2 : (k : Int) < (n : Int) := by omega
        have HB : Hid (Below w.heap.size w wr) := hbel
        have hbw : b < wr.heap.size := by omega
        have ht1 : x.tmod 4294967296 = x % 4294967296 := Int.tmod_eq_emod_of_nonneg hx0
        have ht2 : IntKind.u64.wrap (x.tdiv 4294967296) = x / 4294967296 := IntWalk.u64_quo x 4294967296 ⟨hx0, hx1, by omega⟩
        clear hx hxb hxs hown hbel
        go_wp2
        go_region_held3 (fun w' => w'.cell? ⟨b, off + k, none⟩ = some (.int .u64 x)) (first | go_keep | (rw [hgrow.cell_far _ (by simp; omega) (by simpa [Value.ownBlock] using hbg)]; assumption))
          ((refine step_append_lies _ (by rfl) _ _ _ (by rfl) w.heap.size 24 i0 (.int .u64 0) 1 8 Tryz.underlying22 hi hz0 hz1 hz2 rfl (by omega) _ (2 * k) ((hd (xs.take k)).map (Value.int .u64)) (by rfl) ((HO.out.alloc _).drew) ⟨wr.heap.size, 0, none⟩ 2 2 [.int .u64 (x % 4294967296), .int .u64 (x / 4294967296)] (by rfl) (by rfl) (World.news_of_block (cs := #[.int .u64 (x % 4294967296), .int .u64 (x / 4294967296)]) (t := 24) (fr := (0, 0)) (heap_alloc_new wr _)) (by simp [Value.oneCell']) (by omega) (by unfold maxLen; omega) (by omega) (by simp; omega) (wr.heap.size + 1) (by simp) ?_; intro gg cp w1 hown1 hgrow hat hlt3))
        go_wp2
        go_roundw
        case rel =>
          refine ⟨k + 1, gg, cp, by omega, by go_num, rfl, ?_, ?_⟩
          · unfold OwnR
            rw [HX.out, List.map_append]
            exact hown1
          · exact (HB.out.alloc hsz _).drew.grown hgrow (by simp; omega) (fun j hj => by cases hj; exact hgw.1)
        case measure => simp [intOf]; omega
      · have hkn : k = n := by omega
        have HR : Hid (RowAt wr (some ⟨g, 0, none⟩) (2 * k) c (hd (xs.take k))) := hown.row (hd_halves (limbs_take HM.out k)).limbs
        have HB : Hid (Below w.heap.size w wr) := hbel
        have HK : Hid (k = n) := hkn
        clear hown hbel hkn
        go_wp2
        go_ret
        have hr := HR.out
        rw [HK.out, List.take_of_length_le (by rw [HL.out]; exact Nat.le_refl _)] at hr
        refine ⟨some ⟨g, 0, none⟩, c, ?_, hr, HB.out⟩
        rw [← HK.out]
        rfl
end Go.Proofs.YtghnmfkgpkikfaaGreatDoor

/-! The reference's Whole: halves put together. -/
namespace Go.Proofs.YtghnmfkgpkikfaaGreatDoor
open Go.RowKit

theorem hpv_pair (ds : List Int) (k : Nat) : hpv ds (2 * (k + 1)) = hpv ds (2 * k) + (lim ds ((2 * k : Nat) : Int) + lim ds ((2 * k + 1 : Nat) : Int) * HH) * BB ^ k := by
  rw [show 2 * (k + 1) = 2 * k + 1 + 1 by omega, hpv, hpv, hw_succ, hw_two]
  grind

theorem pair_bd {x y : Int} (hx0 : 0 ≤ x) (hx : x < HH) (hy0 : 0 ≤ y) (hy : y < HH) : 0 ≤ x + y * HH ∧ x + y * HH < BB := by unfold HH BB at *; omega

set_option maxRecDepth 100000 in
set_option maxHeartbeats 1000000 in
theorem whole_fresh (ao : Option Addr) (n cap : Nat) (ds : List Int) (w : World) (h : RowAt w ao n cap ds) (hh : Halves ds) (hn : n ≤ 200000) :
    Calls Tryz.prog 39 #[.slice ao n cap] w fun e w' => ∃ ro m cp r, e = .returned (.slice ro m cp) ∧ RowAt w' ro m cp r ∧ Num r (hval ds) ∧ m ≤ n ∧ Fresh w.heap.size ro ∧ Below w.heap.size w w' := by
  obtain ⟨i0, hi, hz0, hz1, hz2⟩ := info_parts Tryz.info24
  by_cases h0 : n = 0
  · have hx : ds = [] := List.length_eq_zero_iff.1 (h.len.trans h0)
    subst h0
    subst hx
    have HR : Hid (RowAt (w.alloc (Obj.cells #[] 24)) (some ⟨w.heap.size, 0, none⟩) 0 0 []) := (OwnR.nil w).row (by intro x hx; simp at hx)
    clear h
    go_enter Tryz.func39, Tryz.ntmps39
    go_wp2
    refine wp_loop_rounds 1 ?_
    rw [rounds_succ]
    go_wp2_with fail
    refine (rtrim_fresh _ _ _ [] _ HR.out (by omega)).mono ?_
    rintro e w1 ⟨ro, m, cp, r, rfl, h1, h2, h3, hf, h4⟩
    have HF : Hid (Fresh w.heap.size ro) := hf.mono (by simp)
    clear hf
    go_wp2
    go_ret
    exact ⟨ro, m, cp, r, rfl, h1, h2, h3, HF.out, chain ((Below.refl _ _).alloc (Nat.le_refl _) _) h4⟩
  · obtain ⟨b, off, rfl, hlt, hc⟩ := h.cells (by intro e; have := h.len; rw [e] at this; simp at this; omega)
    have HL : Hid (ds.length = n) := h.len
    have HM : Hid (Halves ds) := hh
    have HC : Hid (∀ j, j < n → w.cell? ⟨b, off + j, none⟩ = some (.int .u64 (lim ds j))) := fun j hj => by rw [hc j (by have := h.len; omega), lim_nat]
    clear h hc hh
    go_enter Tryz.func39, Tryz.ntmps39
    go_wp2
    go_loopw [3, 4, 5] (fun o i _ wr => ∃ (k g c : Nat) (zs : List Int), 2 * k ≤ n + 1 ∧ i = .int .i64 ((2 * k : Nat) : Int) ∧ o = .slice (some ⟨g, 0, none⟩) k c ∧ OwnR wr w.heap.size g k c zs ∧ Limbs zs ∧ zs.length = k ∧ val zs = hpv ds (2 * k) ∧ Below w.heap.size w wr) (fun _ i _ _ => n + 2 - (intOf i).toNat)
    case atStart => exact ⟨0, w.heap.size, 0, [], by omega, rfl, rfl, OwnR.nil w, by intro x hx; simp at hx, rfl, rfl, (Below.refl _ _).alloc (Nat.le_refl _) _⟩
    case round =>
      obtain ⟨k, g, c, zs, hk, rfl, rfl, hown, hlz, hzl, hval, hbel⟩ := hrel
      have HO : Hid (OwnR wr w.heap.size g k c zs) := hown
      have HB : Hid (Below w.heap.size w wr) := hbel
      have hgw := hown.lt
      have hsz : w.heap.size ≤ wr.heap.size := hbel.size
      have HZ : Hid (Limbs zs ∧ zs.length = k ∧ val zs = hpv ds (2 * k)) := ⟨hlz, hzl, hval⟩
      clear hlz hzl hval
      by_cases hlt2 : 2 * k < n
      · have hcx : wr.cell? ⟨b, off + 2 * k, none⟩ = some (.int .u64 (lim ds ((2 * k : Nat) : Int))) := (hbel.cell (p := ⟨b, off + 2 * k, none⟩) hlt).trans (HC.out (2 * k) hlt2)
        have bx := half_bd HM.out (2 * k)
        have bY := half_bd HM.out (2 * k + 1)
        have key : ∀ v, v = lim ds ((2 * k : Nat) : Int) + lim ds ((2 * k + 1 : Nat) : Int) * HH → ∀ (gg cp : Nat) (w1 : World), OwnR w1 w.heap.size gg (k + 1) cp (zs ++ [v]) → (wr.alloc (Obj.cells #[.int .u64 v] 24)).grownBy w1 (some g) →
            OwnR w1 w.heap.size gg (k + 1) cp (zs ++ [v]) ∧ Limbs (zs ++ [v]) ∧ (zs ++ [v]).length = k + 1 ∧ val (zs ++ [v]) = hpv ds (2 * (k + 1)) ∧ Below w.heap.size w w1 := by
          intro v hv gg cp w1 ho hg
          have hb := pair_bd bx.1 bx.2 bY.1 bY.2
          rw [← hv] at hb
          refine ⟨ho, limbs_snoc HZ.out.1 hb.1 hb.2, by simp [HZ.out.2.1], ?_, (HB.out.alloc hsz _).grown hg (by simp; omega) (fun j hj => by cases hj; exact hgw.1)⟩
          rw [val_snoc, HZ.out.2.2, HZ.out.2.1, hpv_pair, hv]
        have KEY : Hid _ := key
        clear key
        by_cases hlt3 : 2 * k + 1 < n
        · have hcy : wr.cell? ⟨b, off + (2 * k + 1), none⟩ = some (.int .u64 (lim ds ((2 * k + 1 : Nat) : Int))) := (hbel.cell (p := ⟨b, off + (2 * k + 1), none⟩) hlt).trans (HC.out (2 * k + 1) hlt3)
          obtain ⟨x, hx⟩ : ∃ x, x = lim ds ((2 * k : Nat) : Int) := ⟨_, rfl⟩
          obtain ⟨y, hy⟩ : ∃ y, y = lim ds ((2 * k + 1 : Nat) : Int) := ⟨_, rfl⟩
          rw [← hx] at hcx bx
          rw [← hy] at hcy bY
          have HV : Hid (x + y * 4294967296 = lim ds ((2 * k : Nat) : Int) + lim ds ((2 * k + 1 : Nat) : Int) * HH) := by rw [hx, hy]; rfl
          unfold HH at bx bY
          have x0 := bx.1
          have x1 := bx.2
          have y0 := bY.1
          have y1 := bY.2
          clear hx hy bx bY hown hbel
          go_wp2_with (at_builtin; refine wpList_append_lies _ rfl (.tmp 30) (.tmp 32) 22 rfl w.heap.size 24 i0 (.int .u64 0) 1 8 Tryz.underlying22 hi hz0 hz1 hz2 rfl (by decide) _ k (zs.map (Value.int .u64)) rfl (HO.out.alloc _) ⟨wr.heap.size, 0, none⟩ 1 1 [.int .u64 (x + y * 4294967296)] rfl rfl (World.news_of_block (cs := #[.int .u64 (x + y * 4294967296)]) (t := 24) (fr := (0, 0)) (heap_alloc_new wr _)) (by simp [Value.oneCell']) (by omega) (by unfold maxLen; omega) (by omega) (by simp; omega) (wr.heap.size + 1) (by simp) ?_)
          intro gg cp w1 hown1 hgrow _ _
          have hr := KEY.out (x + y * 4294967296) HV.out gg cp w1 (by unfold OwnR; rw [List.map_append]; exact hown1) hgrow
          have HR : Hid _ := hr
          clear hr hown1 hgrow
          go_wp2_with fail
          go_roundw
          case rel => exact ⟨k + 1, gg, cp, _, by omega, by go_num, rfl, HR.out⟩
          case measure => simp [intOf]; omega
        · obtain ⟨x, hx⟩ : ∃ x, x = lim ds ((2 * k : Nat) : Int) := ⟨_, rfl⟩
          rw [← hx] at hcx bx
          have HV : Hid (x = lim ds ((2 * k : Nat) : Int) + lim ds ((2 * k + 1 : Nat) : Int) * HH) := by
            rw [hx, lim_past ds (2 * k + 1) (by have := HL.out; omega)]
            show _ = _ + 0 * HH
            omega
          unfold HH at bx
          have x0 := bx.1
          have x1 := bx.2
          clear hx bx bY hown hbel
          go_wp2_with (at_builtin; refine wpList_append_lies _ rfl (.tmp 30) (.tmp 32) 22 rfl w.heap.size 24 i0 (.int .u64 0) 1 8 Tryz.underlying22 hi hz0 hz1 hz2 rfl (by decide) _ k (zs.map (Value.int .u64)) rfl (HO.out.alloc _) ⟨wr.heap.size, 0, none⟩ 1 1 [.int .u64 (x)] rfl rfl (World.news_of_block (cs := #[.int .u64 (x)]) (t := 24) (fr := (0, 0)) (heap_alloc_new wr _)) (by simp [Value.oneCell']) (by omega) (by unfold maxLen; omega) (by omega) (by simp; omega) (wr.heap.size + 1) (by simp) ?_)
          intro gg cp w1 hown1 hgrow _ _
          have hr := KEY.out (x) HV.out gg cp w1 (by unfold OwnR; rw [List.map_append]; exact hown1) hgrow
          have HR : Hid _ := hr
          clear hr hown1 hgrow
          go_wp2_with fail
          go_roundw
          case rel => exact ⟨k + 1, gg, cp, _, by omega, by go_num, rfl, HR.out⟩
          case measure => simp [intOf]; omega
      · have HR : Hid (RowAt wr (some ⟨g, 0, none⟩) k c zs) := hown.row HZ.out.1
        clear hown hbel
        go_wp2_with fail
        refine (rtrim_fresh _ _ _ zs _ HR.out (by omega)).mono ?_
        rintro e w1 ⟨ro, m, cp, r, rfl, h1, h2, h3, hf, h4⟩
        have HF : Hid (Fresh w.heap.size ro) := hf.mono HB.out.size
        clear hf
        go_wp2
        go_ret
        refine ⟨ro, m, cp, r, rfl, h1, ?_, by omega, HF.out, chain HB.out h4⟩
        rw [HZ.out.2.2, hpv_val ds _ (by have := HL.out; omega)] at h2
        exact h2

theorem whole_any (ao : Option Addr) (n cap : Nat) (ds : List Int) (w : World) (h : RowAt w ao n cap ds) (hh : Halves ds) (hn : n ≤ 200000) :
    Calls Tryz.prog 39 #[.slice ao n cap] w fun e w' => ∃ ro m cp r, e = .returned (.slice ro m cp) ∧ RowAt w' ro m cp r ∧ Num r (hval ds) ∧ m ≤ n ∧ Below w.heap.size w w' :=
  (whole_fresh ao n cap ds w h hh hn).mono fun _ _ ⟨ro, m, cp, r, h1, h2, h3, h4, _, h6⟩ => ⟨ro, m, cp, r, h1, h2, h3, h4, h6⟩
end Go.Proofs.YtghnmfkgpkikfaaGreatDoor

/-! limb.Cmp: below, the same, or above. -/
namespace Go.Proofs.YtghnmfkgpkikfaaGreatDoor
open Go.RowKit

/-- -1, 0 or 1, as a is below b, the same, or above. -/
def cmpI (a b : Int) : Int := if a < b then -1 else if a = b then 0 else 1

theorem pv_alike {xs ys : List Int} {m : Nat} (h : ∀ j : Nat, m ≤ j → lim xs j = lim ys j) (n : Nat) (hn : m ≤ n) : pv xs n - pv xs m = pv ys n - pv ys m := by
  induction n with
  | zero => obtain rfl : m = 0 := by omega
            rfl
  | succ n ih =>
    by_cases e : m = n + 1
    · rw [e]; omega
    · have := ih (by omega)
      rw [pv, pv, h n (by omega)]
      omega

theorem pv_less {xs ys : List Int} (hx : Limbs xs) (hy : Limbs ys) {m : Nat} (h : ∀ j : Nat, m + 1 ≤ j → lim xs j = lim ys j) (hlt : lim xs m < lim ys m) : val xs < val ys := by
  have h1 := pv_alike h (max (max xs.length ys.length) (m + 1)) (by omega)
  rw [pv_val xs _ (by omega), pv_val ys _ (by omega), pv, pv] at h1
  have b1 := pv_bd hx m
  have b2 := pv_bd hy m
  have h2 : lim xs m + 1 ≤ lim ys m := hlt
  have h3 := Int.mul_le_mul_of_nonneg_right h2 (Int.le_of_lt (pw_pos m))
  rw [Int.add_mul, Int.one_mul] at h3
  omega

theorem val_alike {xs ys : List Int} (h : ∀ j : Nat, lim xs j = lim ys j) : val xs = val ys := by
  have h1 := pv_alike (m := 0) (fun j _ => h j) (max xs.length ys.length) (Nat.zero_le _)
  rw [pv_val xs _ (by omega), pv_val ys _ (by omega)] at h1
  simp [pv] at h1
  exact h1

end Go.Proofs.YtghnmfkgpkikfaaGreatDoor

/-! limb.Bits and limb.Trim. -/
namespace Go.Proofs.YtghnmfkgpkikfaaGreatDoor
open Go.RowKit

/-- How many bits a number has. -/
def bitsI (v : Int) : Int := ((bitLen v.toNat : Nat) : Int)

theorem bits_top {xs : List Int} (hx : Limbs xs) {m : Nat} (ht : Tl xs (m + 1)) : bitsI (val xs) = ((m * 64 + bitLen (lim xs m).toNat : Nat) : Int) := by
  have hv : val xs = pv xs m + lim xs m * BB ^ m := by rw [← ht.val, val_take_pv xs _ ht.1, pv]
  have hb := pv_bd hx m
  have hl := lim_bd hx m
  have hne : lim xs m ≠ 0 := by have := ht.2.2 (by omega); rw [lim_nat]; simpa using this
  have hd : val xs / BB ^ m = lim xs m := by
    rw [hv, Int.add_mul_ediv_right _ _ (by have := pw_pos m; omega), Int.ediv_eq_zero_of_lt hb.1 hb.2]; omega
  have hle : BB ^ m ≤ val xs := by
    have h1 : (1 : Int) * BB ^ m ≤ lim xs m * BB ^ m := Int.mul_le_mul_of_nonneg_right (by omega) (Int.le_of_lt (pw_pos m))
    omega
  have hBm : BB ^ m = ((2 ^ (64 * m) : Nat) : Int) := by
    rw [BB_pow, ← Int.pow_mul]; simp
  have e := bitLen_up (val xs) (64 * m) (2 ^ (64 * m)) (by have := pw_pos m; omega) rfl (by rw [← hBm]; exact hle)
  rw [← hBm, hd] at e
  unfold bitsI
  rw [e]
  omega

end Go.Proofs.YtghnmfkgpkikfaaGreatDoor

/-! The reference's Cmp. -/
namespace Go.Proofs.YtghnmfkgpkikfaaGreatDoor
open Go.RowKit

set_option maxHeartbeats 400000 in
theorem rcmp_loop (ao bo : Option Addr) (na ca nb cb : Nat) (xs ys : List Int) (w : World) (ha : RowAt w ao na ca xs) (hb : RowAt w bo nb cb ys) (hna : na ≤ 900000) (hnb : nb ≤ 900000) :
    Calls Tryz.prog 66 #[.slice ao na ca, .slice bo nb cb] w fun e w' => e = .returned (.int .i64 (cmpI (val xs) (val ys))) ∧ w = w' := by
  have HA : Hid (RowAt w ao na ca xs) := ha
  have HB : Hid (RowAt w bo nb cb ys) := hb
  clear ha hb
  go_enter Tryz.func66, Tryz.ntmps66
  go_wp2
  all_goals
    go_loop [5] (fun i => ∃ k : Nat, k ≤ max na nb ∧ i = .int .i64 ((k : Int) - 1) ∧ ∀ j : Nat, k ≤ j → lim xs j = lim ys j) (fun i => (intOf i + 1).toNat)
    case atStart =>
      refine ⟨max na nb, Nat.le_refl _, by go_num, fun j hj => ?_⟩
      rw [lim_past _ _ (by have := HA.out.len; omega), lim_past _ _ (by have := HB.out.len; omega)]
    case round =>
      obtain ⟨k, hk, rfl, hz⟩ := hrel
      have HZ : Hid (∀ j : Nat, k ≤ j → lim xs j = lim ys j) := hz
      clear hz
      by_cases hk0 : k = 0
      · subst hk0
        go_wp2_with fail
        go_ret
        exact ⟨ret_int (by rw [cmpI, val_alike (fun j => HZ.out j (Nat.zero_le _)), if_neg (by omega), if_pos rfl]), rfl⟩
      · obtain ⟨m, rfl⟩ := Nat.exists_eq_succ_of_ne_zero hk0
        have hm : ((m.succ : Nat) : Int) - 1 = (m : Int) := by omega
        rw [hm]
        clear hm
        have hm2 : m + 1 ≤ max na nb := hk
        have LX : Hid (Limbs xs) := HA.out.limbs
        have LY : Hid (Limbs ys) := HB.out.limbs
        obtain ⟨x, hx⟩ : ∃ x, x = lim xs m := ⟨_, rfl⟩
        obtain ⟨y, hy⟩ : ∃ y, y = lim ys m := ⟨_, rfl⟩
        have HX : Hid (x = lim xs m) := hx
        have HY : Hid (y = lim ys m) := hy
        clear hx hy
        rcases Int.lt_trichotomy x y with hlt | heq | hgt
        · go_wp2_with fail
          refine (rat_any _ _ _ xs m _ HA.out).mono ?_
          rintro e w1 ⟨rfl, hw⟩
          rw [hw, ← HX.out]
          clear hw
          go_wp2_with fail
          refine (rat_any _ _ _ ys m _ HB.out).mono ?_
          rintro e w1 ⟨rfl, hw⟩
          rw [hw, ← HY.out]
          clear hw
          go_wp2_with fail
          go_ret
          exact ⟨ret_int (by rw [cmpI, if_pos (pv_less LX.out LY.out HZ.out (by rw [← HX.out, ← HY.out]; exact hlt))]), rfl⟩
        · have h1 : ¬ x < y := by omega
          have h2 : ¬ y < x := by omega
          have HE : Hid (x = y) := heq
          clear heq
          go_wp2_with fail
          refine (rat_any _ _ _ xs m _ HA.out).mono ?_
          rintro e w1 ⟨rfl, hw⟩
          rw [hw, ← HX.out]
          clear hw
          go_wp2_with fail
          refine (rat_any _ _ _ ys m _ HB.out).mono ?_
          rintro e w1 ⟨rfl, hw⟩
          rw [hw, ← HY.out]
          clear hw
          go_wp2_with fail
          refine (rat_any _ _ _ xs m _ HA.out).mono ?_
          rintro e w1 ⟨rfl, hw⟩
          rw [hw, ← HX.out]
          clear hw
          go_wp2_with fail
          refine (rat_any _ _ _ ys m _ HB.out).mono ?_
          rintro e w1 ⟨rfl, hw⟩
          rw [hw, ← HY.out]
          clear hw
          go_wp2_with fail
          go_round
          case rel =>
            refine ⟨m, by omega, by go_num, fun j hj => ?_⟩
            by_cases e : j = m
            · rw [e, ← HX.out, ← HY.out]; exact HE.out
            · exact HZ.out j (by show m + 1 ≤ j; omega)
          case measure => simp [intOf]
        · have h1 : ¬ x < y := by omega
          go_wp2_with fail
          refine (rat_any _ _ _ xs m _ HA.out).mono ?_
          rintro e w1 ⟨rfl, hw⟩
          rw [hw, ← HX.out]
          clear hw
          go_wp2_with fail
          refine (rat_any _ _ _ ys m _ HB.out).mono ?_
          rintro e w1 ⟨rfl, hw⟩
          rw [hw, ← HY.out]
          clear hw
          go_wp2_with fail
          refine (rat_any _ _ _ xs m _ HA.out).mono ?_
          rintro e w1 ⟨rfl, hw⟩
          rw [hw, ← HX.out]
          clear hw
          go_wp2_with fail
          refine (rat_any _ _ _ ys m _ HB.out).mono ?_
          rintro e w1 ⟨rfl, hw⟩
          rw [hw, ← HY.out]
          clear hw
          go_wp2_with fail
          go_ret
          have hv := pv_less LY.out LX.out (fun j hj => (HZ.out j hj).symm) (by rw [← HX.out, ← HY.out]; exact hgt)
          exact ⟨ret_int (by rw [cmpI, if_neg (by omega), if_neg (by omega)]), rfl⟩

theorem rcmp_val (ao bo : Option Addr) (na ca nb cb : Nat) (xs ys : List Int) (w : World) (ha : RowAt w ao na ca xs) (hb : RowAt w bo nb cb ys) (hna : na ≤ 900000) (hnb : nb ≤ 900000) (c : Int) (hc : c = cmpI (val xs) (val ys)) :
    Calls Tryz.prog 66 #[.slice ao na ca, .slice bo nb cb] w fun e w' => e = .returned (.int .i64 c) ∧ Below w.heap.size w w' :=
  (rcmp_loop ao bo na ca nb cb xs ys w ha hb hna hnb).mono fun _ _ hh => ⟨hh.1.trans (ret_int hc.symm), hh.2 ▸ Below.refl _ _⟩
/-- The reference's Trim's result: nothing, or a row whose last limb is not 0. -/
theorem rtrim_shape (ao : Option Addr) (na ca : Nat) (xs : List Int) (w : World) (ha : RowAt w ao na ca xs) (hna : na ≤ 900000) :
    Calls Tryz.prog 36 #[.slice ao na ca] w fun e w' => Below w.heap.size w w' ∧ ((∃ ro cap, e = .returned (.slice ro 0 cap) ∧ RowAt w' ro 0 cap [] ∧ Num [] (val xs)) ∨
      ∃ b off m cap r, e = .returned (.slice (some ⟨b, off, none⟩) (m + 1) cap) ∧ RowAt w' (some ⟨b, off, none⟩) (m + 1) cap r ∧ Num r (val xs) ∧ lim r m ≠ 0 ∧ m + 1 ≤ na) := by
  refine (rtrim_any ao na ca xs w ha hna).mono ?_
  rintro e w' ⟨ro, m, cap, r, rfl, h1, h2, h3, h4⟩
  refine ⟨h4, ?_⟩
  have hl := h1.len
  cases m with
  | zero =>
    obtain rfl := List.length_eq_zero_iff.1 hl
    exact .inl ⟨ro, cap, rfl, h1, h2⟩
  | succ m =>
    obtain ⟨b, off, rfl, _, _⟩ := h1.cells (by intro e; rw [e] at hl; simp at hl)
    exact .inr ⟨b, off, m, cap, r, rfl, h1, h2, by rw [lim_nat]; exact h2.trim m hl, h3⟩

end Go.Proofs.YtghnmfkgpkikfaaGreatDoor

/-! Layer 2's small functions, and the reference's: May, Of, Cmp, Same, held. -/
namespace Go.Proofs.YtghnmfkgpkikfaaGreatDoor
open Go.RowKit

theorem trim_iff {xs : List Int} (m : Nat) (h : xs.length = m + 1) : Trim xs ↔ lim xs m ≠ 0 := by
  rw [lim_nat]
  constructor
  · exact fun t => t m h
  · intro t n hn
    obtain rfl : n = m := by omega
    exact t

set_option maxHeartbeats 400000 in
/-- nat.May. -/
theorem may_val (ao : Option Addr) (n cap : Nat) (xs : List Int) (w : World) (h : RowAt w ao n cap xs) (b : Bool) (hb : b = true ↔ May xs) :
    Calls Tryz.prog 25 #[.slice ao n cap] w fun e w' => e = .returned (.bool b) ∧ w = w' := by
  have hl : n ≤ maxLen := Nat.le_trans h.fits h.most
  unfold maxLen at hl
  have hlen := h.len
  by_cases h8 : 8 < n
  · have h8' : ¬ (n : Int) ≤ 8 := by omega
    have hbe : b = false := by
      cases b with
      | false => rfl
      | true => have := (hb.1 rfl).1; omega
    have HB : Hid (b = false) := hbe
    clear hb h hlen hbe
    go_enter Tryz.func25, Tryz.ntmps25
    go_wp2
    go_ret
    exact ⟨ret_bool HB.out.symm, rfl⟩
  · cases n with
    | zero =>
      have HB : Hid (b = true) := hb.2 (by rw [List.length_eq_zero_iff.1 hlen]; exact May.nil)
      clear hb h hlen
      go_enter Tryz.func25, Tryz.ntmps25
      go_wp2
      go_ret
      exact ⟨ret_bool HB.out.symm, rfl⟩
    | succ m =>
      obtain ⟨q, off, rfl, hlt, hc⟩ := h.cells (by intro e; rw [e] at hlen; simp at hlen)
      have hck := hc m (by omega)
      rw [← lim_nat] at hck
      have ht := trim_iff m hlen
      obtain ⟨x, hx⟩ : ∃ x, x = lim xs m := ⟨_, rfl⟩
      rw [← hx] at hck ht
      have hbe : b = (x != 0) := by
        cases b with
        | false =>
          have : x = 0 := by
            rcases Decidable.em (x = 0) with e | e
            · exact e
            · exact absurd (hb.2 ⟨by omega, ht.2 e⟩) (by simp)
          simp [this]
        | true => simp [ht.1 (hb.1 rfl).2]
      have HB : Hid (b = (x != 0)) := hbe
      have h8' : ((m + 1 : Nat) : Int) ≤ 8 := by omega
      clear hb h hc ht hx hlen hbe
      go_enter Tryz.func25, Tryz.ntmps25
      go_wp2
      go_ret
      exact ⟨ret_bool HB.out.symm, rfl⟩

set_option maxHeartbeats 400000 in
/-- The reference's May. -/
theorem rmay_val (ao : Option Addr) (n cap : Nat) (xs : List Int) (w : World) (h : RowAt w ao n cap xs) (b : Bool) (hb : b = true ↔ May xs) :
    Calls Tryz.prog 28 #[.slice ao n cap] w fun e w' => e = .returned (.bool b) ∧ w = w' := by
  have hl : n ≤ maxLen := Nat.le_trans h.fits h.most
  unfold maxLen at hl
  have hlen := h.len
  by_cases h8 : 8 < n
  · have h8' : ¬ (n : Int) ≤ 8 := by omega
    have hbe : b = false := by
      cases b with
      | false => rfl
      | true => have := (hb.1 rfl).1; omega
    have HB : Hid (b = false) := hbe
    clear hb h hlen hbe
    go_enter Tryz.func28, Tryz.ntmps28
    go_wp2
    go_ret
    exact ⟨ret_bool HB.out.symm, rfl⟩
  · cases n with
    | zero =>
      have HB : Hid (b = true) := hb.2 (by rw [List.length_eq_zero_iff.1 hlen]; exact May.nil)
      clear hb h hlen
      go_enter Tryz.func28, Tryz.ntmps28
      go_wp2
      go_ret
      exact ⟨ret_bool HB.out.symm, rfl⟩
    | succ m =>
      obtain ⟨q, off, rfl, hlt, hc⟩ := h.cells (by intro e; rw [e] at hlen; simp at hlen)
      have hck := hc m (by omega)
      rw [← lim_nat] at hck
      have ht := trim_iff m hlen
      obtain ⟨x, hx⟩ : ∃ x, x = lim xs m := ⟨_, rfl⟩
      rw [← hx] at hck ht
      have hbe : b = (x != 0) := by
        cases b with
        | false =>
          have : x = 0 := by
            rcases Decidable.em (x = 0) with e | e
            · exact e
            · exact absurd (hb.2 ⟨by omega, ht.2 e⟩) (by simp)
          simp [this]
        | true => simp [ht.1 (hb.1 rfl).2]
      have HB : Hid (b = (x != 0)) := hbe
      have h8' : ((m + 1 : Nat) : Int) ≤ 8 := by omega
      clear hb h hc ht hx hlen hbe
      go_enter Tryz.func28, Tryz.ntmps28
      go_wp2
      go_ret
      exact ⟨ret_bool HB.out.symm, rfl⟩

set_option maxHeartbeats 400000 in
theorem of_any (x : Int) (w : World) (h0 : 0 ≤ x) (h1 : x < BB) :
    Calls Tryz.prog 43 #[.int .u64 x] w fun e w' => ∃ ro m cap r, e = .returned (.slice ro m cap) ∧ RowAt w' ro m cap r ∧ Num r x ∧ m ≤ 1 ∧ Below w.heap.size w w' := by
  have H : Hid (RowAt (w.alloc (Obj.cells #[.int .u64 x] 24)) (some ⟨w.heap.size, 0, none⟩) 1 1 [x]) := RowAt.laid w [x] (by intro y hy; simp at hy; subst hy; exact ⟨h0, h1⟩) (by simp [maxLen])
  go_enter Tryz.func43, Tryz.ntmps43
  go_wp2_with fail
  refine (trim_any _ _ _ [x] _ H.out (by omega)).mono ?_
  rintro e w1 ⟨ro, m, cap, r, rfl, g1, g2, g3, g4⟩
  rw [show val [x] = x by simp [val]] at g2
  have G : Hid (Num r x) := g2
  have G4 : Hid _ := g4
  clear g2 g4
  go_wp2
  go_ret
  exact ⟨ro, m, cap, r, rfl, g1, G.out, g3, chain ((Below.refl _ _).alloc (Nat.le_refl _) _) G4.out⟩

set_option maxHeartbeats 400000 in
theorem rof_any (x : Int) (w : World) (h0 : 0 ≤ x) (h1 : x < BB) :
    Calls Tryz.prog 49 #[.int .u64 x] w fun e w' => ∃ ro m cap r, e = .returned (.slice ro m cap) ∧ RowAt w' ro m cap r ∧ Num r x ∧ m ≤ 1 ∧ Below w.heap.size w w' := by
  have H : Hid (RowAt (w.alloc (Obj.cells #[.int .u64 x] 24)) (some ⟨w.heap.size, 0, none⟩) 1 1 [x]) := RowAt.laid w [x] (by intro y hy; simp at hy; subst hy; exact ⟨h0, h1⟩) (by simp [maxLen])
  go_enter Tryz.func49, Tryz.ntmps49
  go_wp2_with fail
  refine (rtrim_any _ _ _ [x] _ H.out (by omega)).mono ?_
  rintro e w1 ⟨ro, m, cap, r, rfl, g1, g2, g3, g4⟩
  rw [show val [x] = x by simp [val]] at g2
  have G : Hid (Num r x) := g2
  have G4 : Hid _ := g4
  clear g2 g4
  go_wp2
  go_ret
  exact ⟨ro, m, cap, r, rfl, g1, G.out, g3, chain ((Below.refl _ _).alloc (Nat.le_refl _) _) G4.out⟩

set_option maxHeartbeats 400000 in
theorem rnsame_any (ao bo : Option Addr) (na ca nb cb : Nat) (xs ys : List Int) (w : World) (ha : RowAt w ao na ca xs) (hb : RowAt w bo nb cb ys) :
    Calls Tryz.prog 15 #[.slice ao na ca, .slice bo nb cb] w fun e w' => e = .returned (.bool (decide (xs = ys))) ∧ Below w.heap.size w w' := by
  have HA : Hid _ := ha
  have HB : Hid _ := hb
  clear ha hb
  go_enter Tryz.func15, Tryz.ntmps15
  go_wp2_with fail
  refine (same_any _ _ _ _ _ _ xs ys _ HA.out HB.out).mono ?_
  rintro e w1 ⟨rfl, b1⟩
  have B1 : Hid _ := b1
  clear b1
  go_wp2
  go_ret
  exact ⟨rfl, B1.out.below (Below.refl _ _)⟩
theorem rnsame_yes (ao bo : Option Addr) (na ca nb cb : Nat) (xs ys : List Int) (w : World) (ha : RowAt w ao na ca xs) (hb : RowAt w bo nb cb ys) (h : xs = ys) :
    Calls Tryz.prog 15 #[.slice ao na ca, .slice bo nb cb] w fun e w' => e = .returned (.bool true) ∧ Below w.heap.size w w' :=
  (rnsame_any ao bo na ca nb cb xs ys w ha hb).mono fun _ _ hh => ⟨hh.1.trans (ret_bool (by simp [h])), hh.2⟩

theorem ret2 {v : Value} {a b : Int} (h : a = b) : Ending.returned (.tuple #[v, .int .i64 a]) = .returned (.tuple #[v, .int .i64 b]) := by rw [h]

end Go.Proofs.YtghnmfkgpkikfaaGreatDoor

/-! nat.within: it looks at both, and at what comes of it. -/
namespace Go.Proofs.YtghnmfkgpkikfaaGreatDoor
open Go.RowKit

/-- What an operation tells, ahead of any look at its size. -/
def Raw (neg : Prop) (v : Int) (r : List Int) (k : Int) : Prop := (neg ∧ k = 20) ∨ (¬ neg ∧ k = 0 ∧ Num r v)

set_option maxHeartbeats 1000000 in
theorem within_any (ao bo : Option Addr) (na ca nb cb : Nat) (xs ys : List Int) (K : Nat) (caps : Array Value) (neg : Prop) (v : Int) (w : World) (ha : RowAt w ao na ca xs) (hb : RowAt w bo nb cb ys)
    (heg : ∀ args w, (callFunc K args).run Tryz.prog w = .ok (.enter K args) w)
    (hop : May xs → May ys → Calls Tryz.prog K caps w fun e w' => ∃ ro m cap r k, e = .returned (.tuple #[.slice ro m cap, .int .i64 k]) ∧ RowAt w' ro m cap r ∧ Below w.heap.size w w' ∧ Raw neg v r k) :
    Calls Tryz.prog 59 #[.slice ao na ca, .slice bo nb cb, .func (.func K) #[] caps] w fun e w' => ∃ ro m cap r k, e = .returned (.tuple #[.slice ro m cap, .int .i64 k]) ∧ RowAt w' ro m cap r ∧ Out (May xs ∧ May ys) neg v r k ∧ Below w.heap.size w w' := by
  have HA : Hid _ := ha
  have HB : Hid _ := hb
  have HO : Hid _ := hop
  clear ha hb hop
  by_cases hx : May xs
  · have HX : Hid _ := hx
    clear hx
    by_cases hy : May ys
    · have HY : Hid _ := hy
      clear hy
      go_enter Tryz.func59, Tryz.ntmps59
      go_wp2_with fail
      refine (may_val _ _ _ xs _ HA.out true (yes_iff HX.out)).mono ?_
      rintro e w1 ⟨rfl, rfl⟩
      go_wp2_with fail
      refine (may_val _ _ _ ys _ HB.out true (yes_iff HY.out)).mono ?_
      rintro e w1 ⟨rfl, rfl⟩
      go_wp2_with fail
      refine (HO.out HX.out HY.out).mono ?_
      rintro e w1 ⟨ro, m, cap, r, k, rfl, h1, h2, h3⟩
      have H1 : Hid _ := h1
      have H2 : Hid _ := h2
      have H3 : Hid (Raw neg v r k) := h3
      clear h1 h2 h3
      rcases H3.out with ⟨hneg, hk⟩ | ⟨hneg, hk, hnum⟩
      · have HN : Hid neg := hneg
        clear hneg
        subst hk
        go_wp2
        go_ret2
        exact ⟨none, 0, 0, [], 20, rfl, RowAt.nil _, .minus ⟨HX.out, HY.out⟩ HN.out, H2.out⟩
      · have HN : Hid (¬ neg) := hneg
        have HU : Hid _ := hnum
        clear hneg hnum
        subst hk
        by_cases hbig : v < Big
        · have HG : Hid _ := hbig
          clear hbig
          go_wp2_with fail
          refine (may_val _ _ _ r _ H1.out true (yes_iff (HU.out.may.2 HG.out))).mono ?_
          rintro e w1 ⟨rfl, rfl⟩
          go_wp2
          go_ret2
          exact ⟨ro, m, cap, r, 0, rfl, H1.out, .fine r ⟨HX.out, HY.out⟩ HN.out HG.out HU.out, H2.out⟩
        · have HG : Hid _ := hbig
          clear hbig
          go_wp2_with fail
          refine (may_val _ _ _ r _ H1.out false (no_iff (fun h => HG.out (HU.out.may.1 h)))).mono ?_
          rintro e w1 ⟨rfl, rfl⟩
          go_wp2
          go_ret2
          exact ⟨none, 0, 0, [], 21, rfl, RowAt.nil _, .big ⟨HX.out, HY.out⟩ HN.out (Int.not_lt.1 HG.out), H2.out⟩
    · have HY : Hid _ := hy
      clear hy
      go_enter Tryz.func59, Tryz.ntmps59
      go_wp2_with fail
      refine (may_val _ _ _ xs _ HA.out true (yes_iff HX.out)).mono ?_
      rintro e w1 ⟨rfl, rfl⟩
      go_wp2_with fail
      refine (may_val _ _ _ ys _ HB.out false (no_iff HY.out)).mono ?_
      rintro e w1 ⟨rfl, rfl⟩
      go_wp2
      go_ret2
      exact ⟨none, 0, 0, [], 1, rfl, RowAt.nil _, .arg (fun h => HY.out h.2), Below.refl _ _⟩
  · have HX : Hid _ := hx
    clear hx
    go_enter Tryz.func59, Tryz.ntmps59
    go_wp2_with fail
    refine (may_val _ _ _ xs _ HA.out false (no_iff HX.out)).mono ?_
    rintro e w1 ⟨rfl, rfl⟩
    go_wp2
    go_ret2
    exact ⟨none, 0, 0, [], 1, rfl, RowAt.nil _, .arg (fun h => HX.out h.1), Below.refl _ _⟩

end Go.Proofs.YtghnmfkgpkikfaaGreatDoor

/-! nat.Add, nat.Sub, nat.Mul: by nat.within. -/
namespace Go.Proofs.YtghnmfkgpkikfaaGreatDoor
open Go.RowKit

set_option maxHeartbeats 1000000 in
theorem nmul1_any (ao bo : Option Addr) (na ca nb cb pa pb : Nat) (xs ys : List Int) (w : World) (ha : RowAt w ao na ca xs) (hb : RowAt w bo nb cb ys) (hna : na ≤ 8) (hnb : nb ≤ 8)
    (hpa : w.cell? ⟨pa, 0, none⟩ = some (.slice ao na ca)) (hpb : w.cell? ⟨pb, 0, none⟩ = some (.slice bo nb cb)) :
    Calls Tryz.prog 60 #[.pointer (some ⟨pa, 0, none⟩), .pointer (some ⟨pb, 0, none⟩)] w fun e w' =>
      ∃ ro m cap r k, e = .returned (.tuple #[.slice ro m cap, .int .i64 k]) ∧ RowAt w' ro m cap r ∧ Below w.heap.size w w' ∧ Raw False (val xs * val ys) r k := by
  have HA : Hid _ := ha
  have HB : Hid _ := hb
  clear ha hb
  go_enter Tryz.func60, Tryz.ntmps60
  go_wp2_with fail
  refine (mul_any _ _ _ _ _ _ xs ys _ HA.out HB.out (by omega) (by omega)).mono ?_
  rintro e w1 ⟨ro, m, cap, r, rfl, h1, h2, h3, h4⟩
  have H1 : Hid _ := h1
  have H2 : Hid (Num r (val xs * val ys)) := h2
  have H4 : Hid _ := h4
  clear h1 h2 h3 h4
  go_wp2
  go_ret2
  exact ⟨ro, m, cap, r, 0, rfl, H1.out, H4.out, .inr ⟨fun f => f, rfl, H2.out⟩⟩

set_option maxHeartbeats 1000000 in
theorem nmul_any (ao bo : Option Addr) (na ca nb cb : Nat) (xs ys : List Int) (w : World) (ha : RowAt w ao na ca xs) (hb : RowAt w bo nb cb ys) :
    Calls Tryz.prog 42 #[.slice ao na ca, .slice bo nb cb] w fun e w' => ∃ ro m cap r k, e = .returned (.tuple #[.slice ro m cap, .int .i64 k]) ∧ RowAt w' ro m cap r ∧ Out (May xs ∧ May ys) (False) (val xs * val ys) r k ∧ Below w.heap.size w w' := by
  have hmf : ∀ (fn : Fn) (first cap : Array Value) (w : World), (Instr.makeFunc fn first cap).run Tryz.prog w = .ok (.func fn first cap) w := fun _ _ _ _ => rfl
  have hb2 := below2 w (Obj.cells #[Value.slice ao na ca] 23) (Obj.cells #[Value.slice bo nb cb] 23)
  have ra := ha.below hb2
  have rb := hb.below hb2
  have ea : ((w.alloc (Obj.cells #[Value.slice ao na ca] 23)).alloc (Obj.cells #[Value.slice bo nb cb] 23)).heap[w.heap.size]? = some (.cells #[Value.slice ao na ca] 23 (0, 0)) := by
    rw [Below.heap_alloc _ _ _ (by simp)]; exact heap_alloc_new w _
  have eb : ((w.alloc (Obj.cells #[Value.slice ao na ca] 23)).alloc (Obj.cells #[Value.slice bo nb cb] 23)).heap[w.heap.size + 1]? = some (.cells #[Value.slice bo nb cb] 23 (0, 0)) := by
    have := heap_alloc_new (w.alloc (Obj.cells #[Value.slice ao na ca] 23)) (Obj.cells #[Value.slice bo nb cb] 23); simpa using this
  have H := within_any ao bo na ca nb cb xs ys 60 #[.pointer (some ⟨w.heap.size, 0, none⟩), .pointer (some ⟨w.heap.size + 1, 0, none⟩)] (False) (val xs * val ys) _ ra rb (fun _ _ => by simp)
    (fun hx hy => nmul1_any ao bo na ca nb cb w.heap.size (w.heap.size + 1) xs ys _ ra rb (by have := hx.1; have := ha.len; omega) (by have := hy.1; have := hb.len; omega) (cell_of_one ea) (cell_of_one eb))
  have ca' := cell_of_one ea
  have cb' := cell_of_one eb
  have HB2 : Hid _ := hb2
  have HH : Hid (∀ u : Unit, _) := fun _ => H
  clear H ra rb ha hb hb2 ea eb
  go_enter Tryz.func42, Tryz.ntmps42
  go_wp2_with fail
  refine (HH.out ()).mono ?_
  rintro e w1 ⟨ro, m, cap, r, k, rfl, h1, h2, h3⟩
  have H1 : Hid _ := h1
  have H2 : Hid (Out (May xs ∧ May ys) (False) (val xs * val ys) r k) := h2
  have H3 : Hid _ := h3
  clear h1 h2 h3 ca' cb'
  go_wp2
  go_ret2
  exact ⟨ro, m, cap, r, k, rfl, H1.out, H2.out, chain HB2.out H3.out⟩

end Go.Proofs.YtghnmfkgpkikfaaGreatDoor

/-! quot.Div, quot.Small, quot.Gcd, quot.Lcm. -/
namespace Go.Proofs.YtghnmfkgpkikfaaGreatDoor
open Go.RowKit

theorem Out.to {ok ok' neg : Prop} {v v' : Int} {r : List Int} {k : Int} (h : Out ok neg v r k) (ho : ok) (ho' : ok') (hv : v = v') : Out ok' neg v' r k := by
  subst hv
  exact ⟨fun n => absurd ho' n, fun _ n => h.is_minus' ho n, fun _ n b => h.is_big' ho n b, fun _ n b => h.is_fine' ho n b⟩

theorem val_zero {xs : List Int} (hl : Limbs xs) (hm : May xs) {n : Nat} (h : xs.length = n) : n = 0 ↔ val xs = 0 := by
  rw [← h]; exact num_len_zero (num_self hl hm)

theorem quot_lt {a g B : Int} (ha : 0 ≤ a) (hA : a < B) : a / g < B ∨ g < 0 := by
  rcases Int.lt_or_le g 0 with h | h
  · exact .inr h
  · have := Int.ediv_le_self g ha
    exact .inl (by omega)

set_option maxHeartbeats 1000000 in
theorem qdiv_any (ao bo : Option Addr) (na ca nb cb : Nat) (xs ys : List Int) (w : World) (ha : RowAt w ao na ca xs) (hb : RowAt w bo nb cb ys) :
    Calls Tryz.prog 65 #[.slice ao na ca, .slice bo nb cb] w fun e w' => ∃ qo qn qc q ro rn rc r k, e = .returned (.tuple #[.slice qo qn qc, .slice ro rn rc, .int .i64 k]) ∧ RowAt w' qo qn qc q ∧ RowAt w' ro rn rc r ∧ DivOut xs ys q r k ∧ Below w.heap.size w w' ∧ Fresh w.heap.size qo := by
  have HA : Hid (RowAt w ao na ca xs) := ha
  have HB : Hid (RowAt w bo nb cb ys) := hb
  have la := ha.len
  have lb := hb.len
  clear ha hb
  by_cases hx : May xs
  · have hna : na ≤ 8 := by have := hx.1; omega
    have HX : Hid (May xs) := hx
    clear hx
    by_cases hy : May ys
    · have hnb : nb ≤ 8 := by have := hy.1; omega
      have HY : Hid (May ys) := hy
      have hz := val_zero HB.out.limbs hy lb
      have hzx := val_zero HA.out.limbs HX.out la
      clear hy la lb
      by_cases h0 : nb = 0
      · have HZ : Hid (val ys = 0) := hz.1 h0
        subst h0
        clear hz hzx
        go_enter Tryz.func65, Tryz.ntmps65
        go_wp2_with fail
        refine (may_val _ _ _ xs _ HA.out true (yes_iff HX.out)).mono ?_
        rintro e w1 ⟨rfl, rfl⟩
        go_wp2_with fail
        refine (may_val _ _ _ ys _ HB.out true (yes_iff HY.out)).mono ?_
        rintro e w1 ⟨rfl, rfl⟩
        go_wp2_with fail
        go_ret3
        exact ⟨none, 0, 0, [], none, 0, 0, [], 30, rfl, RowAt.nil _, RowAt.nil _, .zero ⟨HX.out, HY.out⟩ HZ.out, Below.refl _ _, Fresh.none _⟩
      · have HZ : Hid (val ys ≠ 0) := fun e => h0 (hz.2 e)
        have HYS : Hid (ys ≠ []) := fun e => by
          have h := HB.out.len
          rw [e] at h
          simp at h
          omega
        have hb0 : ((nb : Int) == 0) = false := by rw [beq_eq_false_iff_ne]; omega
        clear hz hzx
        go_enter Tryz.func65, Tryz.ntmps65
        go_wp2_with fail
        refine (may_val _ _ _ xs _ HA.out true (yes_iff HX.out)).mono ?_
        rintro e w1 ⟨rfl, rfl⟩
        go_wp2_with fail
        refine (may_val _ _ _ ys _ HB.out true (yes_iff HY.out)).mono ?_
        rintro e w1 ⟨rfl, rfl⟩
        go_wp2_with fail
        refine (divide_fresh _ _ _ _ _ _ xs ys _ HA.out HB.out (by omega) (by omega) HX.out.2 HY.out.2 HYS.out).mono ?_
        rintro e w1 ⟨qo, qn, qc, q, ro, rn, rc, r, rfl, d1, d2, d3, d4, d5, d6⟩
        have D1 : Hid _ := d1
        have D2 : Hid _ := d2
        have D3 : Hid (Num q (val xs / val ys)) := d3
        have D4 : Hid (Num r (val xs % val ys)) := d4
        have D5 : Hid _ := d5
        have D6 : Hid _ := d6
        clear d1 d2 d3 d4 d5 d6
        go_wp2_with fail
        go_ret3
        exact ⟨qo, qn, qc, q, ro, rn, rc, r, 0, rfl, D1.out, D2.out, .fine ⟨HX.out, HY.out⟩ HZ.out D3.out D4.out, D5.out, D6.out⟩
    · have HY : Hid (¬ May ys) := hy
      clear hy la lb
      go_enter Tryz.func65, Tryz.ntmps65
      go_wp2_with fail
      refine (may_val _ _ _ xs _ HA.out true (yes_iff HX.out)).mono ?_
      rintro e w1 ⟨rfl, rfl⟩
      go_wp2_with fail
      refine (may_val _ _ _ ys _ HB.out false (no_iff HY.out)).mono ?_
      rintro e w1 ⟨rfl, rfl⟩
      go_wp2_with fail
      go_ret3
      exact ⟨none, 0, 0, [], none, 0, 0, [], 1, rfl, RowAt.nil _, RowAt.nil _, .arg (fun h => HY.out h.2), Below.refl _ _, Fresh.none _⟩
  · have HX : Hid (¬ May xs) := hx
    clear hx la lb
    go_enter Tryz.func65, Tryz.ntmps65
    go_wp2_with fail
    refine (may_val _ _ _ xs _ HA.out false (no_iff HX.out)).mono ?_
    rintro e w1 ⟨rfl, rfl⟩
    go_wp2_with fail
    go_ret3
    exact ⟨none, 0, 0, [], none, 0, 0, [], 1, rfl, RowAt.nil _, RowAt.nil _, .arg (fun h => HX.out h.1), Below.refl _ _, Fresh.none _⟩

set_option maxHeartbeats 1000000 in
theorem qsmall_any (ao : Option Addr) (na ca : Nat) (xs : List Int) (n : Int) (w : World) (ha : RowAt w ao na ca xs) (hn0 : 0 ≤ n) (hn1 : n < BB) :
    Calls Tryz.prog 47 #[.slice ao na ca, .int .u64 n] w fun e w' => ∃ qo qn qc q rv k, e = .returned (.tuple #[.slice qo qn qc, .int .u64 rv, .int .i64 k]) ∧ RowAt w' qo qn qc q ∧ SmallOut xs n q rv k ∧ Below w.heap.size w w' ∧ Fresh w.heap.size qo := by
  have HA : Hid (RowAt w ao na ca xs) := ha
  have HN : Hid (0 ≤ n ∧ n < BB) := ⟨hn0, hn1⟩
  clear ha hn0 hn1
  go_enter Tryz.func47, Tryz.ntmps47
  go_wp2_with fail
  refine (of_any n _ HN.out.1 HN.out.2).mono ?_
  rintro e w1 ⟨bo, bn, bc, bs, rfl, d1, d2, d3, d4⟩
  have D1 : Hid (RowAt w1 bo bn bc bs) := d1
  have D2 : Hid (Num bs n) := d2
  have D4 : Hid (Below w.heap.size w w1) := d4
  clear d1 d2 d3 d4
  go_wp2_with fail
  refine (qdiv_any _ _ _ _ _ _ xs bs _ (HA.out.below D4.out) D1.out).mono ?_
  rintro e w2 ⟨qo, qn, qc, q, ro, rn, rc, r, k, rfl, f1, f2, f3, f4, f5⟩
  have F1 : Hid (RowAt w2 qo qn qc q) := f1
  have F2 : Hid (RowAt w2 ro rn rc r) := f2
  have F3 : Hid (SmallOut xs n q (lim r 0) k) := .of D2.out HN.out.2 f3
  have F4 : Hid (Below w.heap.size w w2) := chain D4.out f4
  have F5 : Hid (Fresh w.heap.size qo) := f5.mono D4.out.size
  clear f1 f2 f3 f4 f5
  by_cases hr : rn = 0
  · have HR : Hid (lim r 0 = 0) := by
      have h := F2.out.len
      rw [hr] at h
      rw [List.length_eq_zero_iff.1 h]
      rfl
    subst hr
    go_wp2_with fail
    go_ret3
    exact ⟨qo, qn, qc, q, 0, k, rfl, F1.out, by have h := F3.out; rw [HR.out] at h; exact h, F4.out, F5.out⟩
  · have hrb : ((rn : Int) == 0) = false := by rw [beq_eq_false_iff_ne]; omega
    have hrp : (0 : Int) < (rn : Int) := by omega
    obtain ⟨rb, roff, rfl, hrlt, hrc⟩ := F2.out.cells (by intro e; have h := F2.out.len; rw [e] at h; simp at h; omega)
    have hr0 := hrc 0 (by have := F2.out.len; omega)
    rw [← lim_nat, Nat.add_zero, show ((0 : Nat) : Int) = 0 from rfl] at hr0
    obtain ⟨rv, hrv⟩ : ∃ v, v = lim r 0 := ⟨_, rfl⟩
    rw [← hrv] at hr0
    have HRV : Hid (rv = lim r 0) := hrv
    clear hrc hrv
    go_wp2_with fail
    go_quiet (fail)
    go_wp2_with fail
    go_ret3
    exact ⟨qo, qn, qc, q, rv, k, rfl, F1.out.drewN _, by rw [HRV.out]; exact F3.out, below_drewN F4.out _, F5.out⟩

end Go.Proofs.YtghnmfkgpkikfaaGreatDoor

/-! Digits to any base, as arithmetic: no program. -/
namespace Go.Proofs.YtghnmfkgpkikfaaGreatDoor

/-- The number that digits are, the lowest one first. -/
def dval (b : Int) : List Int → Int
  | [] => 0
  | d :: ds => d + b * dval b ds

/-- Each is a digit to the base b. -/
def Digs (b : Int) (l : List Int) : Prop := ∀ d ∈ l, 0 ≤ d ∧ d < b

theorem Digs.tail {b d : Int} {l : List Int} (h : Digs b (d :: l)) : Digs b l := fun x hx => h x (List.mem_cons_of_mem _ hx)
theorem Digs.head {b d : Int} {l : List Int} (h : Digs b (d :: l)) : 0 ≤ d ∧ d < b := h d List.mem_cons_self
theorem Digs.cons {b d : Int} {l : List Int} (h0 : 0 ≤ d) (h1 : d < b) (h : Digs b l) : Digs b (d :: l) := fun x hx => by
  rcases List.mem_cons.1 hx with e | e
  · rw [e]; exact ⟨h0, h1⟩
  · exact h x e

theorem bp_pos {b : Int} (hb : 0 < b) (k : Nat) : 0 < b ^ k := Int.pow_pos hb
theorem bp_le {b : Int} (hb : 1 ≤ b) {j k : Nat} (h : j ≤ k) : b ^ j ≤ b ^ k := by
  obtain ⟨d, rfl⟩ := Nat.le.dest h
  rw [Int.pow_add]
  have h1 : (1 : Int) ≤ b ^ d := bp_pos (by omega) d
  have := Int.mul_le_mul_of_nonneg_left h1 (Int.le_of_lt (bp_pos (show 0 < b by omega) j))
  simpa using this

theorem dval_bd {b : Int} (hb : 0 < b) {l : List Int} (h : Digs b l) : 0 ≤ dval b l ∧ dval b l < b ^ l.length := by
  induction l with
  | nil => simp [dval]
  | cons d ds ih =>
    have hd := h.head
    have hi := ih h.tail
    refine ⟨?_, ?_⟩
    · simp only [dval]; have := Int.mul_nonneg (Int.le_of_lt hb) hi.1; omega
    · simp only [dval, List.length_cons, Int.pow_succ]
      have h1 : dval b ds + 1 ≤ b ^ ds.length := hi.2
      have h2 := Int.mul_le_mul_of_nonneg_left h1 (Int.le_of_lt hb)
      rw [Int.mul_add, Int.mul_one] at h2
      rw [Int.mul_comm (b ^ ds.length)]
      omega

theorem dval_append (b : Int) (l m : List Int) : dval b (l ++ m) = dval b l + b ^ l.length * dval b m := by
  induction l with
  | nil => simp [dval]
  | cons d ds ih =>
    simp only [List.cons_append, dval, ih, List.length_cons, Int.pow_succ]
    grind

theorem dval_drop (b : Int) (l : List Int) (k : Nat) (h : k < l.length) : dval b (l.drop k) = l.getD k 0 + b * dval b (l.drop (k + 1)) := by
  rw [List.drop_eq_getElem_cons h, dval]
  simp [h]

/-- What stands above a place is no more than all of it. -/
theorem dval_drop_le {b : Int} (hb : 1 ≤ b) {l : List Int} (h : Digs b l) (k : Nat) : dval b (l.drop k) ≤ dval b l := by
  have e := dval_append b (l.take k) (l.drop k)
  rw [List.take_append_drop] at e
  have h1 := (dval_bd (show 0 < b by omega) (l := l.take k) (fun d hd => h d (List.mem_of_mem_take hd))).1
  have h2 := (dval_bd (show 0 < b by omega) (l := l.drop k) (fun d hd => h d (List.mem_of_mem_drop hd))).1
  have h3 : (1 : Int) ≤ b ^ (l.take k).length := bp_pos (by omega) _
  have h4 := Int.mul_le_mul_of_nonneg_right h3 h2
  omega

/-- The digits of a number: the highest one is not 0. -/
structure Dig (b : Int) (l : List Int) (v : Int) : Prop where
  digs : Digs b l
  trim : Trim l
  val : dval b l = v

theorem Dig.nil (b : Int) : Dig b [] 0 := ⟨fun d hd => by simp at hd, by intro n hn; simp at hn, rfl⟩

theorem Dig.nonneg {b v : Int} {l : List Int} (hb : 0 < b) (h : Dig b l v) : 0 ≤ v := by rw [← h.val]; exact (dval_bd hb h.digs).1

theorem trim_cons {d : Int} {l : List Int} (h : Trim l) (hd : l = [] → d ≠ 0) : Trim (d :: l) := by
  intro n hn
  cases n with
  | zero =>
    simp at hn
    simpa using hd hn
  | succ n =>
    simp at hn
    simpa using h n hn

theorem dig_zero {b : Int} (hb : 0 < b) {l : List Int} (hd : Digs b l) (ht : Trim l) (h : dval b l = 0) : l = [] := by
  induction l with
  | nil => rfl
  | cons d ds ih =>
    have h1 := hd.head
    have h2 := (dval_bd hb hd.tail).1
    simp only [dval] at h
    have h3 := Int.mul_nonneg (Int.le_of_lt hb) h2
    have h4 : dval b ds = 0 := by
      rcases Int.lt_or_eq_of_le h2 with h' | h'
      · have := Int.mul_pos hb h'; omega
      · exact h'.symm
    have e := ih hd.tail (trim_tail ht) h4
    subst e
    have := ht 0 rfl
    simp [dval] at h this
    omega

/-- A number has one row of digits. -/
theorem Dig.one {b v : Int} (hb : 0 < b) {l m : List Int} (hl : Dig b l v) (hm : Dig b m v) : l = m := by
  obtain ⟨d1, t1, e1⟩ := hl
  obtain ⟨d2, t2, e2⟩ := hm
  subst e1
  induction l generalizing m with
  | nil => exact (dig_zero hb d2 t2 e2).symm
  | cons x xs ih =>
    cases m with
    | nil => exact dig_zero hb d1 t1 e2.symm
    | cons y ys =>
      have b1 := d1.head
      have b2 := d2.head
      simp only [dval] at e2
      have e3 : y = x := by
        have h1 : (x + b * dval b xs) % b = x := by rw [Int.add_mul_emod_self_left, Int.emod_eq_of_lt b1.1 b1.2]
        have h2 : (y + b * dval b ys) % b = y := by rw [Int.add_mul_emod_self_left, Int.emod_eq_of_lt b2.1 b2.2]
        rw [← h1, ← h2, e2]
      subst e3
      have e4 : dval b ys = dval b xs := by
        have : b * dval b ys = b * dval b xs := by omega
        exact Int.eq_of_mul_eq_mul_left (by omega) this
      rw [ih d1.tail (trim_tail t1) d2.tail (trim_tail t2) e4]

/-- One digit more, at the low end. -/
theorem Dig.cons {b d v : Int} {l : List Int} (h : Dig b l v) (h0 : 0 ≤ d) (h1 : d < b) (hp : 0 < d + b * v) : Dig b (d :: l) (d + b * v) := by
  refine ⟨h.digs.cons h0 h1, trim_cons h.trim fun e => ?_, by rw [dval, h.val]⟩
  have hv := h.val
  rw [e] at hv
  simp [dval] at hv
  rw [← hv] at hp
  simp at hp
  omega

/-- The lowest digit, and the rest of them. -/
theorem Dig.split {b v : Int} {l : List Int} (hb : 0 < b) (h : Dig b l v) (hv : 0 < v) : ∃ m, l = v % b :: m ∧ Dig b m (v / b) := by
  cases l with
  | nil => have := h.val; simp [dval] at this; omega
  | cons d m =>
    have hd := h.digs.head
    have e := h.val
    simp only [dval] at e
    have h1 : v % b = d := by rw [← e, Int.add_mul_emod_self_left, Int.emod_eq_of_lt hd.1 hd.2]
    have h2 : v / b = dval b m := by rw [← e, Int.add_mul_ediv_left _ _ (by omega), Int.ediv_eq_zero_of_lt hd.1 hd.2]; omega
    exact ⟨m, by rw [h1], h.digs.tail, trim_tail h.trim, h2.symm⟩

/-- Each number has digits. -/
theorem dig_ex {b : Int} (hb : 2 ≤ b) (n : Nat) : ∃ l, Dig b l n := by
  induction n using Nat.strongRecOn with
  | _ n ih =>
    rcases Nat.eq_zero_or_pos n with h0 | h0
    · subst h0; exact ⟨[], Dig.nil b⟩
    · obtain ⟨B, rfl⟩ := Int.eq_ofNat_of_zero_le (show 0 ≤ b by omega)
      have hlt : n / B < n := Nat.div_lt_self h0 (by omega)
      obtain ⟨l, hl⟩ := ih (n / B) hlt
      have e : ((n % B : Nat) : Int) + (B : Int) * ((n / B : Nat) : Int) = n := by
        have := Nat.mod_add_div n B
        exact_mod_cast this
      have hc := Dig.cons (d := ((n % B : Nat) : Int)) hl (by omega) (by have := Nat.mod_lt n (show 0 < B by omega); omega) (by rw [e]; omega)
      rw [e] at hc
      exact ⟨_, hc⟩

theorem dig_ge {b v : Int} (hb : 0 < b) {l : List Int} (h : Dig b l v) (n : Nat) (hn : l.length = n + 1) : b ^ n ≤ v := by
  have e := dval_append b (l.take n) (l.drop n)
  rw [List.take_append_drop, h.val] at e
  have ht : (l.take n).length = n := by simp; omega
  rw [ht, dval_drop b l n (by omega), show l.drop (n + 1) = [] by simp; omega] at e
  simp only [dval, Int.mul_zero, Int.add_zero] at e
  have h1 := (dval_bd hb (l := l.take n) (fun d hd => h.digs d (List.mem_of_mem_take hd))).1
  have h2 := h.trim n hn
  have h3 : 0 ≤ l.getD n 0 := by
    have hm : l.getD n 0 ∈ l := by
      rw [List.getD_eq_getElem?_getD, List.getElem?_eq_getElem (by omega)]
      exact List.getElem_mem _
    exact (h.digs _ hm).1
  have h4 := Int.mul_le_mul_of_nonneg_left (show 1 ≤ l.getD n 0 by omega) (Int.le_of_lt (bp_pos hb n))
  rw [Int.mul_one] at h4
  omega

/-- How many digits there are at most. -/
theorem dig_few {b v : Int} (hb : 1 < b) {l : List Int} (h : Dig b l v) {k : Nat} (hv : v < b ^ k) : l.length ≤ k := by
  rcases Nat.lt_or_ge k l.length with hg | hg
  · obtain ⟨j, hj⟩ : ∃ j, l.length = j + 1 := ⟨l.length - 1, by omega⟩
    have h1 := dig_ge (by omega) h j hj
    have h2 := bp_le (show 1 ≤ b by omega) (show k ≤ j by omega)
    omega
  · exact hg

theorem dig_len_le {b v w : Int} (hb : 1 < b) {l m : List Int} (hl : Dig b l v) (hm : Dig b m w) (h : v ≤ w) : l.length ≤ m.length := by
  have h1 := (dval_bd (show 0 < b by omega) hm.digs).2
  rw [hm.val] at h1
  exact dig_few hb hl (by omega)

/-- Of as many digits: which number is below is told by the highest place at which they differ. -/
theorem dig_less {b : Int} (hb : 0 < b) {l m : List Int} (hl : Digs b l) (hm : Digs b m) (hlen : l.length = m.length) (k : Nat) (hk : k < l.length) (habove : l.drop (k + 1) = m.drop (k + 1)) (hlt : l.getD k 0 < m.getD k 0) : dval b l < dval b m := by
  have e1 := dval_append b (l.take k) (l.drop k)
  have e2 := dval_append b (m.take k) (m.drop k)
  rw [List.take_append_drop] at e1 e2
  have t1 : (l.take k).length = k := by simp; omega
  have t2 : (m.take k).length = k := by simp; omega
  rw [t1, dval_drop b l k hk] at e1
  rw [t2, dval_drop b m k (by omega), ← habove] at e2
  have h1 := (dval_bd hb (l := l.take k) (fun d hd => hl d (List.mem_of_mem_take hd))).2
  have h2 := (dval_bd hb (l := m.take k) (fun d hd => hm d (List.mem_of_mem_take hd))).1
  rw [t1] at h1
  have h3 := Int.mul_le_mul_of_nonneg_left (show l.getD k 0 + b * dval b (l.drop (k + 1)) + 1 ≤ m.getD k 0 + b * dval b (l.drop (k + 1)) by omega) (Int.le_of_lt (bp_pos hb k))
  rw [Int.mul_add, Int.mul_one] at h3
  omega

/-- 10^155 is above what may be. -/
theorem ten155 : Big ≤ (10 : Int) ^ 155 := by
  unfold Big BB
  decide

theorem Dig.few10 {v : Int} {l : List Int} (h : Dig 10 l v) (hv : v < Big) : l.length ≤ 155 := dig_few (by omega) h (by have := ten155; omega)

end Go.Proofs.YtghnmfkgpkikfaaGreatDoor

/-! The closure of limb.Add: one limb of a sum, and the carry that it leaves. -/
namespace Go.Proofs.YtghnmfkgpkikfaaGreatDoor
open Go.RowKit
attribute [local go_sem ↓] Go.wp_at_zero Go.wp_at_succ

set_option maxHeartbeats 4000000 in
theorem add1_any (ao bo : Option Addr) (na ca nb cb pa pb pc : Nat) (xs ys : List Int) (i : Nat) (c : Int) (w : World) (hi : i ≤ 1000000)
    (ha : RowAt w ao na ca xs) (hb : RowAt w bo nb cb ys) (hpa : w.cell? ⟨pa, 0, none⟩ = some (.slice ao na ca)) (hpb : w.cell? ⟨pb, 0, none⟩ = some (.slice bo nb cb))
    (hpc : w.cell? ⟨pc, 0, none⟩ = some (.int .u64 c)) (hfc : w.frozen? ⟨pc, 0, none⟩ = false) (hc0 : 0 ≤ c) (hc1 : c ≤ 1) :
    Calls Tryz.prog 83 #[.int .i64 i, .pointer (some ⟨pa, 0, none⟩), .pointer (some ⟨pb, 0, none⟩), .pointer (some ⟨pc, 0, none⟩)] w fun e w' =>
      e = .returned (.int .u64 ((lim xs i + lim ys i + c) % BB)) ∧ Eqw w' (w.setCell ⟨pc, 0, none⟩ (.int .u64 ((lim xs i + lim ys i + c) / BB))) := by
  have lx := (lim_bd ha.limbs i).1
  have ly := (lim_bd hb.limbs i).1
  have hadd := fun w => add64_any (lim xs i) (lim ys i) c w lx ly hc0 hc1
  go_enter Tryz.func83, Tryz.ntmps83
  go_wp2
  go_region_with (first
    | (go_at_call_of 85 (Value.slice ao na ca); refine (at_any _ _ _ xs _ _ ?_ ?_ ?_).mono ?_; exact ha.drew; omega; omega; rintro e w1 ⟨rfl, rfl⟩)
    | (go_at_call_of 85 (Value.slice bo nb cb); refine (at_any _ _ _ ys _ _ ?_ ?_ ?_).mono ?_; exact hb.drew; omega; omega; rintro e w1 ⟨rfl, rfl⟩))
  all_goals (go_wp2; go_ret; exact ⟨rfl, rfl, rfl, rfl, rfl⟩)

end Go.Proofs.YtghnmfkgpkikfaaGreatDoor

/-! limb.Add: the sum. -/
namespace Go.Proofs.YtghnmfkgpkikfaaGreatDoor
open Go.RowKit

/-- What the closure of Add holds while the limbs zs have been told. -/
def AddInv (w0 : World) (pa pb pc : Nat) (av bv : Value) (xs ys : List Int) (zs : List Int) (wr : World) : Prop :=
  Below w0.heap.size w0 wr ∧ wr.heap[pa]? = some (.cells #[av] 22 (0, 0)) ∧ wr.heap[pb]? = some (.cells #[bv] 22 (0, 0)) ∧
    ∃ c, wr.heap[pc]? = some (.cells #[.int .u64 c] 24 (0, 0)) ∧ 0 ≤ c ∧ c ≤ 1 ∧ val zs + c * BB ^ zs.length = pv xs zs.length + pv ys zs.length

theorem add_step {v c x y p q P r : Int} (h : v + c * P = p + q) (hr : r = x + y + c) : v + (r % BB) * P + (r / BB) * (P * BB) = (p + x * P) + (q + y * P) := by
  have h1 := Int.emod_add_mul_ediv r BB
  have h2 : (r % BB + BB * (r / BB)) * P = r * P := by rw [h1]
  rw [hr] at h2 ⊢
  grind

theorem carry_bd {x y c : Int} (hx : 0 ≤ x) (hy : 0 ≤ y) (hx1 : x < BB) (hy1 : y < BB) (h0 : 0 ≤ c) (h1 : c ≤ 1) : 0 ≤ (x + y + c) / BB ∧ (x + y + c) / BB ≤ 1 := by
  unfold BB at *
  omega

theorem add_end {v c a b P : Int} (h : v + c * (P * BB) = a + b) (hv : 0 ≤ v) (hP : 0 ≤ P) (ha : a < P) (hb : b < P) (hc : 0 ≤ c) (hc1 : c ≤ 1) : v = a + b := by
  have hB := BB_two
  rcases Int.lt_or_eq_of_le hc with h' | h'
  · have e : c = 1 := by omega
    subst e
    have := Int.mul_le_mul_of_nonneg_left hB hP
    omega
  · subst h'; omega

set_option maxHeartbeats 400000 in
theorem add_core (ao bo : Option Addr) (na ca nb cb pa pb pc n : Nat) (N : Int) (xs ys : List Int) (w0 W : World) (ha : RowAt w0 ao na ca xs) (hb : RowAt w0 bo nb cb ys) (hna : na ≤ n) (hnb : nb ≤ n) (hn : n ≤ 900000) (hN : N = ((n + 1 : Nat) : Int))
    (hbel : Below w0.heap.size w0 W) (hpa : W.heap[pa]? = some (.cells #[.slice ao na ca] 22 (0, 0))) (hpb : W.heap[pb]? = some (.cells #[.slice bo nb cb] 22 (0, 0))) (hpc : W.heap[pc]? = some (.cells #[.int .u64 0] 24 (0, 0)))
    (hca : w0.heap.size ≤ pc) (hac : pa ≠ pc) (hbc : pb ≠ pc) :
    Calls Tryz.prog 81 #[.int .i64 N, .func (.func 83) #[] #[.pointer (some ⟨pa, 0, none⟩), .pointer (some ⟨pb, 0, none⟩), .pointer (some ⟨pc, 0, none⟩)]] W fun e w' =>
      ∃ ro m cap r, e = .returned (.slice ro m cap) ∧ RowAt w' ro m cap r ∧ Num r (val xs + val ys) ∧ m ≤ n + 1 ∧ Below w0.heap.size w0 w' := by
  subst hN
  refine (build_any (n + 1) 83 _ (AddInv w0 pa pb pc (.slice ao na ca) (.slice bo nb cb) xs ys) W (by omega) ?_ (fun _ _ => by simp) ?_ ?_).mono ?_
  · exact ⟨hbel, hpa, hpb, 0, hpc, Int.le_refl _, by omega, by simp [val, pv]⟩
  · rintro zs w1 w2 ⟨h1, h2, h3, c, h4, h5⟩ hb12
    exact ⟨h1.trans (hb12.mono hbel.size), heapAt hb12 (lt_of_block hpa) h2, heapAt hb12 (lt_of_block hpb) h3, c, heapAt hb12 (lt_of_block hpc) h4, h5⟩
  · rintro zs wr hlt ⟨h1, h2, h3, c, h4, hc0, hc1, hval⟩
    have lx := lim_bd ha.limbs zs.length
    have ly := lim_bd hb.limbs zs.length
    have hcb := carry_bd lx.1 ly.1 lx.2 ly.2 hc0 hc1
    have hmod : 0 ≤ (lim xs zs.length + lim ys zs.length + c) % BB ∧ (lim xs zs.length + lim ys zs.length + c) % BB < BB := ⟨Int.emod_nonneg _ (by have := BB_pos; omega), Int.emod_lt_of_pos _ BB_pos⟩
    refine (add1_any ao bo na ca nb cb pa pb pc xs ys zs.length c wr (by omega) (ha.below h1) (hb.below h1) (cell_of_one h2) (cell_of_one h3) (cell_of_one h4) (free_of_one h4) hc0 hc1).mono ?_
    rintro e w' ⟨rfl, hq⟩
    refine ⟨_, rfl, hmod.1, hmod.2, ⟨?_, ?_, ?_, _, ?_, hcb.1, hcb.2, ?_⟩, ?_, ?_⟩
    · exact hq.below (h1.setCell hca _)
    · rw [hq.heap, Below.heap_setCell _ _ _ _ hac]; exact h2
    · rw [hq.heap, Below.heap_setCell _ _ _ _ hbc]; exact h3
    · rw [hq.heap]; exact one_setCell h4
    · rw [val_snoc, List.length_append, List.length_singleton, pw_succ, pv, pv]
      exact add_step hval rfl
    · intro k hk
      rw [hq.heap, Below.heap_setCell _ _ _ _ (by have := lt_of_block hpc; show k ≠ pc; omega)]
    · rw [hq.heap]; simp [World.setCell]
  · rintro e w' ⟨ro, cap, m, zs, rfl, hlen, hlm, htl, hrow, h1, -, -, c, -, hc0, hc1, hval⟩
    refine ⟨ro, m, cap, _, rfl, hrow, ?_, by have := htl.1; omega, h1⟩
    have hnum := Num.ofTl hlm htl
    have vb := val_bd hlm
    have e : val zs = val xs + val ys := by
      rw [hlen, pv_val xs _ (by have := ha.len; omega), pv_val ys _ (by have := hb.len; omega), pw_succ] at hval
      have bx := pw_le (show xs.length ≤ n by have := ha.len; omega)
      have by' := pw_le (show ys.length ≤ n by have := hb.len; omega)
      exact add_end hval vb.1 (Int.le_of_lt (pw_pos n)) (Int.lt_of_lt_of_le (val_bd ha.limbs).2 bx) (Int.lt_of_lt_of_le (val_bd hb.limbs).2 by') hc0 hc1
    rw [e] at hnum
    exact hnum

theorem below3 (w : World) (o o' o'' : Obj) : Below w.heap.size w (((w.alloc o).alloc o').alloc o'') := (((Below.refl _ _).alloc (Nat.le_refl _) o).alloc (by simp) o').alloc (by simp; omega) o''

set_option maxHeartbeats 400000 in
theorem add_any (ao bo : Option Addr) (na ca nb cb : Nat) (xs ys : List Int) (w : World) (ha : RowAt w ao na ca xs) (hb : RowAt w bo nb cb ys) (hna : na ≤ 900000) (hnb : nb ≤ 900000) :
    Calls Tryz.prog 64 #[.slice ao na ca, .slice bo nb cb] w fun e w' => ∃ ro m cap r, e = .returned (.slice ro m cap) ∧ RowAt w' ro m cap r ∧ Num r (val xs + val ys) ∧ m ≤ max na nb + 1 ∧ Below w.heap.size w w' := by
  have hmf : ∀ (fn : Fn) (first cap : Array Value) (w : World), (Instr.makeFunc fn first cap).run Tryz.prog w = .ok (.func fn first cap) w := fun _ _ _ _ => rfl
  have H : ∀ n N, na ≤ n → nb ≤ n → n ≤ 900000 → N = ((n + 1 : Nat) : Int) → _ := fun n N h1 h2 h3 h4 => add_core ao bo na ca nb cb w.heap.size (w.heap.size + 1) (w.heap.size + 1 + 1) n N xs ys w
    (((w.alloc (Obj.cells #[Value.slice ao na ca] 22)).alloc (Obj.cells #[Value.slice bo nb cb] 22)).alloc (Obj.cells #[Value.int IntKind.u64 0] 24)) ha hb h1 h2 h3 h4 (below3 _ _ _ _)
    (by rw [Below.heap_alloc _ _ _ (by simp; omega), Below.heap_alloc _ _ _ (by simp)]; exact heap_alloc_new w _)
    (by rw [Below.heap_alloc _ _ _ (by simp)]; have := heap_alloc_new (w.alloc (Obj.cells #[Value.slice ao na ca] 22)) (Obj.cells #[Value.slice bo nb cb] 22); simpa using this)
    (by have := heap_alloc_new ((w.alloc (Obj.cells #[Value.slice ao na ca] 22)).alloc (Obj.cells #[Value.slice bo nb cb] 22)) (Obj.cells #[Value.int IntKind.u64 0] 24); simpa using this)
    (by omega) (by omega) (by omega)
  have HH : Hid _ := H
  clear H
  go_enter Tryz.func64, Tryz.ntmps64
  go_wp2_with fail
  · have hle : na ≤ nb := by omega
    refine (HH.out nb _ hle (Nat.le_refl _) hnb (by omega)).mono ?_
    rintro e w1 ⟨ro, m, cap, r, rfl, h1, h2, h3, h4⟩
    go_wp2
    go_ret
    exact ⟨ro, m, cap, r, rfl, h1, h2, by omega, h4⟩
  · have hle : nb ≤ na := by omega
    refine (HH.out na _ (Nat.le_refl _) hle hna (by omega)).mono ?_
    rintro e w1 ⟨ro, m, cap, r, rfl, h1, h2, h3, h4⟩
    go_wp2
    go_ret
    exact ⟨ro, m, cap, r, rfl, h1, h2, by omega, h4⟩
end Go.Proofs.YtghnmfkgpkikfaaGreatDoor

/-! nat.Add, nat.Sub, nat.Mul: by nat.within. -/
namespace Go.Proofs.YtghnmfkgpkikfaaGreatDoor
open Go.RowKit

set_option maxHeartbeats 1000000 in
theorem nadd1_any (ao bo : Option Addr) (na ca nb cb pa pb : Nat) (xs ys : List Int) (w : World) (ha : RowAt w ao na ca xs) (hb : RowAt w bo nb cb ys) (hna : na ≤ 8) (hnb : nb ≤ 8)
    (hpa : w.cell? ⟨pa, 0, none⟩ = some (.slice ao na ca)) (hpb : w.cell? ⟨pb, 0, none⟩ = some (.slice bo nb cb)) :
    Calls Tryz.prog 63 #[.pointer (some ⟨pa, 0, none⟩), .pointer (some ⟨pb, 0, none⟩)] w fun e w' =>
      ∃ ro m cap r k, e = .returned (.tuple #[.slice ro m cap, .int .i64 k]) ∧ RowAt w' ro m cap r ∧ Below w.heap.size w w' ∧ Raw False (val xs + val ys) r k := by
  have HA : Hid _ := ha
  have HB : Hid _ := hb
  clear ha hb
  go_enter Tryz.func63, Tryz.ntmps63
  go_wp2_with fail
  refine (add_any _ _ _ _ _ _ xs ys _ HA.out HB.out (by omega) (by omega)).mono ?_
  rintro e w1 ⟨ro, m, cap, r, rfl, h1, h2, h3, h4⟩
  have H1 : Hid _ := h1
  have H2 : Hid (Num r (val xs + val ys)) := h2
  have H4 : Hid _ := h4
  clear h1 h2 h3 h4
  go_wp2
  go_ret2
  exact ⟨ro, m, cap, r, 0, rfl, H1.out, H4.out, .inr ⟨fun f => f, rfl, H2.out⟩⟩

set_option maxHeartbeats 1000000 in
theorem nadd_any (ao bo : Option Addr) (na ca nb cb : Nat) (xs ys : List Int) (w : World) (ha : RowAt w ao na ca xs) (hb : RowAt w bo nb cb ys) :
    Calls Tryz.prog 44 #[.slice ao na ca, .slice bo nb cb] w fun e w' => ∃ ro m cap r k, e = .returned (.tuple #[.slice ro m cap, .int .i64 k]) ∧ RowAt w' ro m cap r ∧ Out (May xs ∧ May ys) (False) (val xs + val ys) r k ∧ Below w.heap.size w w' := by
  have hmf : ∀ (fn : Fn) (first cap : Array Value) (w : World), (Instr.makeFunc fn first cap).run Tryz.prog w = .ok (.func fn first cap) w := fun _ _ _ _ => rfl
  have hb2 := below2 w (Obj.cells #[Value.slice ao na ca] 23) (Obj.cells #[Value.slice bo nb cb] 23)
  have ra := ha.below hb2
  have rb := hb.below hb2
  have ea : ((w.alloc (Obj.cells #[Value.slice ao na ca] 23)).alloc (Obj.cells #[Value.slice bo nb cb] 23)).heap[w.heap.size]? = some (.cells #[Value.slice ao na ca] 23 (0, 0)) := by
    rw [Below.heap_alloc _ _ _ (by simp)]; exact heap_alloc_new w _
  have eb : ((w.alloc (Obj.cells #[Value.slice ao na ca] 23)).alloc (Obj.cells #[Value.slice bo nb cb] 23)).heap[w.heap.size + 1]? = some (.cells #[Value.slice bo nb cb] 23 (0, 0)) := by
    have := heap_alloc_new (w.alloc (Obj.cells #[Value.slice ao na ca] 23)) (Obj.cells #[Value.slice bo nb cb] 23); simpa using this
  have H := within_any ao bo na ca nb cb xs ys 63 #[.pointer (some ⟨w.heap.size, 0, none⟩), .pointer (some ⟨w.heap.size + 1, 0, none⟩)] (False) (val xs + val ys) _ ra rb (fun _ _ => by simp)
    (fun hx hy => nadd1_any ao bo na ca nb cb w.heap.size (w.heap.size + 1) xs ys _ ra rb (by have := hx.1; have := ha.len; omega) (by have := hy.1; have := hb.len; omega) (cell_of_one ea) (cell_of_one eb))
  have ca' := cell_of_one ea
  have cb' := cell_of_one eb
  have HB2 : Hid _ := hb2
  have HH : Hid (∀ u : Unit, _) := fun _ => H
  clear H ra rb ha hb hb2 ea eb
  go_enter Tryz.func44, Tryz.ntmps44
  go_wp2_with fail
  refine (HH.out ()).mono ?_
  rintro e w1 ⟨ro, m, cap, r, k, rfl, h1, h2, h3⟩
  have H1 : Hid _ := h1
  have H2 : Hid (Out (May xs ∧ May ys) (False) (val xs + val ys) r k) := h2
  have H3 : Hid _ := h3
  clear h1 h2 h3 ca' cb'
  go_wp2
  go_ret2
  exact ⟨ro, m, cap, r, k, rfl, H1.out, H2.out, chain HB2.out H3.out⟩

end Go.Proofs.YtghnmfkgpkikfaaGreatDoor

/-! The reference's Sub. -/
namespace Go.Proofs.YtghnmfkgpkikfaaGreatDoor
open Go.RowKit

theorem rsub_step {v c p q P x y s : Int} (h : v - c * P = p - q) (hs : s = x + HH - y - c) : v + (s % HH) * P - (1 - s / HH) * (P * HH) = (p + x * P) - (q + y * P) := by
  have h1 := Int.emod_add_mul_ediv s HH
  have h2 : (s % HH + HH * (s / HH)) * P = s * P := by rw [h1]
  rw [hs] at h2 ⊢
  grind

/-- What the loop of the reference's Sub holds. -/
structure RSubInv (w2 : World) (dx dy : List Int) (k g c : Nat) (cv : Int) (zs : List Int) (wr : World) : Prop where
  own : OwnR wr w2.heap.size g k c zs
  bel : Below w2.heap.size w2 wr
  halves : Halves zs
  len : zs.length = k
  c0 : 0 ≤ cv
  c1 : cv ≤ 1
  val : hval zs - cv * HH ^ k = hpv dx k - hpv dy k

theorem RSubInv.next {w2 : World} {dx dy : List Int} {k g c : Nat} {cv : Int} {zs : List Int} {wr wq : World} (h : RSubInv w2 dx dy k g c cv zs wr) (hx : Halves dx) (hy : Halves dy)
    {s : Int} (hs : s = lim dx k + 4294967296 - lim dy k - cv) (hq : Eqw wq wr) {gg cp : Nat} {w1 : World} (ho : OwnR w1 w2.heap.size gg (k + 1) cp (zs ++ [s % 4294967296])) (hg : (wq.alloc (Obj.cells #[.int .u64 (s % 4294967296)] 24)).grownBy w1 (some g)) :
    RSubInv w2 dx dy (k + 1) gg cp (1 - s / 4294967296) (zs ++ [s % 4294967296]) w1 := by
  have bx := half_bd hx k
  have bY := half_bd hy k
  have hgw := h.own.lt
  have c0 := h.c0
  have c1 := h.c1
  have hb := hq.below h.bel
  refine ⟨ho, (hb.alloc hb.size _).grown hg (by simp; have := hb.size; omega) (fun j hj => by cases hj; exact hgw.1), halves_snoc h.halves (by omega) (by unfold HH; omega), by simp [h.len], ?_, ?_, ?_⟩
  · unfold HH at bx bY; omega
  · unfold HH at bx bY; omega
  · rw [hval_snoc, h.len, hw_succ, hpv, hpv]
    exact rsub_step h.val hs

theorem Eqw.own {w' w : World} (h : Eqw w' w) {base g n cap : Nat} {zs : List Int} (ho : OwnR w base g n cap zs) : OwnR w' base g n cap zs := by
  unfold OwnR World.ownsRow at *
  rw [h.heap]
  exact ho

theorem rsub_end {dx dy zs : List Int} {L : Nat} {cv : Int} (hx : Halves dx) (hy : Halves dy) (hz : Halves zs) (lx : dx.length = L) (lz : zs.length = L) (hle : hval dy ≤ hval dx) (c0 : 0 ≤ cv) (c1 : cv ≤ 1) (h : hval zs - cv * HH ^ L = hpv dx L - hpv dy L) : hval zs = hval dx - hval dy := by
  have bx := hval_bd hx
  rw [lx] at bx
  have bz := hval_bd hz
  rw [lz] at bz
  have e1 : hpv dx L = hval dx := hpv_val dx L (by omega)
  have e2 : hpv dy L = hval dy := by
    rcases Nat.lt_or_ge dy.length L with h' | h'
    · exact hpv_val dy L (by omega)
    · have hm := (hpv_mono hy h').2
      rw [hpv_val dy dy.length (Nat.le_refl _)] at hm
      exact (hm (by omega)).symm
  rw [e1, e2] at h
  have hc : cv = 0 ∨ cv = 1 := by omega
  rcases hc with rfl | rfl
  · omega
  · omega

set_option maxRecDepth 100000 in
set_option maxHeartbeats 2000000 in
theorem rsub_ok (ao bo : Option Addr) (na ca nb cb : Nat) (xs ys : List Int) (w : World) (ha : RowAt w ao na ca xs) (hb : RowAt w bo nb cb ys) (hna : na ≤ 90000) (hnb : nb ≤ 90000) (hle : val ys ≤ val xs) :
    Calls Tryz.prog 68 #[.slice ao na ca, .slice bo nb cb] w fun e w' => ∃ ro m cap r, e = .returned (.tuple #[.slice ro m cap, .bool true]) ∧ RowAt w' ro m cap r ∧ Num r (val xs - val ys) ∧ Below w.heap.size w w' := by
  obtain ⟨i0, hi, hz0, hz1, hz2⟩ := info_parts Tryz.info24
  have HA : Hid (RowAt w ao na ca xs) := ha
  have HB : Hid (RowAt w bo nb cb ys) := hb
  have HX : Hid (Halves (hd xs) ∧ (hd xs).length = 2 * na ∧ hval (hd xs) = val xs) := ⟨hd_halves ha.limbs, by rw [hd_length, ha.len], hd_val xs⟩
  have HY : Hid (Halves (hd ys) ∧ (hd ys).length = 2 * nb ∧ hval (hd ys) = val ys) := ⟨hd_halves hb.limbs, by rw [hd_length, hb.len], hd_val ys⟩
  have HV : Hid (val ys ≤ val xs) := hle
  obtain ⟨cc, hcc⟩ : ∃ c, c = cmpI (val xs) (val ys) := ⟨_, rfl⟩
  have hc0 : ¬ cc < 0 := by rw [hcc, cmpI, if_neg (by omega)]; split <;> omega
  have HC : Hid (cc = cmpI (val xs) (val ys)) := hcc
  clear ha hb hle hcc
  go_enter Tryz.func68, Tryz.ntmps68
  go_wp2_with fail
  refine (rcmp_val _ _ _ _ _ _ xs ys _ HA.out HB.out (by omega) (by omega) cc HC.out).mono ?_
  rintro e w0 ⟨rfl, b0⟩
  have B0 : Hid (Below w.heap.size w w0) := b0
  clear b0
  go_wp2_with fail
  refine (digits_any _ _ _ xs _ (HA.out.below B0.out) (by omega)).mono ?_
  rintro e w1 ⟨xo, xc, rfl, hx1, b1⟩
  have X1 : Hid (RowAt w1 xo (2 * na) xc (hd xs)) := hx1
  have B1 : Hid (Below w.heap.size w w1) := chain B0.out b1
  clear hx1 b1 B0
  go_wp2_with fail
  refine (digits_any _ _ _ ys _ (HB.out.below B1.out) (by omega)).mono ?_
  rintro e w2 ⟨yo, yc, rfl, hy2, b2⟩
  have X2 : Hid (RowAt w2 xo (2 * na) xc (hd xs)) := X1.out.below b2
  have Y2 : Hid (RowAt w2 yo (2 * nb) yc (hd ys)) := hy2
  have B2 : Hid (Below w.heap.size w w2) := chain B1.out b2
  clear hy2 b2 X1 B1 HA HB HC hc0
  generalize hd xs = dx at *
  generalize hd ys = dy at *
  by_cases hn0 : na = 0
  · subst hn0
    have HR : Hid (RowAt (w2.alloc (Obj.cells #[] 24)) (some ⟨w2.heap.size, 0, none⟩) 0 0 []) := (OwnR.nil w2).row (by intro x hx; simp at hx)
    have hz : dx = [] := List.length_eq_zero_iff.1 HX.out.2.1
    have HE : Hid (val xs - val ys = 0) := by
      show val xs - val ys = 0
      have h1 := HX.out.2.2
      have h2 := (hval_bd HY.out.1).1
      have h3 := HV.out
      rw [hz] at h1
      simp [hval] at h1
      rw [HY.out.2.2] at h2
      omega
    clear hz
    go_wp2_with fail
    refine wp_loop_rounds 1 ?_
    rw [rounds_succ]
    go_wp2_with fail
    refine (whole_any _ _ _ [] _ HR.out (by intro x hx; simp at hx) (by omega)).mono ?_
    rintro e w3 ⟨ro, m, cp, r, rfl, h1, h2, h3, h4⟩
    go_wp2
    go_ret2
    refine ⟨ro, m, cp, r, rfl, h1, by rw [HE.out]; exact h2, chain B2.out (chain ((Below.refl _ _).alloc (Nat.le_refl _) _) h4)⟩
  · obtain ⟨b, off, rfl, hlt, hc⟩ := X2.out.cells (by intro e; have := HX.out.2.1; rw [e] at this; simp at this; omega)
    have HC : Hid (∀ j, j < 2 * na → w2.cell? ⟨b, off + j, none⟩ = some (.int .u64 (lim dx j))) := fun j hj => by rw [hc j (by rw [HX.out.2.1]; exact hj), lim_nat]
    clear hc
    go_wp2_with fail
    go_loopw [8, 9, 10, 11] (fun o cr i _ wr => ∃ (k g c : Nat) (cv : Int) (zs : List Int), k ≤ 2 * na ∧ i = .int .i64 k ∧ o = .slice (some ⟨g, 0, none⟩) k c ∧ cr = .int .u64 cv ∧ RSubInv w2 dx dy k g c cv zs wr) (fun _ _ i _ _ => 2 * na - (intOf i).toNat)
    case atStart => exact ⟨0, w2.heap.size, 0, 0, [], Nat.zero_le _, rfl, rfl, rfl, ⟨OwnR.nil w2, (Below.refl _ _).alloc (Nat.le_refl _) _, by intro x hx; simp at hx, rfl, Int.le_refl _, by omega, by simp [hval, hpv]⟩⟩
    case round =>
      obtain ⟨k, g, c, cv, zs, hkM, rfl, rfl, rfl, hinv⟩ := hrel
      have HI : Hid (RSubInv w2 dx dy k g c cv zs wr) := hinv
      have c0 := hinv.c0
      have c1 := hinv.c1
      have hsz : w2.heap.size ≤ wr.heap.size := hinv.bel.size
      by_cases hlt2 : k < 2 * na
      · have g1 : (0 : Int) ≤ (k : Int) := by omega
        have g2 : (k : Int) < ((2 * na : Nat) : Int) := by omega
        have hcx : wr.cell? ⟨b, off + k, none⟩ = some (.int .u64 (lim dx k)) := (hinv.bel.cell (p := ⟨b, off + k, none⟩) hlt).trans (HC.out k hlt2)
        have bx := half_bd HX.out.1 k
        have bY := half_bd HY.out.1 k
        obtain ⟨x, hx⟩ : ∃ x, x = lim dx k := ⟨_, rfl⟩
        rw [← hx] at bx hcx
        have EX : Hid (x = lim dx k) := hx
        unfold HH at bx bY
        have x0 := bx.1
        have x1 := bx.2
        have y0 := bY.1
        have y1 := bY.2
        have q1 : IntKind.u64.wrap (x + 4294967296) = x + 4294967296 := IntWalk.u64_in _ ⟨by omega, by omega⟩
        have q2 : IntKind.u64.wrap (x + 4294967296 - lim dy k) = x + 4294967296 - lim dy k := IntWalk.u64_in _ ⟨by omega, by omega⟩
        have q3 : IntKind.u64.wrap (x + 4294967296 - lim dy k - cv) = x + 4294967296 - lim dy k - cv := IntWalk.u64_in _ ⟨by omega, by omega⟩
        clear hinv hx bx bY
        go_wp2_with fail
        go_quiet ((go_at_call 38; exact Calls.quiet_of_same (rat_any _ _ _ dy k _ ((Y2.out.below HI.out.bel).drewN _))))
        obtain ⟨s, hs⟩ : ∃ s, s = x + 4294967296 - lim dy k - cv := ⟨_, rfl⟩
        have s0 : 0 ≤ s := by omega
        have s1 : s ≤ 8589934591 := by omega
        have HS : Hid (s = lim dx k + 4294967296 - lim dy k - cv) := by rw [hs, EX.out]; rfl
        rw [← hs]
        clear hs q1 q2 q3
        go_wp2_with (at_builtin; refine wpList_append_lies _ rfl (.tmp 38) (.tmp 41) 22 rfl w2.heap.size 24 i0 (.int .u64 0) 1 8 Tryz.underlying22 hi hz0 hz1 hz2 rfl (by decide) _ k (zs.map (Value.int .u64)) rfl ((((Eqw.refl wr).drewN nq).own HI.out.own).alloc _) ⟨wr.heap.size, 0, none⟩ 1 1 [.int .u64 (s % 4294967296)] rfl rfl (World.news_of_block (cs := #[.int .u64 (s % 4294967296)]) (t := 24) (fr := (0, 0)) (heap_alloc_new (wr.drewN nq) _)) (by simp [Value.oneCell']) (by omega) (by unfold maxLen; omega) (by omega) (by simp; omega) (wr.heap.size + 1) (by simp) ?_)
        intro gg cp w3 hown1 hgrow _ _
        have hr := HI.out.next HX.out.1 HY.out.1 HS.out ((Eqw.refl wr).drewN nq) (by unfold OwnR; rw [List.map_append]; exact hown1) hgrow
        have HR : Hid _ := hr
        clear hr hown1 hgrow
        go_wp2_with fail
        go_roundw
        case rel => exact ⟨k + 1, gg, cp, _, _, by omega, by go_num, rfl, rfl, HR.out⟩
        case measure => simp [intOf]; omega
      · have HR : Hid (RowAt wr (some ⟨g, 0, none⟩) k c zs) := HI.out.own.row HI.out.halves.limbs
        have HK : Hid (k = 2 * na) := by show k = 2 * na; omega
        clear hinv
        go_wp2_with fail
        refine (whole_any _ _ _ zs _ HR.out HI.out.halves (by omega)).mono ?_
        rintro e w3 ⟨ro, m, cp, r, rfl, h1, h2, h3, h4⟩
        go_wp2
        go_ret2
        refine ⟨ro, m, cp, r, rfl, h1, ?_, chain B2.out (chain HI.out.bel h4)⟩
        rw [rsub_end HX.out.1 HY.out.1 HI.out.halves (by rw [HK.out]; exact HX.out.2.1) HI.out.len (by rw [HX.out.2.2, HY.out.2.2]; exact HV.out) c0 c1 HI.out.val, HX.out.2.2, HY.out.2.2] at h2
        exact h2

set_option maxHeartbeats 400000 in
theorem rsub_no (ao bo : Option Addr) (na ca nb cb : Nat) (xs ys : List Int) (w : World) (ha : RowAt w ao na ca xs) (hb : RowAt w bo nb cb ys) (hna : na ≤ 90000) (hnb : nb ≤ 90000) (hlt : val xs < val ys) :
    Calls Tryz.prog 68 #[.slice ao na ca, .slice bo nb cb] w fun e w' => e = .returned (.tuple #[.slice none 0 0, .bool false]) ∧ Below w.heap.size w w' := by
  have HA : Hid (RowAt w ao na ca xs) := ha
  have HB : Hid (RowAt w bo nb cb ys) := hb
  have HC : Hid (-1 = cmpI (val xs) (val ys)) := by rw [cmpI, if_pos hlt]; rfl
  clear ha hb hlt
  go_enter Tryz.func68, Tryz.ntmps68
  go_wp2_with fail
  refine (rcmp_val _ _ _ _ _ _ xs ys _ HA.out HB.out (by omega) (by omega) (-1) HC.out).mono ?_
  rintro e w0 ⟨rfl, b0⟩
  go_wp2_with fail
  go_ret2
  exact ⟨rfl, b0⟩
end Go.Proofs.YtghnmfkgpkikfaaGreatDoor

/-! The reference's Mul. -/
namespace Go.Proofs.YtghnmfkgpkikfaaGreatDoor
open Go.RowKit

theorem hval_set (os : List Int) (j : Nat) (v : Int) (h : j < os.length) : hval (os.set j v) = hval os + (v - lim os j) * HH ^ j := by
  induction os generalizing j with
  | nil => simp at h
  | cons x xs ih =>
    cases j with
    | zero => simp [hval, lim]; omega
    | succ j =>
      have e : lim (x :: xs) ((j + 1 : Nat) : Int) = lim xs j := by rw [lim_nat, lim_nat]; simp
      rw [List.set_cons_succ, hval, hval, ih j (by simpa using h), e, hw_succ]
      grind

theorem hval_zeros (k : Nat) : hval (List.replicate k 0) = 0 := by
  induction k with
  | zero => rfl
  | succ k ih => rw [List.replicate_succ, hval, ih]; simp
theorem halves_zeros (k : Nat) : Halves (List.replicate k 0) := fun x hx => by rw [List.eq_of_mem_replicate hx]; exact ⟨Int.le_refl _, HH_pos⟩
theorem halves_set {os : List Int} (h : Halves os) (j : Nat) {v : Int} (h0 : 0 ≤ v) (h1 : v < HH) : Halves (os.set j v) := by
  intro x hx
  rcases List.mem_or_eq_of_mem_set hx with h' | h'
  · exact h x h'
  · rw [h']; exact ⟨h0, h1⟩

theorem half_mul {x y : Int} (hx : 0 ≤ x) (hy : 0 ≤ y) (hxB : x < HH) (hyB : y < HH) : 0 ≤ x * y ∧ x * y ≤ 18446744065119617025 := by
  refine ⟨Int.mul_nonneg hx hy, ?_⟩
  have := Int.mul_le_mul (show x ≤ 4294967295 by unfold HH at hxB; omega) (show y ≤ 4294967295 by unfold HH at hyB; omega) hy (by omega : (0 : Int) ≤ 4294967295)
  simpa using this

/-- What the inner loop of the reference's Mul holds. -/
structure RMulInv (w2 : World) (dx dy : List Int) (g c L i k : Nat) (cv : Int) (os : List Int) (wr : World) : Prop where
  own : OwnR wr w2.heap.size g L c os
  bel : Below w2.heap.size w2 wr
  halves : Halves os
  len : os.length = L
  c0 : 0 ≤ cv
  c1 : cv < HH
  val : hval os + cv * HH ^ (i + k) = hpv dx i * hval dy + lim dx i * HH ^ i * hpv dy k
  most : k ≤ dy.length + 1

theorem RMulInv.go {w2 : World} {dx dy : List Int} {g c L i k : Nat} {cv : Int} {os : List Int} {wr : World} (h : RMulInv w2 dx dy g c L i k cv os wr) (hx : Halves dx) (hy : Halves dy) (hgo : k < dy.length ∨ 0 < cv) : k ≤ dy.length := by
  rcases hgo with h' | h'
  · omega
  · rcases Nat.lt_or_ge dy.length k with hk | hk
    · exfalso
      have hv := h.val
      rw [hpv_val dy k (by omega)] at hv
      have e : hpv dx i * hval dy + lim dx i * HH ^ i * hval dy = hpv dx (i + 1) * hval dy := by rw [hpv]; grind
      rw [e] at hv
      have b1 := hpv_bd hx (i + 1)
      have b2 := hval_bd hy
      have b3 := (hval_bd h.halves).1
      have h1 : hpv dx (i + 1) * hval dy ≤ HH ^ (i + 1) * hval dy := Int.mul_le_mul_of_nonneg_right (Int.le_of_lt b1.2) b2.1
      have h2 : HH ^ (i + 1) * hval dy < HH ^ (i + 1) * HH ^ dy.length := Int.mul_lt_mul_of_pos_left b2.2 (hw_pos _)
      rw [← hw_add] at h2
      have h3 := hw_le (show i + 1 + dy.length ≤ i + k by omega)
      have h4 : (1 : Int) * HH ^ (i + k) ≤ cv * HH ^ (i + k) := Int.mul_le_mul_of_nonneg_right h' (Int.le_of_lt (hw_pos _))
      omega
    · exact hk

theorem rmul_step {v c x y P o s p q Hi K : Int} (h : v + c * P = p + x * Hi * q) (hP : P = Hi * K) (hs : s = o + x * y + c) : v + (s % HH - o) * P + s / HH * (P * HH) = p + x * Hi * (q + y * K) := by
  have h1 := Int.emod_add_mul_ediv s HH
  have h2 : (s % HH + HH * (s / HH)) * P = s * P := by rw [h1]
  have h3 : x * Hi * (y * K) = x * y * P := by rw [hP]; grind
  rw [hs] at h2 ⊢
  grind

theorem RMulInv.next {w2 : World} {dx dy : List Int} {g c L i k : Nat} {cv : Int} {os : List Int} {wr wq : World} (h : RMulInv w2 dx dy g c L i k cv os wr) (hx : Halves dx) (hy : Halves dy) (hgo : k ≤ dy.length) (hL : i + k < L)
    {s : Int} (hs : s = lim os ((i + k : Nat) : Int) + lim dx i * lim dy k + cv) (hq : Eqw wq wr) :
    RMulInv w2 dx dy g c L i (k + 1) (s / 4294967296) (os.set (i + k) (s % 4294967296)) (wq.setCell ⟨g, i + k, none⟩ (.int .u64 (s % 4294967296))) := by
  have bx := half_bd hx i
  have bY := half_bd hy k
  have bo := half_bd h.halves (i + k)
  have bm := half_mul bx.1 bY.1 bx.2 bY.2
  have hgw := h.own.lt
  have c0 := h.c0
  have c1 := h.c1
  have hb := hq.below h.bel
  have hst := World.ownsRow.stored (hq.own h.own) (i + k) (.int .u64 (s % 4294967296))
  refine ⟨?_, hb.setCell hgw.1 _, halves_set h.halves _ (by omega) (by unfold HH; omega), by simp [h.len], ?_, ?_, ?_, by omega⟩
  · unfold OwnR
    rw [List.map_set]
    exact hst.1
  · generalize lim dx i * lim dy k = P at *
    unfold HH at *; omega
  · generalize lim dx i * lim dy k = P at *
    unfold HH at *; omega
  · rw [hval_set os (i + k) _ (by rw [h.len]; exact hL), ← Nat.add_assoc, hw_succ, hpv]
    exact rmul_step h.val (hw_add i k) hs

/-- What the outer loop of the reference's Mul holds. -/
structure RMulOut (w2 : World) (g c L : Nat) (v : Int) (os : List Int) (wr : World) : Prop where
  own : OwnR wr w2.heap.size g L c os
  bel : Below w2.heap.size w2 wr
  halves : Halves os
  len : os.length = L
  val : hval os = v

set_option maxRecDepth 100000 in
set_option maxHeartbeats 4000000 in
theorem rmul_any (ao bo : Option Addr) (na ca nb cb : Nat) (xs ys : List Int) (w : World) (ha : RowAt w ao na ca xs) (hb : RowAt w bo nb cb ys) (hna : na ≤ 40000) (hnb : nb ≤ 40000) :
    Calls Tryz.prog 20 #[.slice ao na ca, .slice bo nb cb] w fun e w' => ∃ ro m cap r, e = .returned (.slice ro m cap) ∧ RowAt w' ro m cap r ∧ Num r (val xs * val ys) ∧ Below w.heap.size w w' := by
  obtain ⟨i0, hi, hz0, hz1, hz2⟩ := info_parts Tryz.info24
  have HA : Hid (RowAt w ao na ca xs) := ha
  have HB : Hid (RowAt w bo nb cb ys) := hb
  have HX : Hid (Halves (hd xs) ∧ (hd xs).length = 2 * na ∧ hval (hd xs) = val xs) := ⟨hd_halves ha.limbs, by rw [hd_length, ha.len], hd_val xs⟩
  have HY : Hid (Halves (hd ys) ∧ (hd ys).length = 2 * nb ∧ hval (hd ys) = val ys) := ⟨hd_halves hb.limbs, by rw [hd_length, hb.len], hd_val ys⟩
  clear ha hb
  go_enter Tryz.func20, Tryz.ntmps20
  go_wp2_with fail
  refine (digits_any _ _ _ xs _ HA.out (by omega)).mono ?_
  rintro e w1 ⟨xo, xc, rfl, hx1, b1⟩
  have X1 : Hid (RowAt w1 xo (2 * na) xc (hd xs)) := hx1
  have B1 : Hid (Below w.heap.size w w1) := b1
  clear hx1 b1
  go_wp2_with fail
  refine (digits_any _ _ _ ys _ (HB.out.below B1.out) (by omega)).mono ?_
  rintro e w2 ⟨yo, yc, rfl, hy2, b2⟩
  have X2 : Hid (RowAt w2 xo (2 * na) xc (hd xs)) := X1.out.below b2
  have Y2 : Hid (RowAt w2 yo (2 * nb) yc (hd ys)) := hy2
  have B2 : Hid (Below w.heap.size w w2) := chain B1.out b2
  clear hy2 b2 X1 B1 HA HB
  generalize hd xs = dx at *
  generalize hd ys = dy at *
  obtain ⟨L, hL⟩ : ∃ L, L = 2 * na + 2 * nb + 1 := ⟨_, rfl⟩
  have hL1 : L ≤ 2 * na + 2 * nb + 1 := by omega
  have hL2 : 2 * na + 2 * nb + 1 ≤ L := by omega
  clear hL
  cases xo with
  | none =>
    go_wp2_with fail
    go_loopw [7, 8] (fun o i wr => ∃ k g c : Nat, k ≤ L ∧ i = .int .i64 k ∧ o = .slice (some ⟨g, 0, none⟩) k c ∧ OwnR wr w2.heap.size g k c (List.replicate k 0) ∧ Below w2.heap.size w2 wr) (fun _ i _ => L - (intOf i).toNat)
    case atStart => exact ⟨0, w2.heap.size, 0, Nat.zero_le _, rfl, rfl, OwnR.nil w2, (Below.refl _ _).alloc (Nat.le_refl _) _⟩
    case round =>
      obtain ⟨k, g, c, hk, rfl, rfl, hown, hbel⟩ := hrel
      have HO : Hid (OwnR wr w2.heap.size g k c (List.replicate k 0)) := hown
      have HBB : Hid (Below w2.heap.size w2 wr) := hbel
      have hgw := hown.lt
      have hsz : w2.heap.size ≤ wr.heap.size := hbel.size
      clear hown hbel
      by_cases hlt1 : k < L
      · go_wp2_with (at_builtin; refine wpList_append_lies _ rfl (.tmp 28) (.tmp 29) 22 rfl w2.heap.size 24 i0 (.int .u64 0) 1 8 Tryz.underlying22 hi hz0 hz1 hz2 rfl (by decide) _ k ((List.replicate k (0 : Int)).map (Value.int .u64)) rfl (HO.out.alloc _) ⟨wr.heap.size, 0, none⟩ 1 1 [.int .u64 0] rfl rfl (World.news_of_block (cs := #[.int .u64 0]) (t := 24) (fr := (0, 0)) (heap_alloc_new wr _)) (by simp [Value.oneCell']) (by omega) (by unfold maxLen; omega) (by omega) (by simp; omega) (wr.heap.size + 1) (by simp) ?_)
        intro gg cp w3 hown1 hgrow _ _
        have HN : Hid (OwnR w3 w2.heap.size gg (k + 1) cp (List.replicate (k + 1) 0)) := by
          show OwnR w3 w2.heap.size gg (k + 1) cp (List.replicate (k + 1) 0)
          unfold OwnR
          rw [List.replicate_succ', List.map_append]
          simpa using hown1
        have HG : Hid (Below w2.heap.size w2 w3) := (HBB.out.alloc hsz _).grown hgrow (by simp; omega) (fun j hj => by cases hj; exact hgw.1)
        clear hown1 hgrow
        go_wp2_with fail
        go_roundw
        case rel => exact ⟨k + 1, gg, cp, by omega, by go_num, rfl, HN.out, HG.out⟩
        case measure => simp [intOf]; omega
      · have hkL : L = k := by omega
        have HO2 : Hid (OwnR wr w2.heap.size g (L) c (List.replicate (L) 0)) := by
          show OwnR wr w2.heap.size g (L) c (List.replicate (L) 0)
          rw [hkL]; exact HO.out
        subst hkL
        clear HO
        have OS0 : Hid (RMulOut w2 g c (L) (hpv dx 0 * hval dy) (List.replicate (L) 0) wr) := ⟨HO2.out, HBB.out, halves_zeros _, by simp, by rw [hval_zeros]; simp [hpv]⟩
        clear HO2 HBB
        go_wp2_with fail
        go_loopw [9, 10, 11, 12] (fun ii _ _ _ wr => ∃ (i : Nat) (os : List Int), i ≤ 2 * na ∧ ii = .int .i64 i ∧ RMulOut w2 g c (L) (hpv dx i * hval dy) os wr) (fun ii _ _ _ _ => 2 * na - (intOf ii).toNat)
        case atStart => exact ⟨0, _, Nat.zero_le _, rfl, OS0.out⟩
        case round =>
          obtain ⟨i, os, hiM, rfl, hos⟩ := hrel
          clear OS0 hgw hsz
          by_cases hlt2 : i < 2 * na
          · exfalso
            have h1 := X2.out.bare rfl
            have h2 := X2.out.fits
            omega
          · have OS : Hid (RMulOut w2 g c (L) (val xs * val ys) os wr) := by
              show RMulOut w2 g c (L) (val xs * val ys) os wr
              rw [hpv_val dx i (by have := HX.out.2.1; omega), HX.out.2.2, HY.out.2.2] at hos
              exact hos
            clear hos
            go_wp2_with fail
            refine (whole_any _ _ _ os _ (OS.out.own.row OS.out.halves.limbs) OS.out.halves (by omega)).mono ?_
            rintro e w4 ⟨ro, m, cp, r, rfl, h1, h2, h3, h4⟩
            go_wp2
            go_ret
            refine ⟨ro, m, cp, r, rfl, h1, ?_, chain B2.out (chain OS.out.bel h4)⟩
            rw [OS.out.val] at h2
            exact h2
  | some ad =>
    go_wp2_with fail
    go_loopw [7, 8] (fun o i wr => ∃ k g c : Nat, k ≤ L ∧ i = .int .i64 k ∧ o = .slice (some ⟨g, 0, none⟩) k c ∧ OwnR wr w2.heap.size g k c (List.replicate k 0) ∧ Below w2.heap.size w2 wr) (fun _ i _ => L - (intOf i).toNat)
    case atStart => exact ⟨0, w2.heap.size, 0, Nat.zero_le _, rfl, rfl, OwnR.nil w2, (Below.refl _ _).alloc (Nat.le_refl _) _⟩
    case round =>
      obtain ⟨k, g, c, hk, rfl, rfl, hown, hbel⟩ := hrel
      have HO : Hid (OwnR wr w2.heap.size g k c (List.replicate k 0)) := hown
      have HBB : Hid (Below w2.heap.size w2 wr) := hbel
      have hgw := hown.lt
      have hsz : w2.heap.size ≤ wr.heap.size := hbel.size
      clear hown hbel
      by_cases hlt1 : k < L
      · go_wp2_with (at_builtin; refine wpList_append_lies _ rfl (.tmp 28) (.tmp 29) 22 rfl w2.heap.size 24 i0 (.int .u64 0) 1 8 Tryz.underlying22 hi hz0 hz1 hz2 rfl (by decide) _ k ((List.replicate k (0 : Int)).map (Value.int .u64)) rfl (HO.out.alloc _) ⟨wr.heap.size, 0, none⟩ 1 1 [.int .u64 0] rfl rfl (World.news_of_block (cs := #[.int .u64 0]) (t := 24) (fr := (0, 0)) (heap_alloc_new wr _)) (by simp [Value.oneCell']) (by omega) (by unfold maxLen; omega) (by omega) (by simp; omega) (wr.heap.size + 1) (by simp) ?_)
        intro gg cp w3 hown1 hgrow _ _
        have HN : Hid (OwnR w3 w2.heap.size gg (k + 1) cp (List.replicate (k + 1) 0)) := by
          show OwnR w3 w2.heap.size gg (k + 1) cp (List.replicate (k + 1) 0)
          unfold OwnR
          rw [List.replicate_succ', List.map_append]
          simpa using hown1
        have HG : Hid (Below w2.heap.size w2 w3) := (HBB.out.alloc hsz _).grown hgrow (by simp; omega) (fun j hj => by cases hj; exact hgw.1)
        clear hown1 hgrow
        go_wp2_with fail
        go_roundw
        case rel => exact ⟨k + 1, gg, cp, by omega, by go_num, rfl, HN.out, HG.out⟩
        case measure => simp [intOf]; omega
      · have hkL : L = k := by omega
        have HO2 : Hid (OwnR wr w2.heap.size g (L) c (List.replicate (L) 0)) := by
          show OwnR wr w2.heap.size g (L) c (List.replicate (L) 0)
          rw [hkL]; exact HO.out
        subst hkL
        clear HO
        have OS0 : Hid (RMulOut w2 g c (L) (hpv dx 0 * hval dy) (List.replicate (L) 0) wr) := ⟨HO2.out, HBB.out, halves_zeros _, by simp, by rw [hval_zeros]; simp [hpv]⟩
        clear HO2 HBB
        go_wp2_with fail
        go_loopw [9, 10, 11, 12] (fun ii _ _ _ wr => ∃ (i : Nat) (os : List Int), i ≤ 2 * na ∧ ii = .int .i64 i ∧ RMulOut w2 g c (L) (hpv dx i * hval dy) os wr) (fun ii _ _ _ _ => 2 * na - (intOf ii).toNat)
        case atStart => exact ⟨0, _, Nat.zero_le _, rfl, OS0.out⟩
        case round =>
          obtain ⟨i, os, hiM, rfl, hos⟩ := hrel
          clear OS0 hgw hsz
          by_cases hlt2 : i < 2 * na
          · have OS : Hid (RMulOut w2 g c (L) (hpv dx i * hval dy) os wr) := hos
            clear hos
            obtain ⟨b, off, e, hlt, hc⟩ := X2.out.cells (by intro e; have := HX.out.2.1; rw [e] at this; simp at this; omega)
            cases e
            have HC : Hid (∀ j, j < 2 * na → w2.cell? ⟨b, off + j, none⟩ = some (.int .u64 (lim dx j))) := fun j hj => by rw [hc j (by rw [HX.out.2.1]; exact hj), lim_nat]
            clear hc
            have g3 : (0 : Int) ≤ (i : Int) := by omega
            have g4 : (i : Int) < 2 * (na : Int) := by omega
            go_wp2_with fail
            go_loopw [10, 11, 12] (fun cr kk _ wr => ∃ (k : Nat) (cv : Int) (os : List Int), kk = .int .i64 k ∧ cr = .int .u64 cv ∧ RMulInv w2 dx dy g c (L) i k cv os wr) (fun _ kk _ _ => 2 * nb + 2 - (intOf kk).toNat)
            case atStart => exact ⟨0, 0, os, rfl, rfl, ⟨OS.out.own, OS.out.bel, OS.out.halves, OS.out.len, Int.le_refl _, HH_pos, by rw [OS.out.val]; simp [hpv], Nat.zero_le _⟩⟩
            case round =>
              obtain ⟨k, cv, ps, rfl, rfl, hinv⟩ := hrel
              have HI : Hid (RMulInv w2 dx dy g c (L) i k cv ps wr) := hinv
              have hkM : k ≤ 2 * nb + 1 := by have := hinv.most; have := HY.out.2.1; omega
              have c0 := hinv.c0
              have c1 : cv ≤ 4294967295 := by have := hinv.c1; unfold HH at this; omega
              have hsz : w2.heap.size ≤ wr.heap.size := hinv.bel.size
              have round : (k < dy.length ∨ 0 < cv) → k ≤ 2 * nb ∧ wr.cell? ⟨g, i + k, none⟩ = some (.int .u64 (lim ps ((i + k : Nat) : Int))) ∧ wr.frozen? ⟨g, i + k, none⟩ = false ∧ wr.cell? ⟨b, off + i, none⟩ = some (.int .u64 (lim dx i)) := fun hgo => by
                have h1 := hinv.go HX.out.1 HY.out.1 hgo
                have h2 := HY.out.2.1
                refine ⟨by omega, ?_, World.ownsRow.frozenAt hinv.own _, (hinv.bel.cell (p := ⟨b, off + i, none⟩) hlt).trans (HC.out i hlt2)⟩
                rw [World.ownsRow.cellAt hinv.own (i + k) (by omega), lim_nat]
                have h3 : i + k < ps.length := by rw [hinv.len]; omega
                simp [h3]
              have RD : Hid _ := round
              have bx := half_bd HX.out.1 i
              have bY := half_bd HY.out.1 k
              have bo := half_bd hinv.halves (i + k)
              have bm := half_mul bx.1 bY.1 bx.2 bY.2
              obtain ⟨x, hx⟩ : ∃ x, x = lim dx i := ⟨_, rfl⟩
              obtain ⟨q, hq⟩ : ∃ q, q = lim ps ((i + k : Nat) : Int) := ⟨_, rfl⟩
              rw [← hx] at bm
              rw [← hq] at bo
              have EX : Hid (x = lim dx i) := hx
              have EQ : Hid (q = lim ps ((i + k : Nat) : Int)) := hq
              have q0 := bo.1
              have q1 : q ≤ 4294967295 := by have := bo.2; unfold HH at this; omega
              have m0 := bm.1
              have m1 := bm.2
              have hw0 : IntKind.i64.wrap ((i : Int) + (k : Int)) = ((i + k : Nat) : Int) := by rw [IntWalk.i64_in _ ⟨by omega, by omega⟩]; omega
              have hw1 : IntKind.u64.wrap (x * lim dy k) = x * lim dy k := IntWalk.u64_in _ ⟨by omega, by omega⟩
              have hw2 : IntKind.u64.wrap (q + x * lim dy k) = q + x * lim dy k := IntWalk.u64_in _ ⟨by omega, by omega⟩
              have hw3 : IntKind.u64.wrap (q + x * lim dy k + cv) = q + x * lim dy k + cv := IntWalk.u64_in _ ⟨by omega, by omega⟩
              clear hinv round hx hq bx bY bo bm
              by_cases t1 : (k : Int) < ((2 * nb : Nat) : Int)
              · obtain ⟨k1, hcg, hfg, hcx⟩ := RD.out (Or.inl (by have := HY.out.2.1; omega))
                rw [← EQ.out] at hcg
                rw [← EX.out] at hcx
                have g1 : (0 : Int) ≤ ((i + k : Nat) : Int) := by omega
                have g2 : ((i + k : Nat) : Int) < (L : Int) := by omega
                go_wp2_with fail
                go_quiet ((go_at_call 38; exact Calls.quiet_of_same (rat_any _ _ _ dy k _ ((Y2.out.below HI.out.bel).drewN _))))
                obtain ⟨s, hs⟩ : ∃ s, s = q + x * lim dy k + cv := ⟨_, rfl⟩
                have s0 : 0 ≤ s := by omega
                have s1 : s ≤ 18446744073709551615 := by omega
                have HS : Hid (s = lim ps ((i + k : Nat) : Int) + lim dx i * lim dy k + cv) := by rw [hs, EX.out, EQ.out]; rfl
                rw [← hs]
                clear hs hw0 hw1 hw2 hw3 m0 m1
                have NX : Hid _ := HI.out.next HX.out.1 HY.out.1 (by have := HY.out.2.1; omega) (by omega) HS.out ((Eqw.refl wr).drewN nq)
                go_wp2_with fail
                go_roundw
                case rel => exact ⟨k + 1, _, _, by go_num, rfl, NX.out⟩
                case measure => simp [intOf]; omega
              · by_cases t2 : 0 < cv
                · obtain ⟨k1, hcg, hfg, hcx⟩ := RD.out (Or.inr t2)
                  rw [← EQ.out] at hcg
                  rw [← EX.out] at hcx
                  have g1 : (0 : Int) ≤ ((i + k : Nat) : Int) := by omega
                  have g2 : ((i + k : Nat) : Int) < (L : Int) := by omega
                  go_wp2_with fail
                  go_quiet ((go_at_call 38; exact Calls.quiet_of_same (rat_any _ _ _ dy k _ ((Y2.out.below HI.out.bel).drewN _))))
                  obtain ⟨s, hs⟩ : ∃ s, s = q + x * lim dy k + cv := ⟨_, rfl⟩
                  have s0 : 0 ≤ s := by omega
                  have s1 : s ≤ 18446744073709551615 := by omega
                  have HS : Hid (s = lim ps ((i + k : Nat) : Int) + lim dx i * lim dy k + cv) := by rw [hs, EX.out, EQ.out]; rfl
                  rw [← hs]
                  clear hs hw0 hw1 hw2 hw3 m0 m1
                  have NX : Hid _ := HI.out.next HX.out.1 HY.out.1 (by have := HY.out.2.1; omega) (by omega) HS.out ((Eqw.refl wr).drewN nq)
                  go_wp2_with fail
                  go_roundw
                  case rel => exact ⟨k + 1, _, _, by go_num, rfl, NX.out⟩
                  case measure => simp [intOf]; omega
                · have NX : Hid (RMulOut w2 g c (L) (hpv dx (i + 1) * hval dy) ps wr) := by
                    have hv := HI.out.val
                    have e : hpv dx i * hval dy + lim dx i * HH ^ i * hval dy = hpv dx (i + 1) * hval dy := by rw [hpv]; grind
                    rw [show cv = 0 by omega, hpv_val dy k (by have := HY.out.2.1; omega), e] at hv
                    exact ⟨HI.out.own, HI.out.bel, HI.out.halves, HI.out.len, by simpa using hv⟩
                  clear hw0 hw1 hw2 hw3 m0 m1
                  go_wp2_with fail
                  go_roundw
                  case rel => exact ⟨i + 1, _, by omega, by go_num, NX.out⟩
                  case measure => simp [intOf]; omega
          · have OS : Hid (RMulOut w2 g c (L) (val xs * val ys) os wr) := by
              show RMulOut w2 g c (L) (val xs * val ys) os wr
              rw [hpv_val dx i (by have := HX.out.2.1; omega), HX.out.2.2, HY.out.2.2] at hos
              exact hos
            clear hos
            go_wp2_with fail
            refine (whole_any _ _ _ os _ (OS.out.own.row OS.out.halves.limbs) OS.out.halves (by omega)).mono ?_
            rintro e w4 ⟨ro, m, cp, r, rfl, h1, h2, h3, h4⟩
            go_wp2
            go_ret
            refine ⟨ro, m, cp, r, rfl, h1, ?_, chain B2.out (chain OS.out.bel h4)⟩
            rw [OS.out.val] at h2
            exact h2
end Go.Proofs.YtghnmfkgpkikfaaGreatDoor

/-! The reference's division, half a limb at a time, as arithmetic: no program. -/
namespace Go.Proofs.YtghnmfkgpkikfaaGreatDoor
open Go.RowKit

/-- What the reference's loop holds ahead of the place k - 1. -/
structure RInv (ds : List Int) (V : Int) (L k : Nat) (qs : List Int) (rv : Int) : Prop where
  len : qs.length = L
  halves : Halves qs
  r0 : 0 ≤ rv
  r1 : rv < V
  zeros : ∀ j : Nat, j < k → lim qs j = 0
  eq : hval ds = hval qs * V + rv * HH ^ k + hpv ds k

theorem rinv_start {ds : List Int} {V : Int} {L : Nat} (hV : 0 < V) (hL : ds.length = L) : RInv ds V L L (List.replicate L 0) 0 :=
  ⟨by simp, halves_zeros L, Int.le_refl _, hV, fun j _ => lim_zeros L j, by rw [hval_zeros, hpv_val ds L (by omega)]; simp⟩

theorem rinv_big {ds : List Int} {V : Int} {L k : Nat} {qs : List Int} {rv : Int} (h : RInv ds V L (k + 1) qs rv) (hd : Halves ds) : 0 ≤ rv * HH + lim ds k ∧ rv * HH + lim ds k < V * HH := by
  have hb := half_bd hd k
  have h0 := h.r0
  have h1 : rv + 1 ≤ V := h.r1
  have h2 := Int.mul_le_mul_of_nonneg_right h1 (Int.le_of_lt HH_pos)
  have h3 := Int.mul_nonneg h0 (Int.le_of_lt HH_pos)
  rw [Int.add_mul, Int.one_mul] at h2
  omega

theorem rinv_skip {ds : List Int} {V : Int} {L k : Nat} {qs : List Int} {rv tv : Int} (h : RInv ds V L (k + 1) qs rv) (hd : Halves ds) (ht : tv = rv * HH + lim ds k) (hlt : tv < V) : RInv ds V L k qs tv := by
  have hb := rinv_big h hd
  refine ⟨h.len, h.halves, by omega, hlt, fun j hj => h.zeros j (by omega), ?_⟩
  rw [h.eq, ht, hpv, hw_succ]
  grind

theorem rinv_next {ds : List Int} {V : Int} {L k : Nat} {qs : List Int} {rv tv d : Int} (h : RInv ds V L (k + 1) qs rv) (hd : Halves ds) (hk : k < L) (ht : tv = rv * HH + lim ds k) (hdd : d = tv / V) : RInv ds V L k (qs.set k d) (tv - V * d) := by
  have hb := rinv_big h hd
  have hV : 0 < V := by have := h.r0; have := h.r1; omega
  have h1 := Int.emod_add_mul_ediv tv V
  have h2 := Int.emod_lt_of_pos tv hV
  have h3 := Int.emod_nonneg tv (show V ≠ 0 by omega)
  rw [← hdd] at h1
  have d0 : 0 ≤ d := by rw [hdd]; exact Int.ediv_nonneg (by omega) (by omega)
  have d1 : d < HH := by rw [hdd]; exact Int.ediv_lt_of_lt_mul hV (by rw [Int.mul_comm]; omega)
  refine ⟨by simp [h.len], halves_set h.halves k d0 d1, by omega, by omega, fun j hj => ?_, ?_⟩
  · have := h.zeros j (by omega)
    rw [lim_nat] at this ⊢
    rw [List.getD_eq_getElem?_getD, List.getElem?_set_ne (by omega), ← List.getD_eq_getElem?_getD]
    exact this
  · rw [hval_set qs k d (by rw [h.len]; exact hk), h.zeros k (by omega), h.eq, hpv, hw_succ, ht]
    grind

theorem rinv_end {ds : List Int} {V : Int} {L : Nat} {qs : List Int} {rv : Int} (h : RInv ds V L 0 qs rv) : hval qs = hval ds / V ∧ rv = hval ds % V := by
  have e := h.eq
  simp only [hpv, Int.pow_zero, Int.mul_one, Int.add_zero] at e
  have h0 := h.r0
  have h1 := h.r1
  have e2 : hval ds = rv + V * hval qs := by rw [Int.mul_comm V]; omega
  refine ⟨?_, ?_⟩
  · rw [e2, Int.add_mul_ediv_left _ _ (by omega), Int.ediv_eq_zero_of_lt h0 h1]; omega
  · rw [e2, Int.add_mul_emod_self_left, Int.emod_eq_of_lt h0 h1]

theorem OwnR.below {w w' : World} {base g n cap : Nat} {zs : List Int} (h : OwnR w base g n cap zs) (hb : Below w.heap.size w w') : OwnR w' base g n cap zs := by
  refine ⟨h.1, ?_⟩
  rcases h.2 with ⟨e, h0⟩ | ⟨g', cap', cur, e, hg, hh, hr⟩
  · cases e
  · cases e
    exact .inr ⟨g, cap, cur, rfl, hg, (hb.block g (lt_of_block hh)).trans hh, hr⟩

/-- What the reference's loop of Div holds, with what lies in memory. -/
structure RDivRel (w1 : World) (g c L j : Nat) (ds : List Int) (V : Int) (ro : Option Addr) (nr cr : Nat) (rs qs : List Int) (rv : Int) (wr : World) : Prop where
  row : RowAt wr ro nr cr rs
  num : Num rs rv
  own : OwnR wr w1.heap.size g L c qs
  bel : Below w1.heap.size w1 wr
  inv : RInv ds V L j qs rv

theorem Num.few {r : List Int} {v V : Int} {n : Nat} (h : Num r v) (hv : v < V) (hV : V ≤ BB ^ n) : r.length ≤ n := by
  rcases Nat.lt_or_ge n r.length with hg | hg
  · obtain ⟨j, hj⟩ : ∃ j, r.length = j + 1 := ⟨r.length - 1, by omega⟩
    have h1 := val_ge h.limbs h.trim j hj
    rw [h.val] at h1
    have := pw_le (show n ≤ j by omega)
    omega
  · exact hg

/-- The digit is laid, and taken off. -/
theorem RDivRel.next {w1 : World} {g c L k : Nat} {ds : List Int} {V : Int} {ro so : Option Addr} {nr cr sm sc : Nat} {rs qs ss : List Int} {rv tv d : Int} {wr w3 w5 : World} (h : RDivRel w1 g c L (k + 1) ds V ro nr cr rs qs rv wr) (hd : Halves ds) (hk : k < L) (ht : tv = rv * HH + lim ds k) (hdd : d = tv / V)
    (hb : Below wr.heap.size wr w3) (hb5 : Below w3.heap.size (w3.setCell ⟨g, k, none⟩ (.int .u64 d)) w5) (hss : RowAt w5 so sm sc ss) (hn : Num ss (tv - V * d)) :
    RDivRel w1 g c L k ds V so sm sc ss (qs.set k d) (tv - V * d) w5 := by
  have ho := h.own.below hb
  have hst := World.ownsRow.stored ho k (.int .u64 d)
  have hbs : Below (w3.setCell ⟨g, k, none⟩ (.int .u64 d)).heap.size (w3.setCell ⟨g, k, none⟩ (.int .u64 d)) w5 := by
    have e : (w3.setCell ⟨g, k, none⟩ (.int .u64 d)).heap.size = w3.heap.size := by simp [World.setCell]
    rw [e]; exact hb5
  refine ⟨hss, hn, ?_, ?_, rinv_next h.inv hd hk ht hdd⟩
  · refine OwnR.below (w := w3.setCell ⟨g, k, none⟩ (.int .u64 d)) ?_ hbs
    unfold OwnR
    rw [List.map_set]
    exact hst.1
  · have h1 := h.bel.trans (hb.mono h.bel.size)
    exact (h1.setCell (p := ⟨g, k, none⟩) h.own.lt.1 _).trans (hb5.mono h1.size)

theorem RDivRel.skip {w1 : World} {g c L k : Nat} {ds : List Int} {V : Int} {ro so : Option Addr} {nr cr sm sc : Nat} {rs qs ss : List Int} {rv tv : Int} {wr w3 : World} (h : RDivRel w1 g c L (k + 1) ds V ro nr cr rs qs rv wr) (hd : Halves ds) (ht : tv = rv * HH + lim ds k) (hlt : tv < V)
    (hb : Below wr.heap.size wr w3) (hss : RowAt w3 so sm sc ss) (hn : Num ss tv) :
    RDivRel w1 g c L k ds V so sm sc ss qs tv w3 :=
  ⟨hss, hn, h.own.below hb, h.bel.trans (hb.mono h.bel.size), rinv_skip h.inv hd ht hlt⟩

end Go.Proofs.YtghnmfkgpkikfaaGreatDoor

/-! The reference's times: the greatest number below 2^32 that, times b, is no more than r. -/
namespace Go.Proofs.YtghnmfkgpkikfaaGreatDoor
open Go.RowKit

theorem cmpI_le {a b : Int} (h : a ≤ b) : cmpI a b ≤ 0 := by unfold cmpI; split; omega; split <;> omega
theorem cmpI_gt {a b : Int} (h : b < a) : cmpI a b = 1 := by unfold cmpI; rw [if_neg (by omega), if_neg (by omega)]
theorem cmpI_lt {a b : Int} (h : a < b) : cmpI a b = -1 := by unfold cmpI; rw [if_pos h]
theorem cmpI_ge {a b : Int} (h : b ≤ a) : 0 ≤ cmpI a b := by unfold cmpI; rw [if_neg (by omega)]; split <;> omega

set_option maxHeartbeats 1000000 in
theorem rtimes_any (ro bo : Option Addr) (nr cr nb cb : Nat) (rs bs : List Int) (w : World) (hr : RowAt w ro nr cr rs) (hb : RowAt w bo nb cb bs) (hnr : nr ≤ 1000) (hnb : nb ≤ 1000) (hp : 0 < val bs) (hlt : val rs < val bs * 4294967296) :
    Calls Tryz.prog 67 #[.slice ro nr cr, .slice bo nb cb] w fun e w' => e = .returned (.int .u64 (val rs / val bs)) ∧ Below w.heap.size w w' := by
  have HR : Hid (RowAt w ro nr cr rs) := hr
  have HB : Hid (RowAt w bo nb cb bs) := hb
  have HP : Hid (0 < val bs) := hp
  have h0 : Hid (val bs * 0 ≤ val rs) := by
    show val bs * 0 ≤ val rs
    rw [Int.mul_zero]; exact (val_bd hr.limbs).1
  have h1 : Hid (val rs < val bs * 4294967296) := hlt
  clear hr hb hp hlt
  go_enter Tryz.func67, Tryz.ntmps67
  go_wp2_with fail
  go_loopg [5, 6] 4294967296 (fun k s5 s6 wr => ∃ lo hi : Int, s5 = .int .u64 lo ∧ s6 = .int .u64 hi ∧ (hi - lo).toNat ≤ k ∧ 0 ≤ lo ∧ lo < hi ∧ hi ≤ 4294967296 ∧ val bs * lo ≤ val rs ∧ val rs < val bs * hi ∧ Below w.heap.size w wr)
  case atStart => exact ⟨0, 4294967296, rfl, rfl, by omega, by omega, by omega, by omega, h0.out, h1.out, Below.refl _ _⟩
  case round =>
    clear h0 h1
    obtain ⟨lo, hi, rfl, rfl, hk, l0, l1, l2, hlo, hhi, hbel⟩ := hrel
    have HLO : Hid (val bs * lo ≤ val rs) := hlo
    have HHI : Hid (val rs < val bs * hi) := hhi
    have HBL : Hid (Below w.heap.size w wr) := hbel
    have hsz : w.heap.size ≤ wr.heap.size := hbel.size
    clear hlo hhi hbel
    by_cases hgo : 1 < hi - lo
    · obtain ⟨m, hm⟩ : ∃ m, (lo + hi) / 2 = m := ⟨_, rfl⟩
      have hm0 : lo < m := by omega
      have hm1 : m < hi := by omega
      have ht : IntKind.u64.wrap ((lo + hi).tdiv 2) = m := by
        rw [Int.tdiv_eq_ediv_of_nonneg (by omega), hm, IntKind.wrap_u64]
        omega
      have H1 : Hid (RowAt (wr.alloc (Obj.cells #[.int .u64 m] 24)) (some ⟨wr.heap.size, 0, none⟩) 1 1 [m]) := one_row wr m (by omega) (by unfold BB; omega)
      have HBA : Hid (Below w.heap.size w (wr.alloc (Obj.cells #[.int .u64 m] 24))) := HBL.out.alloc hsz _
      go_wp2_with fail
      refine (rmul_any _ _ _ _ _ _ bs [m] _ (HB.out.below HBA.out) H1.out (by omega) (by omega)).mono ?_
      rintro e w1 ⟨po, pm, pc, p, rfl, p1, p2, p3⟩
      rw [show val [m] = m by simp [val]] at p2
      have P1 : Hid (RowAt w1 po pm pc p) := p1
      have P2 : Hid (Num p (val bs * m)) := p2
      have P3 : Hid (Below w.heap.size w w1) := chain HBA.out p3
      have hpm : pm ≤ 900000 := by
        have h1 := p1.len
        have h2 : val rs < val bs * 4294967296 := Int.lt_of_lt_of_le HHI.out (Int.mul_le_mul_of_nonneg_left l2 (Int.le_of_lt HP.out))
        rcases Nat.lt_or_ge 1002 p.length with hg | hg
        · obtain ⟨j, hj⟩ : ∃ j, p.length = j + 1 := ⟨p.length - 1, by omega⟩
          have h3 := val_ge p2.limbs p2.trim j hj
          rw [p2.val] at h3
          have h4 := (val_bd HB.out.limbs).2
          rw [HB.out.len] at h4
          have h5 := pw_le (show nb + 1 ≤ j by omega)
          rw [pw_succ] at h5
          have h6 := Int.mul_le_mul_of_nonneg_left (show m ≤ BB by unfold BB; omega) (Int.le_of_lt HP.out)
          have h7 := Int.mul_lt_mul_of_pos_right h4 BB_pos
          omega
        · omega
      clear p1 p2 p3
      by_cases hle : val bs * m ≤ val rs
      · have HLE : Hid (val bs * m ≤ val rs) := hle
        obtain ⟨c, hc⟩ : ∃ c, c = cmpI (val p) (val rs) := ⟨_, rfl⟩
        have hc0 : c ≤ 0 := by rw [hc, P2.out.val]; exact cmpI_le hle
        have HC : Hid (c = cmpI (val p) (val rs)) := hc
        clear hc hle
        go_wp2_with fail
        refine (rcmp_val _ _ _ _ _ _ p rs _ P1.out (HR.out.below P3.out) (by omega) (by omega) c HC.out).mono ?_
        rintro e w2 ⟨rfl, b2⟩
        have HB2 : Hid (Below w.heap.size w w2) := chain P3.out b2
        clear b2
        go_wp2_with fail
        go_roundg ((hi - m).toNat)
        case measure => omega
        case rel => exact ⟨m, hi, rfl, rfl, Nat.le_refl _, by omega, by omega, l2, HLE.out, HHI.out, HB2.out⟩
      · have HLE : Hid (val rs < val bs * m) := Int.not_le.1 hle
        have HC : Hid ((1 : Int) = cmpI (val p) (val rs)) := by
          show (1 : Int) = cmpI (val p) (val rs)
          rw [P2.out.val, cmpI_gt HLE.out]
        clear hle
        go_wp2_with fail
        refine (rcmp_val _ _ _ _ _ _ p rs _ P1.out (HR.out.below P3.out) (by omega) (by omega) 1 HC.out).mono ?_
        rintro e w2 ⟨rfl, b2⟩
        have HB2 : Hid (Below w.heap.size w w2) := chain P3.out b2
        clear b2
        go_wp2_with fail
        go_roundg ((m - lo).toNat)
        case measure => omega
        case rel => exact ⟨lo, m, rfl, rfl, Nat.le_refl _, by omega, by omega, by omega, HLO.out, HLE.out, HB2.out⟩
    · have HE : Hid (lo = val rs / val bs) := by
        have e : hi = lo + 1 := by omega
        have h1 : lo ≤ val rs / val bs := by rw [Int.le_ediv_iff_mul_le HP.out, Int.mul_comm]; exact HLO.out
        have h2 : val rs / val bs < lo + 1 := by rw [Int.ediv_lt_iff_lt_mul HP.out, Int.mul_comm, ← e]; exact HHI.out
        show lo = val rs / val bs
        omega
      go_wp2_with fail
      go_ret
      exact ⟨ret_int HE.out, HBL.out⟩

end Go.Proofs.YtghnmfkgpkikfaaGreatDoor

/-! The reference's Add. -/
namespace Go.Proofs.YtghnmfkgpkikfaaGreatDoor
open Go.RowKit

theorem radd_step {v c x y p q P : Int} (h : v + c * P = p + q) : v + ((x + y + c) % HH) * P + ((x + y + c) / HH) * (P * HH) = (p + x * P) + (q + y * P) := by
  have h1 := Int.emod_add_mul_ediv (x + y + c) HH
  have h2 : ((x + y + c) % HH + HH * ((x + y + c) / HH)) * P = (x + y + c) * P := by rw [h1]
  grind

/-- What the loop of the reference's Add holds. -/
structure RAddInv (w2 : World) (dx dy : List Int) (M k g c : Nat) (cv : Int) (zs : List Int) (wr : World) : Prop where
  own : OwnR wr w2.heap.size g k c zs
  bel : Below w2.heap.size w2 wr
  halves : Halves zs
  len : zs.length = k
  c0 : 0 ≤ cv
  c1 : cv ≤ 1
  val : hval zs + cv * HH ^ k = hpv dx k + hpv dy k
  most : k ≤ M + 1
  last : k = M + 1 → cv = 0

theorem RAddInv.next {w2 : World} {dx dy : List Int} {M k g c : Nat} {cv : Int} {zs : List Int} {wr : World} (h : RAddInv w2 dx dy M k g c cv zs wr) (hx : Halves dx) (hy : Halves dy) (lx : dx.length ≤ M) (ly : dy.length ≤ M) (hgo : k < M ∨ 0 < cv)
    {s : Int} (hs : s = lim dx k + lim dy k + cv) {gg cp : Nat} {w1 : World} (ho : OwnR w1 w2.heap.size gg (k + 1) cp (zs ++ [s % 4294967296])) (hg : (wr.alloc (Obj.cells #[.int .u64 (s % 4294967296)] 24)).grownBy w1 (some g)) :
    RAddInv w2 dx dy M (k + 1) gg cp (s / 4294967296) (zs ++ [s % 4294967296]) w1 := by
  have bx := half_bd hx k
  have bY := half_bd hy k
  have hgw := h.own.lt
  have c0 := h.c0
  have c1 := h.c1
  have hsz := h.bel.size
  have hM : k ≤ M := by
    rcases Nat.lt_or_ge M k with h' | h'
    · have := h.most
      have := h.last (by omega)
      omega
    · exact h'
  refine ⟨ho, (h.bel.alloc hsz _).grown hg (by simp; omega) (fun j hj => by cases hj; exact hgw.1), halves_snoc h.halves (by omega) (by unfold HH; omega), by simp [h.len], ?_, ?_, ?_, by omega, fun e => ?_⟩
  · unfold HH at bx bY; omega
  · unfold HH at bx bY; omega
  · rw [hval_snoc, h.len, hw_succ, hpv, hpv, hs]
    exact radd_step h.val
  · have e2 : k = M := by omega
    rw [lim_past dx k (by omega), lim_past dy k (by omega)] at hs
    omega

set_option maxRecDepth 100000 in
set_option maxHeartbeats 2000000 in
theorem radd_fresh (ao bo : Option Addr) (na ca nb cb : Nat) (xs ys : List Int) (w : World) (ha : RowAt w ao na ca xs) (hb : RowAt w bo nb cb ys) (hna : na ≤ 90000) (hnb : nb ≤ 90000) :
    Calls Tryz.prog 19 #[.slice ao na ca, .slice bo nb cb] w fun e w' => ∃ ro m cap r, e = .returned (.slice ro m cap) ∧ RowAt w' ro m cap r ∧ Num r (val xs + val ys) ∧ Fresh w.heap.size ro ∧ Below w.heap.size w w' := by
  obtain ⟨i0, hi, hz0, hz1, hz2⟩ := info_parts Tryz.info24
  have HA : Hid (RowAt w ao na ca xs) := ha
  have HB : Hid (RowAt w bo nb cb ys) := hb
  have HX : Hid (Halves (hd xs) ∧ (hd xs).length = 2 * na ∧ hval (hd xs) = val xs) := ⟨hd_halves ha.limbs, by rw [hd_length, ha.len], hd_val xs⟩
  have HY : Hid (Halves (hd ys) ∧ (hd ys).length = 2 * nb ∧ hval (hd ys) = val ys) := ⟨hd_halves hb.limbs, by rw [hd_length, hb.len], hd_val ys⟩
  clear ha hb
  go_enter Tryz.func19, Tryz.ntmps19
  go_wp2_with fail
  refine (digits_any _ _ _ xs _ HA.out (by omega)).mono ?_
  rintro e w1 ⟨xo, xc, rfl, hx1, b1⟩
  have X1 : Hid (RowAt w1 xo (2 * na) xc (hd xs)) := hx1
  have B1 : Hid (Below w.heap.size w w1) := b1
  clear hx1 b1
  go_wp2_with fail
  refine (digits_any _ _ _ ys _ (HB.out.below B1.out) (by omega)).mono ?_
  rintro e w2 ⟨yo, yc, rfl, hy2, b2⟩
  have X2 : Hid (RowAt w2 xo (2 * na) xc (hd xs)) := X1.out.below b2
  have Y2 : Hid (RowAt w2 yo (2 * nb) yc (hd ys)) := hy2
  have B2 : Hid (Below w.heap.size w w2) := chain B1.out b2
  clear hy2 b2 X1 B1 HA HB
  generalize hd xs = dx at *
  generalize hd ys = dy at *
  go_wp2_with fail
  go_loopw [7, 8, 9, 10] (fun o cr i _ wr => ∃ (k g c : Nat) (cv : Int) (zs : List Int), i = .int .i64 k ∧ o = .slice (some ⟨g, 0, none⟩) k c ∧ cr = .int .u64 cv ∧ RAddInv w2 dx dy (max (2 * na) (2 * nb)) k g c cv zs wr) (fun _ _ i _ _ => max (2 * na) (2 * nb) + 2 - (intOf i).toNat)
  case atStart => exact ⟨0, w2.heap.size, 0, 0, [], rfl, rfl, rfl, ⟨OwnR.nil w2, (Below.refl _ _).alloc (Nat.le_refl _) _, by intro x hx; simp at hx, rfl, Int.le_refl _, by omega, by simp [hval, hpv], by omega, fun _ => rfl⟩⟩
  case round =>
    obtain ⟨k, g, c, cv, zs, rfl, rfl, rfl, hinv⟩ := hrel
    have HI : Hid (RAddInv w2 dx dy (max (2 * na) (2 * nb)) k g c cv zs wr) := hinv
    have hkM := hinv.most
    have c0 := hinv.c0
    have c1 := hinv.c1
    have hsz : w2.heap.size ≤ wr.heap.size := hinv.bel.size
    have bx := half_bd HX.out.1 k
    have bY := half_bd HY.out.1 k
    obtain ⟨x, hx⟩ : ∃ x, x = lim dx k := ⟨_, rfl⟩
    obtain ⟨y, hy⟩ : ∃ y, y = lim dy k := ⟨_, rfl⟩
    rw [← hx] at bx
    rw [← hy] at bY
    have EX : Hid (x = lim dx k) := hx
    have EY : Hid (y = lim dy k) := hy
    unfold HH at bx bY
    have x0 := bx.1
    have x1 := bx.2
    have y0 := bY.1
    have y1 := bY.2
    clear hinv hx hy bx bY
    by_cases t1 : (k : Int) < ((2 * na : Nat) : Int)
    · go_wp2_with fail
      refine (rat_any _ _ _ dx k _ (X2.out.below HI.out.bel)).mono ?_
      rintro e w3 ⟨rfl, hw⟩
      rw [hw, ← EX.out]
      clear hw
      go_wp2_with fail
      refine (rat_any _ _ _ dy k _ (Y2.out.below HI.out.bel)).mono ?_
      rintro e w3 ⟨rfl, hw⟩
      rw [hw, ← EY.out]
      clear hw
      go_wp2_with (at_builtin; refine wpList_append_lies _ rfl (.tmp 41) (.tmp 44) 22 rfl w2.heap.size 24 i0 (.int .u64 0) 1 8 Tryz.underlying22 hi hz0 hz1 hz2 rfl (by decide) _ k (zs.map (Value.int .u64)) rfl (HI.out.own.alloc _) ⟨wr.heap.size, 0, none⟩ 1 1 [.int .u64 ((x + y + cv) % 4294967296)] rfl rfl (World.news_of_block (cs := #[.int .u64 ((x + y + cv) % 4294967296)]) (t := 24) (fr := (0, 0)) (heap_alloc_new wr _)) (by simp [Value.oneCell']) (by omega) (by unfold maxLen; omega) (by omega) (by simp; omega) (wr.heap.size + 1) (by simp) ?_)
      intro gg cp w3 hown1 hgrow _ _
      have hr := HI.out.next HX.out.1 HY.out.1 (by have := HX.out.2.1; omega) (by have := HY.out.2.1; omega) (by omega) (s := x + y + cv) (by rw [EX.out, EY.out]) (by unfold OwnR; rw [List.map_append]; exact hown1) hgrow
      have HR : Hid _ := hr
      clear hr hown1 hgrow
      go_wp2_with fail
      go_roundw
      case rel => exact ⟨k + 1, gg, cp, _, _, by go_num, rfl, rfl, HR.out⟩
      case measure => simp [intOf]; omega
    · by_cases t2 : (k : Int) < ((2 * nb : Nat) : Int)
      · go_wp2_with fail
        refine (rat_any _ _ _ dx k _ (X2.out.below HI.out.bel)).mono ?_
        rintro e w3 ⟨rfl, hw⟩
        rw [hw, ← EX.out]
        clear hw
        go_wp2_with fail
        refine (rat_any _ _ _ dy k _ (Y2.out.below HI.out.bel)).mono ?_
        rintro e w3 ⟨rfl, hw⟩
        rw [hw, ← EY.out]
        clear hw
        go_wp2_with (at_builtin; refine wpList_append_lies _ rfl (.tmp 41) (.tmp 44) 22 rfl w2.heap.size 24 i0 (.int .u64 0) 1 8 Tryz.underlying22 hi hz0 hz1 hz2 rfl (by decide) _ k (zs.map (Value.int .u64)) rfl (HI.out.own.alloc _) ⟨wr.heap.size, 0, none⟩ 1 1 [.int .u64 ((x + y + cv) % 4294967296)] rfl rfl (World.news_of_block (cs := #[.int .u64 ((x + y + cv) % 4294967296)]) (t := 24) (fr := (0, 0)) (heap_alloc_new wr _)) (by simp [Value.oneCell']) (by omega) (by unfold maxLen; omega) (by omega) (by simp; omega) (wr.heap.size + 1) (by simp) ?_)
        intro gg cp w3 hown1 hgrow _ _
        have hr := HI.out.next HX.out.1 HY.out.1 (by have := HX.out.2.1; omega) (by have := HY.out.2.1; omega) (by omega) (s := x + y + cv) (by rw [EX.out, EY.out]) (by unfold OwnR; rw [List.map_append]; exact hown1) hgrow
        have HR : Hid _ := hr
        clear hr hown1 hgrow
        go_wp2_with fail
        go_roundw
        case rel => exact ⟨k + 1, gg, cp, _, _, by go_num, rfl, rfl, HR.out⟩
        case measure => simp [intOf]; omega
      · by_cases t3 : 0 < cv
        · go_wp2_with fail
          refine (rat_any _ _ _ dx k _ (X2.out.below HI.out.bel)).mono ?_
          rintro e w3 ⟨rfl, hw⟩
          rw [hw, ← EX.out]
          clear hw
          go_wp2_with fail
          refine (rat_any _ _ _ dy k _ (Y2.out.below HI.out.bel)).mono ?_
          rintro e w3 ⟨rfl, hw⟩
          rw [hw, ← EY.out]
          clear hw
          go_wp2_with (at_builtin; refine wpList_append_lies _ rfl (.tmp 41) (.tmp 44) 22 rfl w2.heap.size 24 i0 (.int .u64 0) 1 8 Tryz.underlying22 hi hz0 hz1 hz2 rfl (by decide) _ k (zs.map (Value.int .u64)) rfl (HI.out.own.alloc _) ⟨wr.heap.size, 0, none⟩ 1 1 [.int .u64 ((x + y + cv) % 4294967296)] rfl rfl (World.news_of_block (cs := #[.int .u64 ((x + y + cv) % 4294967296)]) (t := 24) (fr := (0, 0)) (heap_alloc_new wr _)) (by simp [Value.oneCell']) (by omega) (by unfold maxLen; omega) (by omega) (by simp; omega) (wr.heap.size + 1) (by simp) ?_)
          intro gg cp w3 hown1 hgrow _ _
          have hr := HI.out.next HX.out.1 HY.out.1 (by have := HX.out.2.1; omega) (by have := HY.out.2.1; omega) (by omega) (s := x + y + cv) (by rw [EX.out, EY.out]) (by unfold OwnR; rw [List.map_append]; exact hown1) hgrow
          have HR : Hid _ := hr
          clear hr hown1 hgrow
          go_wp2_with fail
          go_roundw
          case rel => exact ⟨k + 1, gg, cp, _, _, by go_num, rfl, rfl, HR.out⟩
          case measure => simp [intOf]; omega
        · have HR : Hid (RowAt wr (some ⟨g, 0, none⟩) k c zs) := HI.out.own.row HI.out.halves.limbs
          go_wp2_with fail
          refine (whole_fresh _ _ _ zs _ HR.out HI.out.halves (by omega)).mono ?_
          rintro e w3 ⟨ro, m, cp, r, rfl, h1, h2, h3, hf, h4⟩
          have HFR : Hid (Fresh w.heap.size ro) := hf.mono (Nat.le_trans B2.out.size HI.out.bel.size)
          clear hf
          go_wp2
          go_ret
          refine ⟨ro, m, cp, r, rfl, h1, ?_, HFR.out, chain B2.out (chain HI.out.bel h4)⟩
          have hv := HI.out.val
          rw [show cv = 0 by omega, hpv_val dx k (by have := HX.out.2.1; omega), hpv_val dy k (by have := HY.out.2.1; omega), HX.out.2.2, HY.out.2.2] at hv
          rw [show hval zs = val xs + val ys by omega] at h2
          exact h2

theorem radd_any (ao bo : Option Addr) (na ca nb cb : Nat) (xs ys : List Int) (w : World) (ha : RowAt w ao na ca xs) (hb : RowAt w bo nb cb ys) (hna : na ≤ 90000) (hnb : nb ≤ 90000) :
    Calls Tryz.prog 19 #[.slice ao na ca, .slice bo nb cb] w fun e w' => ∃ ro m cap r, e = .returned (.slice ro m cap) ∧ RowAt w' ro m cap r ∧ Num r (val xs + val ys) ∧ Below w.heap.size w w' :=
  (radd_fresh ao bo na ca nb cb xs ys w ha hb hna hnb).mono fun _ _ ⟨ro, m, cp, r, h1, h2, h3, _, h6⟩ => ⟨ro, m, cp, r, h1, h2, h3, h6⟩
end Go.Proofs.YtghnmfkgpkikfaaGreatDoor

/-! The reference's Of: its row lies in memory of its own. -/
namespace Go.Proofs.YtghnmfkgpkikfaaGreatDoor
open Go.RowKit

set_option maxHeartbeats 400000 in
theorem rof_fresh (x : Int) (w : World) (h0 : 0 ≤ x) (h1 : x < BB) :
    Calls Tryz.prog 49 #[.int .u64 x] w fun e w' => ∃ ro m cap r, e = .returned (.slice ro m cap) ∧ RowAt w' ro m cap r ∧ Num r x ∧ m ≤ 1 ∧ Fresh w.heap.size ro ∧ Below w.heap.size w w' := by
  have H : Hid (RowAt (w.alloc (Obj.cells #[.int .u64 x] 24)) (some ⟨w.heap.size, 0, none⟩) 1 1 [x]) := RowAt.laid w [x] (by intro y hy; simp at hy; subst hy; exact ⟨h0, h1⟩) (by simp [maxLen])
  go_enter Tryz.func49, Tryz.ntmps49
  go_wp2_with fail
  refine (rtrim_fresh _ _ _ [x] _ H.out (by omega)).mono ?_
  rintro e w1 ⟨ro, m, cap, r, rfl, g1, g2, g3, g5, g4⟩
  rw [show val [x] = x by simp [val]] at g2
  have G : Hid (Num r x) := g2
  have G4 : Hid _ := g4
  have G5 : Hid (Fresh w.heap.size ro) := g5.mono (by simp)
  clear g2 g4 g5
  go_wp2
  go_ret
  exact ⟨ro, m, cap, r, rfl, g1, G.out, g3, G5.out, chain ((Below.refl _ _).alloc (Nat.le_refl _) _) G4.out⟩

end Go.Proofs.YtghnmfkgpkikfaaGreatDoor

/-! The reference's Div of layer 3: both of one limb. -/
namespace Go.Proofs.YtghnmfkgpkikfaaGreatDoor
open Go.RowKit
attribute [local go_sem ↓] Go.wp_at_zero Go.wp_at_succ

set_option maxRecDepth 100000 in
set_option maxHeartbeats 4000000 in
theorem rqdiv_one (ao bo : Option Addr) (na ca nb cb : Nat) (xs ys : List Int) (w : World) (ha : RowAt w ao na ca xs) (hb : RowAt w bo nb cb ys) (hx : May xs) (hy : May ys) (hz : val ys ≠ 0) (h1 : na = 1) (h2 : nb = 1) :
    Calls Tryz.prog 48 #[.slice ao na ca, .slice bo nb cb] w fun e w' => ∃ qo qn qc q ro rn rc r k, e = .returned (.tuple #[.slice qo qn qc, .slice ro rn rc, .int .i64 k]) ∧ RowAt w' qo qn qc q ∧ RowAt w' ro rn rc r ∧ DivOut xs ys q r k ∧ Fresh w.heap.size qo ∧ Below w.heap.size w w' := by
  subst h1 h2
  have HA : Hid (RowAt w ao 1 ca xs) := ha
  have HB : Hid (RowAt w bo 1 cb ys) := hb
  have HX : Hid (May xs) := hx
  have HY : Hid (May ys) := hy
  have HZ : Hid (val ys ≠ 0) := hz
  clear ha hb hx hy hz
  have lx := HA.out.len
  have lY := HB.out.len
  obtain ⟨ab, aoff, rfl, halt, hac⟩ := HA.out.cells (by intro e; rw [e] at lx; simp at lx)
  obtain ⟨bb, boff, rfl, hblt, hbc⟩ := HB.out.cells (by intro e; rw [e] at lY; simp at lY)
  have ca0 := hac 0 (by omega)
  have cb0 := hbc 0 (by omega)
  rw [← lim_nat] at ca0 cb0
  have ex : lim xs 0 = val xs := by
    rw [← pv_val xs 1 (by omega)]
    simp [pv]
  have ey : lim ys 0 = val ys := by
    rw [← pv_val ys 1 (by omega)]
    simp [pv]
  have bx := lim_bd HA.out.limbs 0
  have bY := lim_bd HB.out.limbs 0
  rw [ex] at bx
  rw [ey] at bY
  rw [show ((0 : Nat) : Int) = 0 from rfl, ex, Nat.add_zero] at ca0
  rw [show ((0 : Nat) : Int) = 0 from rfl, ey, Nat.add_zero] at cb0
  obtain ⟨x, hx⟩ : ∃ x, x = val xs := ⟨_, rfl⟩
  obtain ⟨y, hy⟩ : ∃ y, y = val ys := ⟨_, rfl⟩
  rw [← hx] at ca0 bx
  rw [← hy] at cb0 bY
  have hyn : y ≠ 0 := by rw [hy]; exact HZ.out
  obtain ⟨xq, hxq⟩ : ∃ v, x / y = v := ⟨_, rfl⟩
  obtain ⟨xr, hxr⟩ : ∃ v, x % y = v := ⟨_, rfl⟩
  have q0 : 0 ≤ xq := by rw [← hxq]; exact Int.ediv_nonneg bx.1 bY.1
  have q1 : xq < BB := by have h := Int.ediv_le_self y bx.1; have := bx.2; omega
  have r0 : 0 ≤ xr := by rw [← hxr]; exact Int.emod_nonneg x hyn
  have r1 : xr < BB := by
    have h := Int.emod_lt_of_pos x (show 0 < y by have := bY.1; omega)
    have := bY.2
    omega
  have ht1 : IntKind.u64.wrap (x.tdiv y) = xq := by
    rw [Int.tdiv_eq_ediv_of_nonneg bx.1, hxq, IntKind.wrap_u64]
    unfold BB at q1
    omega
  have ht2 : x.tmod y = xr := by rw [Int.tmod_eq_emod_of_nonneg bx.1, hxr]
  have x0 := bx.1
  have y0 := bY.1
  have x9 : x ≤ 18446744073709551615 := by have := bx.2; unfold BB at this; omega
  have y9 : y ≤ 18446744073709551615 := by have := bY.2; unfold BB at this; omega
  have QB : Hid ((0 ≤ xq ∧ xq < BB) ∧ (0 ≤ xr ∧ xr < BB)) := ⟨⟨q0, q1⟩, r0, r1⟩
  have HQR : Hid (xq = val xs / val ys ∧ xr = val xs % val ys) := by rw [← hxq, ← hxr, hx, hy]; exact ⟨rfl, rfl⟩
  clear hac hbc ex ey bx bY lx lY hxq hxr hx hy q1 r1
  go_enter Tryz.func48, Tryz.ntmps48
  go_wp2_with fail
  refine (rmay_val _ _ _ xs _ HA.out true (yes_iff HX.out)).mono ?_
  rintro e w1 ⟨rfl, rfl⟩
  go_wp2_with fail
  refine (rmay_val _ _ _ ys _ HB.out true (yes_iff HY.out)).mono ?_
  rintro e w1 ⟨rfl, rfl⟩
  go_wp2_with fail
  go_region_held3 (fun w' => w'.cell? ⟨ab, aoff, none⟩ = some (.int .u64 x) ∧ w'.cell? ⟨bb, boff, none⟩ = some (.int .u64 y)) (first | go_keep | (refine ⟨?_, ?_⟩; (rw [bz.cell (p := ⟨ab, aoff, none⟩) halt]; assumption); (rw [bz.cell (p := ⟨bb, boff, none⟩) hblt]; assumption)))
    (first
      | (go_at_call_of 49 (Value.int IntKind.u64 xq); refine (rof_fresh xq _ QB.out.1.1 QB.out.1.2).mono ?_; rintro e w2 ⟨qo, qm, qc, q, rfl, g1, g2, g3, g5, g4⟩; have bz := (Below.refl w.heap.size w).drew.trans g4)
      | (go_at_call 49; refine (rof_any xr _ QB.out.2.1 QB.out.2.2).mono ?_; rintro e w3 ⟨ro, rm, rc, r, rfl, k1, k2, k3, k4⟩; have by1 := g1.below k4; have bz := bz.trans (k4.mono bz.size)))
  have T1 : Hid (RowAt w3 qo qm qc q) := by1
  have T2 : Hid (RowAt w3 ro rm rc r) := k1
  have T3 : Hid (Num q (val xs / val ys)) := by
    rw [HQR.out.1] at g2
    exact g2
  have T4 : Hid (Num r (val xs % val ys)) := by
    rw [HQR.out.2] at k2
    exact k2
  have T5 : Hid (Below w.heap.size w w3) := bz
  have T6 : Hid (Fresh w.heap.size qo) := g5
  clear by1 g1 g2 g3 g4 g5 k1 k2 k3 k4 bz
  go_wp2_with fail
  go_ret3
  exact ⟨qo, qm, qc, q, ro, rm, rc, r, 0, rfl, T1.out, T2.out, .fine ⟨HX.out, HY.out⟩ HZ.out T3.out T4.out, T6.out, T5.out⟩

end Go.Proofs.YtghnmfkgpkikfaaGreatDoor
