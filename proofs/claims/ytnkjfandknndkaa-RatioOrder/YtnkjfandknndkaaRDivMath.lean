/-
  The reference's division, half a limb at a time, as arithmetic: no program.
-/
import Derived.Test.YtnkjfandknndkaaQuotMath
import Derived.Test.YtnkjfandknndkaaRMul
namespace Go.Proofs.Ytnkjfandknndkaa
open Go.RowKit

/-- What the reference's loop holds ahead of the place k - 1. -/
structure RInv (ds : List Int) (V : Int) (L k : Nat) (qs : List Int) (rv : Int) : Prop where
  len : qs.length = L
  halves : Halves qs
  r0 : 0 ≤ rv
  r1 : rv < V
  zeros : ∀ j : Nat, j < k → lim qs j = 0
  eq : hval ds = hval qs * V + rv * HH ^ k + hpv ds k

theorem rinv_start {ds : List Int} {V : Int} {L : Nat} (hV : 0 < V) (hL : ds.length = L) : RInv ds V L L (List.replicate L 0) 0 :=
  ⟨by simp, halves_zeros L, Int.le_refl _, hV, fun j _ => lim_zeros L j, by rw [hval_zeros, hpv_val ds L (by omega)]; simp⟩

theorem rinv_big {ds : List Int} {V : Int} {L k : Nat} {qs : List Int} {rv : Int} (h : RInv ds V L (k + 1) qs rv) (hd : Halves ds) : 0 ≤ rv * HH + lim ds k ∧ rv * HH + lim ds k < V * HH := by
  have hb := half_bd hd k
  have h0 := h.r0
  have h1 : rv + 1 ≤ V := h.r1
  have h2 := Int.mul_le_mul_of_nonneg_right h1 (Int.le_of_lt HH_pos)
  have h3 := Int.mul_nonneg h0 (Int.le_of_lt HH_pos)
  rw [Int.add_mul, Int.one_mul] at h2
  omega

theorem rinv_skip {ds : List Int} {V : Int} {L k : Nat} {qs : List Int} {rv tv : Int} (h : RInv ds V L (k + 1) qs rv) (hd : Halves ds) (ht : tv = rv * HH + lim ds k) (hlt : tv < V) : RInv ds V L k qs tv := by
  have hb := rinv_big h hd
  refine ⟨h.len, h.halves, by omega, hlt, fun j hj => h.zeros j (by omega), ?_⟩
  rw [h.eq, ht, hpv, hw_succ]
  grind

theorem rinv_next {ds : List Int} {V : Int} {L k : Nat} {qs : List Int} {rv tv d : Int} (h : RInv ds V L (k + 1) qs rv) (hd : Halves ds) (hk : k < L) (ht : tv = rv * HH + lim ds k) (hdd : d = tv / V) : RInv ds V L k (qs.set k d) (tv - V * d) := by
  have hb := rinv_big h hd
  have hV : 0 < V := by have := h.r0; have := h.r1; omega
  have h1 := Int.emod_add_mul_ediv tv V
  have h2 := Int.emod_lt_of_pos tv hV
  have h3 := Int.emod_nonneg tv (show V ≠ 0 by omega)
  rw [← hdd] at h1
  have d0 : 0 ≤ d := by rw [hdd]; exact Int.ediv_nonneg (by omega) (by omega)
  have d1 : d < HH := by rw [hdd]; exact Int.ediv_lt_of_lt_mul hV (by rw [Int.mul_comm]; omega)
  refine ⟨by simp [h.len], halves_set h.halves k d0 d1, by omega, by omega, fun j hj => ?_, ?_⟩
  · have := h.zeros j (by omega)
    rw [lim_nat] at this ⊢
    rw [List.getD_eq_getElem?_getD, List.getElem?_set_ne (by omega), ← List.getD_eq_getElem?_getD]
    exact this
  · rw [hval_set qs k d (by rw [h.len]; exact hk), h.zeros k (by omega), h.eq, hpv, hw_succ, ht]
    grind

theorem rinv_end {ds : List Int} {V : Int} {L : Nat} {qs : List Int} {rv : Int} (h : RInv ds V L 0 qs rv) : hval qs = hval ds / V ∧ rv = hval ds % V := by
  have e := h.eq
  simp only [hpv, Int.pow_zero, Int.mul_one, Int.add_zero] at e
  have h0 := h.r0
  have h1 := h.r1
  have e2 : hval ds = rv + V * hval qs := by rw [Int.mul_comm V]; omega
  refine ⟨?_, ?_⟩
  · rw [e2, Int.add_mul_ediv_left _ _ (by omega), Int.ediv_eq_zero_of_lt h0 h1]; omega
  · rw [e2, Int.add_mul_emod_self_left, Int.emod_eq_of_lt h0 h1]

theorem OwnR.below {w w' : World} {base g n cap : Nat} {zs : List Int} (h : OwnR w base g n cap zs) (hb : Below w.heap.size w w') : OwnR w' base g n cap zs := by
  refine ⟨h.1, ?_⟩
  rcases h.2 with ⟨e, h0⟩ | ⟨g', cap', cur, e, hg, hh, hr⟩
  · cases e
  · cases e
    exact .inr ⟨g, cap, cur, rfl, hg, (hb.block g (lt_of_block hh)).trans hh, hr⟩

/-- What the reference's loop of Div holds, with what lies in memory. -/
structure RDivRel (w1 : World) (g c L j : Nat) (ds : List Int) (V : Int) (ro : Option Addr) (nr cr : Nat) (rs qs : List Int) (rv : Int) (wr : World) : Prop where
  row : RowAt wr ro nr cr rs
  num : Num rs rv
  own : OwnR wr w1.heap.size g L c qs
  bel : Below w1.heap.size w1 wr
  inv : RInv ds V L j qs rv

theorem Num.few {r : List Int} {v V : Int} {n : Nat} (h : Num r v) (hv : v < V) (hV : V ≤ BB ^ n) : r.length ≤ n := by
  rcases Nat.lt_or_ge n r.length with hg | hg
  · obtain ⟨j, hj⟩ : ∃ j, r.length = j + 1 := ⟨r.length - 1, by omega⟩
    have h1 := val_ge h.limbs h.trim j hj
    rw [h.val] at h1
    have := pw_le (show n ≤ j by omega)
    omega
  · exact hg

/-- The digit is laid, and taken off. -/
theorem RDivRel.next {w1 : World} {g c L k : Nat} {ds : List Int} {V : Int} {ro so : Option Addr} {nr cr sm sc : Nat} {rs qs ss : List Int} {rv tv d : Int} {wr w3 w5 : World} (h : RDivRel w1 g c L (k + 1) ds V ro nr cr rs qs rv wr) (hd : Halves ds) (hk : k < L) (ht : tv = rv * HH + lim ds k) (hdd : d = tv / V)
    (hb : Below wr.heap.size wr w3) (hb5 : Below w3.heap.size (w3.setCell ⟨g, k, none⟩ (.int .u64 d)) w5) (hss : RowAt w5 so sm sc ss) (hn : Num ss (tv - V * d)) :
    RDivRel w1 g c L k ds V so sm sc ss (qs.set k d) (tv - V * d) w5 := by
  have ho := h.own.below hb
  have hst := World.ownsRow.stored ho k (.int .u64 d)
  have hbs : Below (w3.setCell ⟨g, k, none⟩ (.int .u64 d)).heap.size (w3.setCell ⟨g, k, none⟩ (.int .u64 d)) w5 := by
    have e : (w3.setCell ⟨g, k, none⟩ (.int .u64 d)).heap.size = w3.heap.size := by simp [World.setCell]
    rw [e]; exact hb5
  refine ⟨hss, hn, ?_, ?_, rinv_next h.inv hd hk ht hdd⟩
  · refine OwnR.below (w := w3.setCell ⟨g, k, none⟩ (.int .u64 d)) ?_ hbs
    unfold OwnR
    rw [List.map_set]
    exact hst.1
  · have h1 := h.bel.trans (hb.mono h.bel.size)
    exact (h1.setCell (p := ⟨g, k, none⟩) h.own.lt.1 _).trans (hb5.mono h1.size)

theorem RDivRel.skip {w1 : World} {g c L k : Nat} {ds : List Int} {V : Int} {ro so : Option Addr} {nr cr sm sc : Nat} {rs qs ss : List Int} {rv tv : Int} {wr w3 : World} (h : RDivRel w1 g c L (k + 1) ds V ro nr cr rs qs rv wr) (hd : Halves ds) (ht : tv = rv * HH + lim ds k) (hlt : tv < V)
    (hb : Below wr.heap.size wr w3) (hss : RowAt w3 so sm sc ss) (hn : Num ss tv) :
    RDivRel w1 g c L k ds V so sm sc ss qs tv w3 :=
  ⟨hss, hn, h.own.below hb, h.bel.trans (hb.mono h.bel.size), rinv_skip h.inv hd ht hlt⟩

end Go.Proofs.Ytnkjfandknndkaa
