/-
  Joined: RatB · Add2 · Add · RatC · NatAdd · NatSub · NatCmp · RatD · RatE · RatF · RRatB · RatH · RatG · RatI · RRatA · RPlus · RRatC · ROf.
-/
import Derived.Test.YtnkjfandknndkaaJ1
import Derived.Test.YtnkjfandknndkaaAdd1
import Derived.Deep.RegionHeld3
import Derived.Deep.DrawnRows
import Derived.Test.YtnkjfandknndkaaNatOps
import Derived.Test.YtnkjfandknndkaaNatBase
import Derived.Test.YtnkjfandknndkaaCmp
import Derived.Test.YtnkjfandknndkaaSame
import Derived.Test.YtnkjfandknndkaaRTrim
import Derived.Test.YtnkjfandknndkaaMul

/-! ratio: Make, Of. -/
namespace Go.Proofs.Ytnkjfandknndkaa
open Go.RowKit

set_option maxHeartbeats 1000000 in
theorem make_any (neg : Bool) (xo : Option Addr) (xn xc : Nat) (yo : Option Addr) (yn yc : Nat) (xs ys : List Int) (w : World) (hx : RowAt w xo xn xc xs) (hy : RowAt w yo yn yc ys) :
    Calls Try.prog 11 #[.bool neg, .slice xo xn xc, .slice yo yn yc] w fun e w' => ∃ rneg no nn nc eo en ec r k, e = .returned (.tuple #[.agg #[.bool rneg, .slice no nn nc, .slice eo en ec], .int .i64 k]) ∧ r.neg = rneg ∧ RatAt w' no nn nc eo en ec r ∧ MakeOut neg xs ys r k ∧ Below w.heap.size w w' := by
  have hxm := nn_most hx
  have hym := nn_most hy
  have bx := RBox.new w false none 0 0 none 0 0
  have hB0 : Below w.heap.size w (w.alloc (.cells #[.bool false, .slice none 0 0, .slice none 0 0] 28)) := (Below.refl _ _).alloc (Nat.le_refl _) _
  have H : Hid (RowAt (w.alloc (.cells #[.bool false, .slice none 0 0, .slice none 0 0] 28)) xo xn xc xs ∧ RowAt (w.alloc (.cells #[.bool false, .slice none 0 0, .slice none 0 0] 28)) yo yn yc ys ∧ RBox (w.alloc (.cells #[.bool false, .slice none 0 0, .slice none 0 0] 28)) w.heap.size false none 0 0 none 0 0 ∧ Below w.heap.size w (w.alloc (.cells #[.bool false, .slice none 0 0, .slice none 0 0] 28))) := ⟨hx.below hB0, hy.below hB0, bx, hB0⟩
  have HL : Hid (ys.length = yn ∧ xs.length = xn ∧ Limbs xs ∧ Limbs ys) := ⟨hy.len, hx.len, hx.limbs, hy.limbs⟩
  clear bx hB0 hx hy
  go_enter Try.func11, Try.ntmps11
  go_wp2_with fail
  refine (qgcd_any _ _ _ _ _ _ xs ys _ H.out.1 H.out.2.1).mono ?_
  rintro e w1 ⟨go, gn, gc, g, k, rfl, g1, g2, g3⟩
  have bx1 := H.out.2.2.1.below g3
  have c0 := bx1.c0
  have c1 := bx1.c1
  have c2 := bx1.c2
  have f0 := bx1.f 0
  have f1 := bx1.f 1
  have f2 := bx1.f 2
  have HG : Hid (RowAt w1 go gn gc g ∧ Out (May xs ∧ May ys) False (gcdI (val xs) (val ys)) g k ∧ Below w.heap.size w w1 ∧ RBox w1 w.heap.size false none 0 0 none 0 0 ∧ RowAt w1 xo xn xc xs ∧ RowAt w1 yo yn yc ys) := ⟨g1, g2, chain H.out.2.2.2 g3, bx1, H.out.1.below g3, H.out.2.1.below g3⟩
  clear g1 g2 g3 bx1
  by_cases hm : May xs ∧ May ys
  · have hlt := gcdI_lt (val_bd HL.out.2.2.1).1 (val_bd HL.out.2.2.2).1 (hm.1.lt HL.out.2.2.1) (hm.2.lt HL.out.2.2.2)
    obtain ⟨hk0, hnum⟩ := HG.out.2.1.ok_num hm (fun f => f) hlt
    subst hk0
    have HM : Hid ((May xs ∧ May ys) ∧ Num g (gcdI (val xs) (val ys)) ∧ gcdI (val xs) (val ys) < Big) := ⟨hm, hnum, hlt⟩
    clear hm hlt hnum
    by_cases hy0 : yn = 0
    · have HZ : Hid (val ys = 0) := (val_zero HL.out.2.2.2 HM.out.1.2 HL.out.1).1 hy0
      subst hy0
      have HR : Hid _ := HG.out.2.2.2.1.set false none 0 0 none 0 0
      go_wp2_with fail
      exact bodyPost_ret (results_r2 rfl _ HR.out rfl _ rfl) rfl ⟨false, none, 0, 0, none, 0, 0, rat0, 30, rfl, rfl, RatAt.zero _, ⟨fun h => absurd HM.out.1 h, fun _ _ => ⟨rfl, rfl⟩, fun _ h => absurd HZ.out h⟩, below_set HG.out.2.2.1 (Nat.le_refl _) _ _ _⟩
    · have HZ : Hid (val ys ≠ 0) := fun e => hy0 ((val_zero HL.out.2.2.2 HM.out.1.2 HL.out.1).2 e)
      have hy0b : ((yn : Int) == 0) = false := by rw [beq_eq_false_iff_ne]; omega
      have HGZ : Hid (val g ≠ 0) := by
        show val g ≠ 0
        rw [HM.out.2.1.val, gcdI_comm]
        have h1 := (val_bd HL.out.2.2.2).1
        have := gcdI_pos (a := val ys) (b := val xs) (by have := HZ.out; omega)
        omega
      have HMG : Hid (May g) := HM.out.2.1.may.2 HM.out.2.2
      clear hy0 c0 c1 c2 f0 f1 f2
      go_wp2_with fail
      refine (qdiv_any _ _ _ _ _ _ xs g _ HG.out.2.2.2.2.1 HG.out.1).mono ?_
      rintro e w2 ⟨po, pn, pc, p, so, sn, sc, s, pk, rfl, p1, p2, p3, p4⟩
      obtain ⟨_, hp, _⟩ := p3.is_fine ⟨HM.out.1.1, HMG.out⟩ HGZ.out
      rw [HM.out.2.1.val] at hp
      have HP : Hid (RowAt w2 po pn pc p ∧ Num p (val xs / gcdI (val xs) (val ys)) ∧ RowAt w2 go gn gc g ∧ RowAt w2 yo yn yc ys ∧ RBox w2 w.heap.size false none 0 0 none 0 0 ∧ Below w.heap.size w w2) := ⟨p1, hp, HG.out.1.below p4, HG.out.2.2.2.2.2.below p4, HG.out.2.2.2.1.below p4, chain HG.out.2.2.1 p4⟩
      clear p1 p2 p3 p4 hp
      go_wp2_with fail
      refine (qdiv_any _ _ _ _ _ _ ys g _ HP.out.2.2.2.1 HP.out.2.2.1).mono ?_
      rintro e w3 ⟨qo, qn, qc, q, to', tn, tc, t, qk, rfl, p1, p2, p3, p4⟩
      obtain ⟨_, hq, _⟩ := p3.is_fine ⟨HM.out.1.2, HMG.out⟩ HGZ.out
      rw [HM.out.2.1.val] at hq
      have hpm := nn_most (HP.out.1)
      have bx3 := HP.out.2.2.2.2.1.below p4
      have HQ : Hid (RowAt w3 po pn pc p ∧ Num p (val xs / gcdI (val xs) (val ys)) ∧ RowAt w3 qo qn qc q ∧ Num q (val ys / gcdI (val xs) (val ys)) ∧ RBox w3 w.heap.size false none 0 0 none 0 0 ∧ Below w.heap.size w w3 ∧ p.length = pn) := ⟨HP.out.1.below p4, HP.out.2.1, p1, hq, bx3, chain HP.out.2.2.2.2.2 p4, HP.out.1.len⟩
      have c0 := bx3.c0
      have c1 := bx3.c1
      have c2 := bx3.c2
      have f0 := bx3.f 0
      have f1 := bx3.f 1
      have f2 := bx3.f 2
      clear p1 p2 p3 p4 hq bx3
      have HI : Hid (Is ⟨neg && decide (0 < p.length), p, q⟩ (sg neg (val xs)) (val ys)) := Is.made HL.out.2.2.1 HL.out.2.2.2 HM.out.1.1 HM.out.1.2 HZ.out HQ.out.2.1 HQ.out.2.2.2.1
      cases neg with
      | false =>
        have HR : Hid _ := HQ.out.2.2.2.2.1.set false po pn pc qo qn qc
        have HT : Hid (RatAt _ po pn pc qo qn qc ⟨false, p, q⟩) := (⟨HQ.out.1, HQ.out.2.2.1⟩ : RatAt w3 po pn pc qo qn qc ⟨false, p, q⟩).setR HQ.out.2.2.2.2.1 (.bool false) (.slice po pn pc) (.slice qo qn qc)
        go_wp2_with fail
        exact bodyPost_ret (results_r2 rfl _ HR.out rfl _ rfl) rfl ⟨false, po, pn, pc, qo, qn, qc, ⟨false, p, q⟩, 0, rfl, rfl, HT.out, ⟨fun h => absurd HM.out.1 h, fun _ h => absurd h HZ.out, fun _ _ => ⟨rfl, HI.out⟩⟩, below_set HQ.out.2.2.2.2.2.1 (Nat.le_refl _) _ _ _⟩
      | true =>
        obtain ⟨sn', hsn⟩ : ∃ sn', sn' = decide (0 < pn) := ⟨_, rfl⟩
        have HI2 : Hid (Is ⟨sn', p, q⟩ (sg true (val xs)) (val ys)) := by
          have h := HI.out
          rw [HQ.out.2.2.2.2.2.2, ← hsn] at h
          exact h
        have HR : Hid _ := HQ.out.2.2.2.2.1.set sn' po pn pc qo qn qc
        have HT : Hid (RatAt _ po pn pc qo qn qc ⟨sn', p, q⟩) := (⟨HQ.out.1, HQ.out.2.2.1⟩ : RatAt w3 po pn pc qo qn qc ⟨sn', p, q⟩).setR HQ.out.2.2.2.2.1 (.bool sn') (.slice po pn pc) (.slice qo qn qc)
        go_wp2_with fail
        rw [← hsn]
        exact bodyPost_ret (results_r2 rfl _ HR.out rfl _ rfl) rfl ⟨sn', po, pn, pc, qo, qn, qc, ⟨sn', p, q⟩, 0, rfl, rfl, HT.out, ⟨fun h => absurd HM.out.1 h, fun _ h => absurd h HZ.out, fun _ _ => ⟨rfl, HI2.out⟩⟩, below_set HQ.out.2.2.2.2.2.1 (Nat.le_refl _) _ _ _⟩
  · obtain ⟨hk, _⟩ := HG.out.2.1.is_arg hm
    subst hk
    have HM : Hid (¬ (May xs ∧ May ys)) := hm
    have HR : Hid _ := HG.out.2.2.2.1.set false none 0 0 none 0 0
    clear hm
    go_wp2_with fail
    exact bodyPost_ret (results_r2 rfl _ HR.out rfl _ rfl) rfl ⟨false, none, 0, 0, none, 0, 0, rat0, 1, rfl, rfl, RatAt.zero _, ⟨fun _ => ⟨rfl, rfl⟩, fun h => absurd h HM.out, fun h => absurd h HM.out⟩, below_set HG.out.2.2.1 (Nat.le_refl _) _ _ _⟩

end Go.Proofs.Ytnkjfandknndkaa

/-! The closure of limb.Add: one limb of a sum, and the carry that it leaves. -/
namespace Go.Proofs.Ytnkjfandknndkaa
open Go.RowKit
attribute [local go_sem ↓] Go.wp_at_zero Go.wp_at_succ

set_option maxHeartbeats 4000000 in
theorem add1_any (ao bo : Option Addr) (na ca nb cb pa pb pc : Nat) (xs ys : List Int) (i : Nat) (c : Int) (w : World) (hi : i ≤ 1000000)
    (ha : RowAt w ao na ca xs) (hb : RowAt w bo nb cb ys) (hpa : w.cell? ⟨pa, 0, none⟩ = some (.slice ao na ca)) (hpb : w.cell? ⟨pb, 0, none⟩ = some (.slice bo nb cb))
    (hpc : w.cell? ⟨pc, 0, none⟩ = some (.int .u64 c)) (hfc : w.frozen? ⟨pc, 0, none⟩ = false) (hc0 : 0 ≤ c) (hc1 : c ≤ 1) :
    Calls Try.prog 86 #[.int .i64 i, .pointer (some ⟨pa, 0, none⟩), .pointer (some ⟨pb, 0, none⟩), .pointer (some ⟨pc, 0, none⟩)] w fun e w' =>
      e = .returned (.int .u64 ((lim xs i + lim ys i + c) % BB)) ∧ Eqw w' (w.setCell ⟨pc, 0, none⟩ (.int .u64 ((lim xs i + lim ys i + c) / BB))) := by
  have lx := (lim_bd ha.limbs i).1
  have ly := (lim_bd hb.limbs i).1
  have hadd := fun w => add64_any (lim xs i) (lim ys i) c w lx ly hc0 hc1
  go_enter Try.func86, Try.ntmps86
  go_wp2
  go_region_with (first
    | (go_at_call_of 74 (Value.slice ao na ca); refine (at_any _ _ _ xs _ _ ?_ ?_ ?_).mono ?_; exact ha.drew; omega; omega; rintro e w1 ⟨rfl, rfl⟩)
    | (go_at_call_of 74 (Value.slice bo nb cb); refine (at_any _ _ _ ys _ _ ?_ ?_ ?_).mono ?_; exact hb.drew; omega; omega; rintro e w1 ⟨rfl, rfl⟩))
  all_goals (go_wp2; go_ret; exact ⟨rfl, rfl, rfl, rfl, rfl⟩)

end Go.Proofs.Ytnkjfandknndkaa

/-! limb.Add: the sum. -/
namespace Go.Proofs.Ytnkjfandknndkaa
open Go.RowKit

/-- What the closure of Add holds while the limbs zs have been told. -/
def AddInv (w0 : World) (pa pb pc : Nat) (av bv : Value) (xs ys : List Int) (zs : List Int) (wr : World) : Prop :=
  Below w0.heap.size w0 wr ∧ wr.heap[pa]? = some (.cells #[av] 22 (0, 0)) ∧ wr.heap[pb]? = some (.cells #[bv] 22 (0, 0)) ∧
    ∃ c, wr.heap[pc]? = some (.cells #[.int .u64 c] 50 (0, 0)) ∧ 0 ≤ c ∧ c ≤ 1 ∧ val zs + c * BB ^ zs.length = pv xs zs.length + pv ys zs.length

theorem add_step {v c x y p q P r : Int} (h : v + c * P = p + q) (hr : r = x + y + c) : v + (r % BB) * P + (r / BB) * (P * BB) = (p + x * P) + (q + y * P) := by
  have h1 := Int.emod_add_mul_ediv r BB
  have h2 : (r % BB + BB * (r / BB)) * P = r * P := by rw [h1]
  rw [hr] at h2 ⊢
  grind

theorem carry_bd {x y c : Int} (hx : 0 ≤ x) (hy : 0 ≤ y) (hx1 : x < BB) (hy1 : y < BB) (h0 : 0 ≤ c) (h1 : c ≤ 1) : 0 ≤ (x + y + c) / BB ∧ (x + y + c) / BB ≤ 1 := by
  unfold BB at *
  omega

theorem add_end {v c a b P : Int} (h : v + c * (P * BB) = a + b) (hv : 0 ≤ v) (hP : 0 ≤ P) (ha : a < P) (hb : b < P) (hc : 0 ≤ c) (hc1 : c ≤ 1) : v = a + b := by
  have hB := BB_two
  rcases Int.lt_or_eq_of_le hc with h' | h'
  · have e : c = 1 := by omega
    subst e
    have := Int.mul_le_mul_of_nonneg_left hB hP
    omega
  · subst h'; omega

set_option maxHeartbeats 400000 in
theorem add_core (ao bo : Option Addr) (na ca nb cb pa pb pc n : Nat) (N : Int) (xs ys : List Int) (w0 W : World) (ha : RowAt w0 ao na ca xs) (hb : RowAt w0 bo nb cb ys) (hna : na ≤ n) (hnb : nb ≤ n) (hn : n ≤ 900000) (hN : N = ((n + 1 : Nat) : Int))
    (hbel : Below w0.heap.size w0 W) (hpa : W.heap[pa]? = some (.cells #[.slice ao na ca] 22 (0, 0))) (hpb : W.heap[pb]? = some (.cells #[.slice bo nb cb] 22 (0, 0))) (hpc : W.heap[pc]? = some (.cells #[.int .u64 0] 50 (0, 0)))
    (hca : w0.heap.size ≤ pc) (hac : pa ≠ pc) (hbc : pb ≠ pc) :
    Calls Try.prog 84 #[.int .i64 N, .func (.func 86) #[] #[.pointer (some ⟨pa, 0, none⟩), .pointer (some ⟨pb, 0, none⟩), .pointer (some ⟨pc, 0, none⟩)]] W fun e w' =>
      ∃ ro m cap r, e = .returned (.slice ro m cap) ∧ RowAt w' ro m cap r ∧ Num r (val xs + val ys) ∧ m ≤ n + 1 ∧ Below w0.heap.size w0 w' := by
  subst hN
  refine (build_any (n + 1) 86 _ (AddInv w0 pa pb pc (.slice ao na ca) (.slice bo nb cb) xs ys) W (by omega) ?_ (fun _ _ => by simp) ?_ ?_).mono ?_
  · exact ⟨hbel, hpa, hpb, 0, hpc, Int.le_refl _, by omega, by simp [val, pv]⟩
  · rintro zs w1 w2 ⟨h1, h2, h3, c, h4, h5⟩ hb12
    exact ⟨h1.trans (hb12.mono hbel.size), heapAt hb12 (lt_of_block hpa) h2, heapAt hb12 (lt_of_block hpb) h3, c, heapAt hb12 (lt_of_block hpc) h4, h5⟩
  · rintro zs wr hlt ⟨h1, h2, h3, c, h4, hc0, hc1, hval⟩
    have lx := lim_bd ha.limbs zs.length
    have ly := lim_bd hb.limbs zs.length
    have hcb := carry_bd lx.1 ly.1 lx.2 ly.2 hc0 hc1
    have hmod : 0 ≤ (lim xs zs.length + lim ys zs.length + c) % BB ∧ (lim xs zs.length + lim ys zs.length + c) % BB < BB := ⟨Int.emod_nonneg _ (by have := BB_pos; omega), Int.emod_lt_of_pos _ BB_pos⟩
    refine (add1_any ao bo na ca nb cb pa pb pc xs ys zs.length c wr (by omega) (ha.below h1) (hb.below h1) (cell_of_one h2) (cell_of_one h3) (cell_of_one h4) (free_of_one h4) hc0 hc1).mono ?_
    rintro e w' ⟨rfl, hq⟩
    refine ⟨_, rfl, hmod.1, hmod.2, ⟨?_, ?_, ?_, _, ?_, hcb.1, hcb.2, ?_⟩, ?_, ?_⟩
    · exact hq.below (h1.setCell hca _)
    · rw [hq.heap, Below.heap_setCell _ _ _ _ hac]; exact h2
    · rw [hq.heap, Below.heap_setCell _ _ _ _ hbc]; exact h3
    · rw [hq.heap]; exact one_setCell h4
    · rw [val_snoc, List.length_append, List.length_singleton, pw_succ, pv, pv]
      exact add_step hval rfl
    · intro k hk
      rw [hq.heap, Below.heap_setCell _ _ _ _ (by have := lt_of_block hpc; show k ≠ pc; omega)]
    · rw [hq.heap]; simp [World.setCell]
  · rintro e w' ⟨ro, cap, m, zs, rfl, hlen, hlm, htl, hrow, h1, -, -, c, -, hc0, hc1, hval⟩
    refine ⟨ro, m, cap, _, rfl, hrow, ?_, by have := htl.1; omega, h1⟩
    have hnum := Num.ofTl hlm htl
    have vb := val_bd hlm
    have e : val zs = val xs + val ys := by
      rw [hlen, pv_val xs _ (by have := ha.len; omega), pv_val ys _ (by have := hb.len; omega), pw_succ] at hval
      have bx := pw_le (show xs.length ≤ n by have := ha.len; omega)
      have by' := pw_le (show ys.length ≤ n by have := hb.len; omega)
      exact add_end hval vb.1 (Int.le_of_lt (pw_pos n)) (Int.lt_of_lt_of_le (val_bd ha.limbs).2 bx) (Int.lt_of_lt_of_le (val_bd hb.limbs).2 by') hc0 hc1
    rw [e] at hnum
    exact hnum

theorem below3 (w : World) (o o' o'' : Obj) : Below w.heap.size w (((w.alloc o).alloc o').alloc o'') := (((Below.refl _ _).alloc (Nat.le_refl _) o).alloc (by simp) o').alloc (by simp; omega) o''

set_option maxHeartbeats 400000 in
theorem add_any (ao bo : Option Addr) (na ca nb cb : Nat) (xs ys : List Int) (w : World) (ha : RowAt w ao na ca xs) (hb : RowAt w bo nb cb ys) (hna : na ≤ 900000) (hnb : nb ≤ 900000) :
    Calls Try.prog 71 #[.slice ao na ca, .slice bo nb cb] w fun e w' => ∃ ro m cap r, e = .returned (.slice ro m cap) ∧ RowAt w' ro m cap r ∧ Num r (val xs + val ys) ∧ m ≤ max na nb + 1 ∧ Below w.heap.size w w' := by
  have hmf : ∀ (fn : Fn) (first cap : Array Value) (w : World), (Instr.makeFunc fn first cap).run Try.prog w = .ok (.func fn first cap) w := fun _ _ _ _ => rfl
  have H : ∀ n N, na ≤ n → nb ≤ n → n ≤ 900000 → N = ((n + 1 : Nat) : Int) → _ := fun n N h1 h2 h3 h4 => add_core ao bo na ca nb cb w.heap.size (w.heap.size + 1) (w.heap.size + 1 + 1) n N xs ys w
    (((w.alloc (Obj.cells #[Value.slice ao na ca] 22)).alloc (Obj.cells #[Value.slice bo nb cb] 22)).alloc (Obj.cells #[Value.int IntKind.u64 0] 50)) ha hb h1 h2 h3 h4 (below3 _ _ _ _)
    (by rw [Below.heap_alloc _ _ _ (by simp; omega), Below.heap_alloc _ _ _ (by simp)]; exact heap_alloc_new w _)
    (by rw [Below.heap_alloc _ _ _ (by simp)]; have := heap_alloc_new (w.alloc (Obj.cells #[Value.slice ao na ca] 22)) (Obj.cells #[Value.slice bo nb cb] 22); simpa using this)
    (by have := heap_alloc_new ((w.alloc (Obj.cells #[Value.slice ao na ca] 22)).alloc (Obj.cells #[Value.slice bo nb cb] 22)) (Obj.cells #[Value.int IntKind.u64 0] 50); simpa using this)
    (by omega) (by omega) (by omega)
  have HH : Hid _ := H
  clear H
  go_enter Try.func71, Try.ntmps71
  go_wp2_with fail
  · have hle : na ≤ nb := by omega
    refine (HH.out nb _ hle (Nat.le_refl _) hnb (by omega)).mono ?_
    rintro e w1 ⟨ro, m, cap, r, rfl, h1, h2, h3, h4⟩
    go_wp2
    go_ret
    exact ⟨ro, m, cap, r, rfl, h1, h2, by omega, h4⟩
  · have hle : nb ≤ na := by omega
    refine (HH.out na _ (Nat.le_refl _) hle hna (by omega)).mono ?_
    rintro e w1 ⟨ro, m, cap, r, rfl, h1, h2, h3, h4⟩
    go_wp2
    go_ret
    exact ⟨ro, m, cap, r, rfl, h1, h2, by omega, h4⟩
end Go.Proofs.Ytnkjfandknndkaa

/-! ratio.joined: it looks at both numbers, multiplies both Dens, and goes through Make. -/
namespace Go.Proofs.Ytnkjfandknndkaa
open Go.RowKit

/-- What an operation on two numbers tells of the part above. -/
structure ResOut (tb : Prop) (N : Int) (neg : Bool) (x : List Int) (k : Int) : Prop where
  big : tb → k = 21
  fine : ¬ tb → k = 0 ∧ May x ∧ Limbs x ∧ sg neg (val x) = N

/-- The three variables that joined makes first. -/
structure Boxes (w W : World) (an : Bool) (ao : Option Addr) (al ac : Nat) (aeo : Option Addr) (ael aec : Nat) (bn : Bool) (bo : Option Addr) (bl bc : Nat) (beo : Option Addr) (bel bec : Nat) : Prop where
  a : RBox W w.heap.size an ao al ac aeo ael aec
  b : RBox W (w.heap.size + 1) bn bo bl bc beo bel bec
  r : RBox W (w.heap.size + 2) false none 0 0 none 0 0
  bel : Below w.heap.size w W

theorem Boxes.new (w : World) (an : Bool) (ao : Option Addr) (al ac : Nat) (aeo : Option Addr) (ael aec : Nat) (bn : Bool) (bo : Option Addr) (bl bc : Nat) (beo : Option Addr) (bel bec : Nat) :
    Boxes w (((w.alloc (.cells #[.bool an, .slice ao al ac, .slice aeo ael aec] 28)).alloc (.cells #[.bool bn, .slice bo bl bc, .slice beo bel bec] 28)).alloc (.cells #[.bool false, .slice none 0 0, .slice none 0 0] 28)) an ao al ac aeo ael aec bn bo bl bc beo bel bec := by
  have c := RBox.new ((w.alloc (.cells #[.bool an, .slice ao al ac, .slice aeo ael aec] 28)).alloc (.cells #[.bool bn, .slice bo bl bc, .slice beo bel bec] 28)) false none 0 0 none 0 0
  have d := (RBox.new (w.alloc (.cells #[.bool an, .slice ao al ac, .slice aeo ael aec] 28)) bn bo bl bc beo bel bec).alloc (.cells #[.bool false, .slice none 0 0, .slice none 0 0] 28)
  rw [World.size_alloc] at c d
  rw [World.size_alloc] at c
  exact ⟨((RBox.new w an ao al ac aeo ael aec).alloc _).alloc _, d, c, below3 w _ _ _⟩

theorem Boxes.below {w W W' : World} {an : Bool} {ao : Option Addr} {al ac : Nat} {aeo : Option Addr} {ael aec : Nat} {bn : Bool} {bo : Option Addr} {bl bc : Nat} {beo : Option Addr} {bel bec : Nat} (h : Boxes w W an ao al ac aeo ael aec bn bo bl bc beo bel bec) (hb : Below W.heap.size W W') : Boxes w W' an ao al ac aeo ael aec bn bo bl bc beo bel bec := ⟨h.a.below hb, h.b.below hb, h.r.below hb, chain h.bel hb⟩

set_option maxRecDepth 100000 in
set_option maxHeartbeats 2000000 in
theorem joined_any (an : Bool) (ao : Option Addr) (al ac : Nat) (aeo : Option Addr) (ael aec : Nat) (bn : Bool) (bo : Option Addr) (bl bc : Nat) (beo : Option Addr) (bel bec : Nat) (a b : RatL) (K : Nat) (caps : Array Value) (tb : Prop) (N : Int) (w : World)
    (ha : RatAt w ao al ac aeo ael aec a) (hb : RatAt w bo bl bc beo bel bec b) (hga : a.neg = an) (hgb : b.neg = bn)
    (heg : ∀ args w, (callFunc K args).run Try.prog w = .ok (.enter K args) w)
    (hop : ∀ W, Below w.heap.size w W → MayR a → MayR b → Calls Try.prog K caps W fun e w' => ∃ neg ro m cap r k, e = .returned (.tuple #[.bool neg, .slice ro m cap, .int .i64 k]) ∧ RowAt w' ro m cap r ∧ Below W.heap.size W w' ∧ ResOut tb N neg r k) :
    Calls Try.prog 39 #[.agg #[.bool an, .slice ao al ac, .slice aeo ael aec], .agg #[.bool bn, .slice bo bl bc, .slice beo bel bec], .func (.func K) #[] caps] w fun e w' => ∃ rneg no nn nc eo en ec r k, e = .returned (.tuple #[.agg #[.bool rneg, .slice no nn nc, .slice eo en ec], .int .i64 k]) ∧ r.neg = rneg ∧ RatAt w' no nn nc eo en ec r ∧ OpOut (MayR a ∧ MayR b) (tb ∨ Big ≤ a.bot * b.bot) N (a.bot * b.bot) r k ∧ Below w.heap.size w w' := by
  have hbx := Boxes.new w an ao al ac aeo ael aec bn bo bl bc beo bel bec
  have hB : Hid (Boxes w _ an ao al ac aeo ael aec bn bo bl bc beo bel bec) := hbx
  have HA : Hid (RatAt w ao al ac aeo ael aec a ∧ RatAt w bo bl bc beo bel bec b ∧ a.neg = an ∧ b.neg = bn) := ⟨ha, hb, hga, hgb⟩
  have HO : Hid _ := hop
  clear hbx ha hb hga hgb hop
  by_cases hma : MayR a
  · have HMA : Hid (MayR a) := hma
    clear hma
    by_cases hmb : MayR b
    · have HMB : Hid (MayR b) := hmb
      clear hmb
      go_enter Try.func39, Try.ntmps39
      go_wp2_with fail
      refine (rmay_r _ _ _ _ _ _ _ a _ (HA.out.1.below hB.out.bel) HA.out.2.2.1 true (yes_iff HMA.out)).mono ?_
      rintro e w1 ⟨rfl, b1⟩
      have B1 : Hid (Boxes w w1 an ao al ac aeo ael aec bn bo bl bc beo bel bec) := hB.out.below b1
      have c0 := B1.out.b.c0
      have c1 := B1.out.b.c1
      have c2 := B1.out.b.c2
      clear b1
      go_wp2_with fail
      refine (rmay_r _ _ _ _ _ _ _ b _ (HA.out.2.1.below B1.out.bel) HA.out.2.2.2 true (yes_iff HMB.out)).mono ?_
      rintro e w2 ⟨rfl, b2⟩
      have B2 : Hid (Boxes w w2 an ao al ac aeo ael aec bn bo bl bc beo bel bec) := B1.out.below b2
      clear b2 c0 c1 c2
      go_wp2_with fail
      refine (HO.out _ B2.out.bel HMA.out HMB.out).mono ?_
      rintro e w3 ⟨neg, ro, m, cap, x, k, rfl, h1, h2, h3⟩
      have B3 : Hid (Boxes w w3 an ao al ac aeo ael aec bn bo bl bc beo bel bec) := B2.out.below h2
      have H3 : Hid (RowAt w3 ro m cap x ∧ ResOut tb N neg x k) := ⟨h1, h3⟩
      have r0 := B3.out.r.c0
      have r1 := B3.out.r.c1
      have r2 := B3.out.r.c2
      have f0 := B3.out.r.f 0
      have f1 := B3.out.r.f 1
      have f2 := B3.out.r.f 2
      clear h1 h2 h3
      by_cases htb : tb
      · have hk := H3.out.2.big htb
        have HT : Hid tb := htb
        have HR : Hid _ := B3.out.r.set false none 0 0 none 0 0
        subst hk
        clear htb
        go_wp2_with fail
        exact bodyPost_ret (results_r2 rfl _ HR.out rfl _ rfl) rfl ⟨false, none, 0, 0, none, 0, 0, rat0, 21, rfl, rfl, RatAt.zero _, ⟨fun h => absurd ⟨HMA.out, HMB.out⟩ h, fun _ _ => ⟨rfl, rfl⟩, fun _ h => absurd (.inl HT.out) h⟩, below_set B3.out.bel (by omega) _ _ _⟩
      · obtain ⟨hk, hx⟩ := H3.out.2.fine htb
        have HT : Hid (¬ tb ∧ May x ∧ Limbs x ∧ sg neg (val x) = N) := ⟨htb, hx⟩
        have d2 := B3.out.a.c2
        have e2 := B3.out.b.c2
        subst hk
        clear htb hx r0 r1 r2 f0 f1 f2
        go_wp2_with fail
        refine (nmul_any _ _ _ _ _ _ a.den b.den _ (HA.out.1.den.below B3.out.bel) (HA.out.2.1.den.below B3.out.bel)).mono ?_
        rintro e w4 ⟨po, pn, pc, p, pk, rfl, p1, p2, p3⟩
        have B4 : Hid (Boxes w w4 an ao al ac aeo ael aec bn bo bl bc beo bel bec) := B3.out.below p3
        have H4 : Hid (RowAt w4 po pn pc p ∧ Out (May a.den ∧ May b.den) False (a.bot * b.bot) p pk ∧ RowAt w4 ro m cap x) := ⟨p1, p2, H3.out.1.below p3⟩
        clear p1 p2 p3 d2 e2
        by_cases hbig : Big ≤ a.bot * b.bot
        · obtain ⟨hk, _⟩ := H4.out.2.1.is_big ⟨HMA.out.den, HMB.out.den⟩ (fun f => f) hbig
          have HG : Hid (Big ≤ a.bot * b.bot) := hbig
          have r0 := B4.out.r.c0
          have r1 := B4.out.r.c1
          have r2 := B4.out.r.c2
          have f0 := B4.out.r.f 0
          have f1 := B4.out.r.f 1
          have f2 := B4.out.r.f 2
          have HR : Hid _ := B4.out.r.set false none 0 0 none 0 0
          subst hk
          clear hbig
          go_wp2_with fail
          exact bodyPost_ret (results_r2 rfl _ HR.out rfl _ rfl) rfl ⟨false, none, 0, 0, none, 0, 0, rat0, 21, rfl, rfl, RatAt.zero _, ⟨fun h => absurd ⟨HMA.out, HMB.out⟩ h, fun _ _ => ⟨rfl, rfl⟩, fun _ h => absurd (.inr HG.out) h⟩, below_set B4.out.bel (by omega) _ _ _⟩
        · obtain ⟨hk, hnum⟩ := H4.out.2.1.ok_num ⟨HMA.out.den, HMB.out.den⟩ (fun f => f) (Int.not_le.1 hbig)
          have HG : Hid (¬ Big ≤ a.bot * b.bot ∧ Num p (a.bot * b.bot) ∧ May p) := ⟨hbig, hnum, hnum.may.2 (Int.not_le.1 hbig)⟩
          subst hk
          clear hbig hnum
          go_wp2_with fail
          refine (make_any neg _ _ _ _ _ _ x p _ H4.out.2.2 H4.out.1).mono ?_
          rintro e w5 ⟨rneg, no, nn, nc, eo, en, ec, r, k, rfl, q1, q2, q3, q4⟩
          have hpos := Int.mul_pos (HMA.out.bot_pos HA.out.1.lim) (HMB.out.bot_pos HA.out.2.1.lim)
          obtain ⟨hk, his⟩ := q3.fine ⟨HT.out.2.1, HG.out.2.2⟩ (by rw [HG.out.2.1.val]; omega)
          rw [HG.out.2.1.val, HT.out.2.2.2] at his
          have B5 : Hid (Boxes w w5 an ao al ac aeo ael aec bn bo bl bc beo bel bec) := B4.out.below q4
          have HI : Hid (Is r N (a.bot * b.bot)) := his
          have HQ : Hid (r.neg = rneg ∧ RatAt w5 no nn nc eo en ec r) := ⟨q1, q2⟩
          have r0 := B5.out.r.c0
          have r1 := B5.out.r.c1
          have r2 := B5.out.r.c2
          have f0 := B5.out.r.f 0
          have f1 := B5.out.r.f 1
          have f2 := B5.out.r.f 2
          have HR : Hid _ := B5.out.r.set rneg no nn nc eo en ec
          have HRT : Hid _ := HQ.out.2.setR B5.out.r (.bool rneg) (.slice no nn nc) (.slice eo en ec)
          subst hk
          clear q1 q2 q3 q4 his hpos
          go_wp2_with fail
          exact bodyPost_ret (results_r2 rfl _ HR.out rfl _ rfl) rfl ⟨rneg, no, nn, nc, eo, en, ec, r, 0, rfl, HQ.out.1, HRT.out, ⟨fun h => absurd ⟨HMA.out, HMB.out⟩ h, fun _ h => (h.elim HT.out.1 (Int.not_le.2 HG.out.1)).elim, fun _ _ => ⟨rfl, HI.out⟩⟩, below_set B5.out.bel (by omega) _ _ _⟩
    · have HMB : Hid (¬ MayR b) := hmb
      clear hmb
      go_enter Try.func39, Try.ntmps39
      go_wp2_with fail
      refine (rmay_r _ _ _ _ _ _ _ a _ (HA.out.1.below hB.out.bel) HA.out.2.2.1 true (yes_iff HMA.out)).mono ?_
      rintro e w1 ⟨rfl, b1⟩
      have B1 : Hid (Boxes w w1 an ao al ac aeo ael aec bn bo bl bc beo bel bec) := hB.out.below b1
      have c0 := B1.out.b.c0
      have c1 := B1.out.b.c1
      have c2 := B1.out.b.c2
      clear b1
      go_wp2_with fail
      refine (rmay_r _ _ _ _ _ _ _ b _ (HA.out.2.1.below B1.out.bel) HA.out.2.2.2 false (no_iff HMB.out)).mono ?_
      rintro e w2 ⟨rfl, b2⟩
      have B2 : Hid (Boxes w w2 an ao al ac aeo ael aec bn bo bl bc beo bel bec) := B1.out.below b2
      have r0 := B2.out.r.c0
      have r1 := B2.out.r.c1
      have r2 := B2.out.r.c2
      have f0 := B2.out.r.f 0
      have f1 := B2.out.r.f 1
      have f2 := B2.out.r.f 2
      have HR : Hid _ := B2.out.r.set false none 0 0 none 0 0
      clear b2 c0 c1 c2
      go_wp2_with fail
      exact bodyPost_ret (results_r2 rfl _ HR.out rfl _ rfl) rfl ⟨false, none, 0, 0, none, 0, 0, rat0, 1, rfl, rfl, RatAt.zero _, ⟨fun _ => ⟨rfl, rfl⟩, fun h => absurd h.2 HMB.out, fun h => absurd h.2 HMB.out⟩, below_set B2.out.bel (by omega) _ _ _⟩
  · have HMA : Hid (¬ MayR a) := hma
    clear hma
    go_enter Try.func39, Try.ntmps39
    go_wp2_with fail
    refine (rmay_r _ _ _ _ _ _ _ a _ (HA.out.1.below hB.out.bel) HA.out.2.2.1 false (no_iff HMA.out)).mono ?_
    rintro e w2 ⟨rfl, b2⟩
    have B2 : Hid (Boxes w w2 an ao al ac aeo ael aec bn bo bl bc beo bel bec) := hB.out.below b2
    have r0 := B2.out.r.c0
    have r1 := B2.out.r.c1
    have r2 := B2.out.r.c2
    have f0 := B2.out.r.f 0
    have f1 := B2.out.r.f 1
    have f2 := B2.out.r.f 2
    have HR : Hid _ := B2.out.r.set false none 0 0 none 0 0
    clear b2
    go_wp2_with fail
    exact bodyPost_ret (results_r2 rfl _ HR.out rfl _ rfl) rfl ⟨false, none, 0, 0, none, 0, 0, rat0, 1, rfl, rfl, RatAt.zero _, ⟨fun _ => ⟨rfl, rfl⟩, fun h => absurd h.1 HMA.out, fun h => absurd h.1 HMA.out⟩, below_set B2.out.bel (by omega) _ _ _⟩

end Go.Proofs.Ytnkjfandknndkaa

/-! nat.Add, nat.Sub, nat.Mul: by nat.within. -/
namespace Go.Proofs.Ytnkjfandknndkaa
open Go.RowKit

set_option maxHeartbeats 1000000 in
theorem nadd1_any (ao bo : Option Addr) (na ca nb cb pa pb : Nat) (xs ys : List Int) (w : World) (ha : RowAt w ao na ca xs) (hb : RowAt w bo nb cb ys) (hna : na ≤ 8) (hnb : nb ≤ 8)
    (hpa : w.cell? ⟨pa, 0, none⟩ = some (.slice ao na ca)) (hpb : w.cell? ⟨pb, 0, none⟩ = some (.slice bo nb cb)) :
    Calls Try.prog 70 #[.pointer (some ⟨pa, 0, none⟩), .pointer (some ⟨pb, 0, none⟩)] w fun e w' =>
      ∃ ro m cap r k, e = .returned (.tuple #[.slice ro m cap, .int .i64 k]) ∧ RowAt w' ro m cap r ∧ Below w.heap.size w w' ∧ Raw False (val xs + val ys) r k := by
  have HA : Hid _ := ha
  have HB : Hid _ := hb
  clear ha hb
  go_enter Try.func70, Try.ntmps70
  go_wp2_with fail
  refine (add_any _ _ _ _ _ _ xs ys _ HA.out HB.out (by omega) (by omega)).mono ?_
  rintro e w1 ⟨ro, m, cap, r, rfl, h1, h2, h3, h4⟩
  have H1 : Hid _ := h1
  have H2 : Hid (Num r (val xs + val ys)) := h2
  have H4 : Hid _ := h4
  clear h1 h2 h3 h4
  go_wp2
  go_ret2
  exact ⟨ro, m, cap, r, 0, rfl, H1.out, H4.out, .inr ⟨fun f => f, rfl, H2.out⟩⟩

set_option maxHeartbeats 1000000 in
theorem nadd_any (ao bo : Option Addr) (na ca nb cb : Nat) (xs ys : List Int) (w : World) (ha : RowAt w ao na ca xs) (hb : RowAt w bo nb cb ys) :
    Calls Try.prog 42 #[.slice ao na ca, .slice bo nb cb] w fun e w' => ∃ ro m cap r k, e = .returned (.tuple #[.slice ro m cap, .int .i64 k]) ∧ RowAt w' ro m cap r ∧ Out (May xs ∧ May ys) (False) (val xs + val ys) r k ∧ Below w.heap.size w w' := by
  have hmf : ∀ (fn : Fn) (first cap : Array Value) (w : World), (Instr.makeFunc fn first cap).run Try.prog w = .ok (.func fn first cap) w := fun _ _ _ _ => rfl
  have hb2 := below2 w (Obj.cells #[Value.slice ao na ca] 23) (Obj.cells #[Value.slice bo nb cb] 23)
  have ra := ha.below hb2
  have rb := hb.below hb2
  have ea : ((w.alloc (Obj.cells #[Value.slice ao na ca] 23)).alloc (Obj.cells #[Value.slice bo nb cb] 23)).heap[w.heap.size]? = some (.cells #[Value.slice ao na ca] 23 (0, 0)) := by
    rw [Below.heap_alloc _ _ _ (by simp)]; exact heap_alloc_new w _
  have eb : ((w.alloc (Obj.cells #[Value.slice ao na ca] 23)).alloc (Obj.cells #[Value.slice bo nb cb] 23)).heap[w.heap.size + 1]? = some (.cells #[Value.slice bo nb cb] 23 (0, 0)) := by
    have := heap_alloc_new (w.alloc (Obj.cells #[Value.slice ao na ca] 23)) (Obj.cells #[Value.slice bo nb cb] 23); simpa using this
  have H := within_any ao bo na ca nb cb xs ys 70 #[.pointer (some ⟨w.heap.size, 0, none⟩), .pointer (some ⟨w.heap.size + 1, 0, none⟩)] (False) (val xs + val ys) _ ra rb (fun _ _ => by simp)
    (fun hx hy => nadd1_any ao bo na ca nb cb w.heap.size (w.heap.size + 1) xs ys _ ra rb (by have := hx.1; have := ha.len; omega) (by have := hy.1; have := hb.len; omega) (cell_of_one ea) (cell_of_one eb))
  have ca' := cell_of_one ea
  have cb' := cell_of_one eb
  have HB2 : Hid _ := hb2
  have HH : Hid (∀ u : Unit, _) := fun _ => H
  clear H ra rb ha hb hb2 ea eb
  go_enter Try.func42, Try.ntmps42
  go_wp2_with fail
  refine (HH.out ()).mono ?_
  rintro e w1 ⟨ro, m, cap, r, k, rfl, h1, h2, h3⟩
  have H1 : Hid _ := h1
  have H2 : Hid (Out (May xs ∧ May ys) (False) (val xs + val ys) r k) := h2
  have H3 : Hid _ := h3
  clear h1 h2 h3 ca' cb'
  go_wp2
  go_ret2
  exact ⟨ro, m, cap, r, k, rfl, H1.out, H2.out, chain HB2.out H3.out⟩

end Go.Proofs.Ytnkjfandknndkaa

/-! nat.Sub. -/
namespace Go.Proofs.Ytnkjfandknndkaa
open Go.RowKit

set_option maxHeartbeats 1000000 in
theorem nsub1_any (ao bo : Option Addr) (na ca nb cb pa pb : Nat) (xs ys : List Int) (w : World) (ha : RowAt w ao na ca xs) (hb : RowAt w bo nb cb ys) (hna : na ≤ 8) (hnb : nb ≤ 8)
    (hpa : w.cell? ⟨pa, 0, none⟩ = some (.slice ao na ca)) (hpb : w.cell? ⟨pb, 0, none⟩ = some (.slice bo nb cb)) :
    Calls Try.prog 72 #[.pointer (some ⟨pa, 0, none⟩), .pointer (some ⟨pb, 0, none⟩)] w fun e w' =>
      ∃ ro m cap r k, e = .returned (.tuple #[.slice ro m cap, .int .i64 k]) ∧ RowAt w' ro m cap r ∧ Below w.heap.size w w' ∧ Raw (val xs < val ys) (val xs - val ys) r k := by
  have HA : Hid _ := ha
  have HB : Hid _ := hb
  clear ha hb
  by_cases hlt : val xs < val ys
  · have HL : Hid (val xs < val ys) := hlt
    clear hlt
    go_enter Try.func72, Try.ntmps72
    go_wp2_with fail
    refine (sub_no _ _ _ _ _ _ xs ys _ HA.out HB.out (by omega) (by omega) HL.out).mono ?_
    rintro e w1 ⟨ro, cap, rfl, h1, h4⟩
    have H4 : Hid _ := h4
    clear h1 h4
    go_wp2
    go_ret2
    exact ⟨none, 0, 0, [], 20, rfl, RowAt.nil _, H4.out, .inl ⟨HL.out, rfl⟩⟩
  · have HL : Hid (val ys ≤ val xs) := Int.not_lt.1 hlt
    clear hlt
    go_enter Try.func72, Try.ntmps72
    go_wp2_with fail
    refine (sub_ok _ _ _ _ _ _ xs ys _ HA.out HB.out (by omega) (by omega) HL.out).mono ?_
    rintro e w1 ⟨ro, m, cap, r, rfl, h1, h2, h3, h4⟩
    have H1 : Hid _ := h1
    have H2 : Hid (Num r (val xs - val ys)) := h2
    have H4 : Hid _ := h4
    clear h1 h2 h3 h4
    go_wp2
    go_ret2
    exact ⟨ro, m, cap, r, 0, rfl, H1.out, H4.out, .inr ⟨Int.not_lt.2 HL.out, rfl, H2.out⟩⟩

set_option maxHeartbeats 1000000 in
theorem nsub_any (ao bo : Option Addr) (na ca nb cb : Nat) (xs ys : List Int) (w : World) (ha : RowAt w ao na ca xs) (hb : RowAt w bo nb cb ys) :
    Calls Try.prog 44 #[.slice ao na ca, .slice bo nb cb] w fun e w' => ∃ ro m cap r k, e = .returned (.tuple #[.slice ro m cap, .int .i64 k]) ∧ RowAt w' ro m cap r ∧ Out (May xs ∧ May ys) (val xs < val ys) (val xs - val ys) r k ∧ Below w.heap.size w w' := by
  have hmf : ∀ (fn : Fn) (first cap : Array Value) (w : World), (Instr.makeFunc fn first cap).run Try.prog w = .ok (.func fn first cap) w := fun _ _ _ _ => rfl
  have hb2 := below2 w (Obj.cells #[Value.slice ao na ca] 23) (Obj.cells #[Value.slice bo nb cb] 23)
  have ra := ha.below hb2
  have rb := hb.below hb2
  have ea : ((w.alloc (Obj.cells #[Value.slice ao na ca] 23)).alloc (Obj.cells #[Value.slice bo nb cb] 23)).heap[w.heap.size]? = some (.cells #[Value.slice ao na ca] 23 (0, 0)) := by
    rw [Below.heap_alloc _ _ _ (by simp)]; exact heap_alloc_new w _
  have eb : ((w.alloc (Obj.cells #[Value.slice ao na ca] 23)).alloc (Obj.cells #[Value.slice bo nb cb] 23)).heap[w.heap.size + 1]? = some (.cells #[Value.slice bo nb cb] 23 (0, 0)) := by
    have := heap_alloc_new (w.alloc (Obj.cells #[Value.slice ao na ca] 23)) (Obj.cells #[Value.slice bo nb cb] 23); simpa using this
  have H := within_any ao bo na ca nb cb xs ys 72 #[.pointer (some ⟨w.heap.size, 0, none⟩), .pointer (some ⟨w.heap.size + 1, 0, none⟩)] (val xs < val ys) (val xs - val ys) _ ra rb (fun _ _ => by simp)
    (fun hx hy => nsub1_any ao bo na ca nb cb w.heap.size (w.heap.size + 1) xs ys _ ra rb (by have := hx.1; have := ha.len; omega) (by have := hy.1; have := hb.len; omega) (cell_of_one ea) (cell_of_one eb))
  have ca' := cell_of_one ea
  have cb' := cell_of_one eb
  have HB2 : Hid _ := hb2
  have HH : Hid (∀ u : Unit, _) := fun _ => H
  clear H ra rb ha hb hb2 ea eb
  go_enter Try.func44, Try.ntmps44
  go_wp2_with fail
  refine (HH.out ()).mono ?_
  rintro e w1 ⟨ro, m, cap, r, k, rfl, h1, h2, h3⟩
  have H1 : Hid _ := h1
  have H2 : Hid (Out (May xs ∧ May ys) (val xs < val ys) (val xs - val ys) r k) := h2
  have H3 : Hid _ := h3
  clear h1 h2 h3 ca' cb'
  go_wp2
  go_ret2
  exact ⟨ro, m, cap, r, k, rfl, H1.out, H2.out, chain HB2.out H3.out⟩

end Go.Proofs.Ytnkjfandknndkaa

/-! nat.Cmp. -/
namespace Go.Proofs.Ytnkjfandknndkaa
open Go.RowKit

theorem cmp_val (ao bo : Option Addr) (na ca nb cb : Nat) (xs ys : List Int) (w : World) (ha : RowAt w ao na ca xs) (hb : RowAt w bo nb cb ys) (hna : na ≤ 900000) (hnb : nb ≤ 900000) (c : Int) (hc : c = cmpI (val xs) (val ys)) :
    Calls Try.prog 48 #[.slice ao na ca, .slice bo nb cb] w fun e w' => e = .returned (.int .i64 c) ∧ Below w.heap.size w w' :=
  (cmp_loop ao bo na ca nb cb xs ys w ha hb hna hnb).mono fun _ _ hh => ⟨hh.1.trans (ret_int hc.symm), hh.2 ▸ Below.refl _ _⟩

set_option maxHeartbeats 400000 in
theorem ncmp_val (ao bo : Option Addr) (na ca nb cb : Nat) (xs ys : List Int) (w : World) (ha : RowAt w ao na ca xs) (hb : RowAt w bo nb cb ys) (hna : na ≤ 900000) (hnb : nb ≤ 900000) (c : Int) (hc : c = cmpI (val xs) (val ys)) :
    Calls Try.prog 43 #[.slice ao na ca, .slice bo nb cb] w fun e w' => e = .returned (.int .i64 c) ∧ Below w.heap.size w w' := by
  have HA : Hid _ := ha
  have HB : Hid _ := hb
  have HC : Hid _ := hc
  clear ha hb hc
  go_enter Try.func43, Try.ntmps43
  go_wp2_with fail
  refine (cmp_val _ _ _ _ _ _ xs ys _ HA.out HB.out (by omega) (by omega) c HC.out).mono ?_
  rintro e w1 ⟨rfl, b1⟩
  go_wp2
  go_ret
  exact ⟨rfl, b1⟩

end Go.Proofs.Ytnkjfandknndkaa

/-! ratio.Mul and ratio.Add. -/
namespace Go.Proofs.Ytnkjfandknndkaa
open Go.RowKit

theorem sg_times (a b : Bool) (x y : Int) : sg (a != b) (x * y) = sg a x * sg b y := by
  unfold sg
  cases a <;> cases b <;> simp [Int.neg_mul, Int.mul_neg]

set_option maxHeartbeats 1000000 in
theorem mul1_r (an : Bool) (ao : Option Addr) (al ac : Nat) (aeo : Option Addr) (ael aec : Nat) (bn : Bool) (bo : Option Addr) (bl bc : Nat) (beo : Option Addr) (bel bec : Nat) (a b : RatL) (pa pb : Nat) (w : World)
    (ha : RatAt w ao al ac aeo ael aec a) (hb : RatAt w bo bl bc beo bel bec b) (hga : a.neg = an) (hgb : b.neg = bn) (hpa : RBox w pa an ao al ac aeo ael aec) (hpb : RBox w pb bn bo bl bc beo bel bec) (hma : MayR a) (hmb : MayR b) :
    Calls Try.prog 45 #[.pointer (some ⟨pa, 0, none⟩), .pointer (some ⟨pb, 0, none⟩)] w fun e w' => ∃ neg ro m cap r k, e = .returned (.tuple #[.bool neg, .slice ro m cap, .int .i64 k]) ∧ RowAt w' ro m cap r ∧ Below w.heap.size w w' ∧ ResOut (Big ≤ val a.num * val b.num) (a.top * b.top) neg r k := by
  have HA : Hid (RatAt w ao al ac aeo ael aec a ∧ RatAt w bo bl bc beo bel bec b ∧ a.neg = an ∧ b.neg = bn ∧ MayR a ∧ MayR b ∧ RBox w pa an ao al ac aeo ael aec ∧ RBox w pb bn bo bl bc beo bel bec) := ⟨ha, hb, hga, hgb, hma, hmb, hpa, hpb⟩
  have a1 := hpa.c1
  have b1 := hpb.c1
  clear ha hb hga hgb hpa hpb hma hmb
  go_enter Try.func45, Try.ntmps45
  go_wp2_with fail
  refine (nmul_any _ _ _ _ _ _ a.num b.num _ HA.out.1.num HA.out.2.1.num).mono ?_
  rintro e w1 ⟨po, pn, pc, p, pk, rfl, p1, p2, p3⟩
  have a0 := (HA.out.2.2.2.2.2.2.1.below p3).c0
  have b0 := (HA.out.2.2.2.2.2.2.2.below p3).c0
  have H1 : Hid (RowAt w1 po pn pc p ∧ Out (May a.num ∧ May b.num) False (val a.num * val b.num) p pk ∧ Below w.heap.size w w1) := ⟨p1, p2, p3⟩
  clear p1 p2 p3 a1 b1
  go_wp2_with fail
  go_ret3
  refine ⟨_, po, pn, pc, p, pk, rfl, H1.out.1, H1.out.2.2, fun h => (H1.out.2.1.is_big ⟨HA.out.2.2.2.2.1.num, HA.out.2.2.2.2.2.1.num⟩ (fun f => f) h).1, fun h => ?_⟩
  obtain ⟨hk, hn⟩ := H1.out.2.1.ok_num ⟨HA.out.2.2.2.2.1.num, HA.out.2.2.2.2.2.1.num⟩ (fun f => f) (Int.not_le.1 h)
  refine ⟨hk, hn.may.2 (Int.not_le.1 h), hn.limbs, ?_⟩
  rw [hn.val]
  show sg (an != bn) _ = sg a.neg (val a.num) * sg b.neg (val b.num)
  rw [HA.out.2.2.1, HA.out.2.2.2.1]
  exact sg_times an bn _ _

/-- What a product of two numbers tells. -/
def MulOut (a b : RatL) (r : RatL) (k : Int) : Prop := OpOut (MayR a ∧ MayR b) (Big ≤ val a.num * val b.num ∨ Big ≤ a.bot * b.bot) (a.top * b.top) (a.bot * b.bot) r k

set_option maxHeartbeats 1000000 in
theorem rmul_r (an : Bool) (ao : Option Addr) (al ac : Nat) (aeo : Option Addr) (ael aec : Nat) (bn : Bool) (bo : Option Addr) (bl bc : Nat) (beo : Option Addr) (bel bec : Nat) (a b : RatL) (w : World)
    (ha : RatAt w ao al ac aeo ael aec a) (hb : RatAt w bo bl bc beo bel bec b) (hga : a.neg = an) (hgb : b.neg = bn) :
    Calls Try.prog 22 #[.agg #[.bool an, .slice ao al ac, .slice aeo ael aec], .agg #[.bool bn, .slice bo bl bc, .slice beo bel bec]] w fun e w' => ∃ rneg no nn nc eo en ec r k, e = .returned (.tuple #[.agg #[.bool rneg, .slice no nn nc, .slice eo en ec], .int .i64 k]) ∧ r.neg = rneg ∧ RatAt w' no nn nc eo en ec r ∧ MulOut a b r k ∧ Below w.heap.size w w' := by
  have hmf : ∀ (fn : Fn) (first cap : Array Value) (w : World), (Instr.makeFunc fn first cap).run Try.prog w = .ok (.func fn first cap) w := fun _ _ _ _ => rfl
  have hbx := Boxes.new w an ao al ac aeo ael aec bn bo bl bc beo bel bec
  have H := joined_any an ao al ac aeo ael aec bn bo bl bc beo bel bec a b 45 #[.pointer (some ⟨w.heap.size, 0, none⟩), .pointer (some ⟨w.heap.size + 1, 0, none⟩)] _ _ _ (ha.below hbx.bel) (hb.below hbx.bel) hga hgb (fun _ _ => by simp)
    (fun W hW hma hmb => mul1_r an ao al ac aeo ael aec bn bo bl bc beo bel bec a b w.heap.size (w.heap.size + 1) W ((ha.below hbx.bel).below hW) ((hb.below hbx.bel).below hW) hga hgb (hbx.a.below hW) (hbx.b.below hW) hma hmb)
  have HB : Hid (Boxes w _ an ao al ac aeo ael aec bn bo bl bc beo bel bec) := hbx
  have HH : Hid (∀ u : Unit, _) := fun _ => H
  clear H hbx ha hb hga hgb
  go_enter Try.func22, Try.ntmps22
  go_wp2_with fail
  refine (HH.out ()).mono ?_
  rintro e w1 ⟨rneg, no, nn, nc, eo, en, ec, r, k, rfl, q1, q2, q3, q4⟩
  have B1 : Hid (Boxes w w1 an ao al ac aeo ael aec bn bo bl bc beo bel bec) := HB.out.below q4
  have HQ : Hid (r.neg = rneg ∧ RatAt w1 no nn nc eo en ec r ∧ MulOut a b r k) := ⟨q1, q2, q3⟩
  have r0 := B1.out.r.c0
  have r1 := B1.out.r.c1
  have r2 := B1.out.r.c2
  have f0 := B1.out.r.f 0
  have f1 := B1.out.r.f 1
  have f2 := B1.out.r.f 2
  have HR : Hid _ := B1.out.r.set rneg no nn nc eo en ec
  have HRT : Hid _ := HQ.out.2.1.setR B1.out.r (.bool rneg) (.slice no nn nc) (.slice eo en ec)
  clear q1 q2 q3 q4 HH
  go_wp2_with fail
  exact bodyPost_ret (results_r2 rfl _ HR.out rfl _ rfl) rfl ⟨rneg, no, nn, nc, eo, en, ec, r, k, rfl, HQ.out.1, HRT.out, HQ.out.2.2, below_set B1.out.bel (by omega) _ _ _⟩

/-- The part above of a sum, with its sign. -/
def addTop (a b : RatL) : Int := a.top * b.bot + b.top * a.bot
/-- A sum has no room. -/
def AddBig (a b : RatL) : Prop := Big ≤ val a.num * b.bot ∨ Big ≤ val b.num * a.bot ∨ Big ≤ ((addTop a b).natAbs : Int)

theorem sg_add (n : Bool) (x y : Int) : sg n (x + y) = sg n x + sg n y := by unfold sg; cases n <;> simp; omega
theorem sg_sub (n : Bool) (x y : Int) : sg n (x - y) = sg n x - sg n y := by unfold sg; cases n <;> simp; omega
theorem sg_flip (n : Bool) (x : Int) : sg (!n) x = - sg n x := by unfold sg; cases n <;> simp

theorem addTop_eq (a b : RatL) : addTop a b = sg a.neg (val a.num * b.bot) + sg b.neg (val b.num * a.bot) := by
  unfold addTop RatL.top
  rw [sg_mul, sg_mul]

set_option maxRecDepth 100000 in
set_option maxHeartbeats 2000000 in
theorem add1_r (an : Bool) (ao : Option Addr) (al ac : Nat) (aeo : Option Addr) (ael aec : Nat) (bn : Bool) (bo : Option Addr) (bl bc : Nat) (beo : Option Addr) (bel bec : Nat) (a b : RatL) (pa pb : Nat) (w : World)
    (ha : RatAt w ao al ac aeo ael aec a) (hb : RatAt w bo bl bc beo bel bec b) (hga : a.neg = an) (hgb : b.neg = bn) (hpa : RBox w pa an ao al ac aeo ael aec) (hpb : RBox w pb bn bo bl bc beo bel bec) (hma : MayR a) (hmb : MayR b) :
    Calls Try.prog 40 #[.pointer (some ⟨pa, 0, none⟩), .pointer (some ⟨pb, 0, none⟩)] w fun e w' => ∃ neg ro m cap r k, e = .returned (.tuple #[.bool neg, .slice ro m cap, .int .i64 k]) ∧ RowAt w' ro m cap r ∧ Below w.heap.size w w' ∧ ResOut (AddBig a b) (addTop a b) neg r k := by
  have HA : Hid (RatAt w ao al ac aeo ael aec a ∧ RatAt w bo bl bc beo bel bec b ∧ a.neg = an ∧ b.neg = bn ∧ MayR a ∧ MayR b ∧ RBox w pa an ao al ac aeo ael aec ∧ RBox w pb bn bo bl bc beo bel bec) := ⟨ha, hb, hga, hgb, hma, hmb, hpa, hpb⟩
  have hN := addTop_eq a b
  rw [hga, hgb] at hN
  obtain ⟨X, hX⟩ : ∃ X, X = val a.num * b.bot := ⟨_, rfl⟩
  obtain ⟨Y, hY⟩ : ∃ Y, Y = val b.num * a.bot := ⟨_, rfl⟩
  have hX0 : 0 ≤ X := by rw [hX]; exact Int.mul_nonneg (val_bd ha.num.limbs).1 (val_bd hb.den.limbs).1
  have hY0 : 0 ≤ Y := by rw [hY]; exact Int.mul_nonneg (val_bd hb.num.limbs).1 (val_bd ha.den.limbs).1
  rw [← hX, ← hY] at hN
  have HN : Hid (addTop a b = sg an X + sg bn Y ∧ X = val a.num * b.bot ∧ Y = val b.num * a.bot ∧ 0 ≤ X ∧ 0 ≤ Y ∧ (AddBig a b ↔ (Big ≤ X ∨ Big ≤ Y ∨ Big ≤ ((sg an X + sg bn Y).natAbs : Int)))) := ⟨hN, hX, hY, hX0, hY0, by unfold AddBig; rw [hN, hX, hY]⟩
  have a1 := hpa.c1
  have b2 := hpb.c2
  clear ha hb hga hgb hpa hpb hma hmb hN hX hY hX0 hY0
  go_enter Try.func40, Try.ntmps40
  go_wp2_with fail
  refine (nmul_any _ _ _ _ _ _ a.num b.den _ HA.out.1.num HA.out.2.1.den).mono ?_
  rintro e w1 ⟨xo, xn, xc, x, xk, rfl, p1, p2, p3⟩
  have b1 := (HA.out.2.2.2.2.2.2.2.below p3).c1
  have a2 := (HA.out.2.2.2.2.2.2.1.below p3).c2
  have H1 : Hid (RowAt w1 xo xn xc x ∧ Out True False X x xk ∧ Below w.heap.size w w1) := ⟨p1, p2.to ⟨HA.out.2.2.2.2.1.num, HA.out.2.2.2.2.2.1.den⟩ trivial HN.out.2.1.symm, p3⟩
  clear p1 p2 p3 a1 b2
  go_wp2_with fail
  refine (nmul_any _ _ _ _ _ _ b.num a.den _ (HA.out.2.1.num.below H1.out.2.2) (HA.out.1.den.below H1.out.2.2)).mono ?_
  rintro e w2 ⟨yo, yn, yc, y, yk, rfl, p1, p2, p3⟩
  have H2 : Hid (RowAt w2 xo xn xc x ∧ RowAt w2 yo yn yc y ∧ Out True False Y y yk ∧ Below w.heap.size w w2) := ⟨H1.out.1.below p3, p1, p2.to ⟨HA.out.2.2.2.2.2.1.num, HA.out.2.2.2.2.1.den⟩ trivial HN.out.2.2.1.symm, chain H1.out.2.2 p3⟩
  clear p1 p2 p3 b1 a2
  by_cases hbx : Big ≤ X
  · obtain ⟨hk, _⟩ := H1.out.2.1.is_big trivial (fun f => f) hbx
    have HT : Hid (AddBig a b) := HN.out.2.2.2.2.2.2 (.inl hbx)
    subst hk
    clear hbx
    go_wp2_with fail
    go_ret3
    exact ⟨false, none, 0, 0, [], 21, rfl, RowAt.nil _, H2.out.2.2.2, fun _ => rfl, fun h => absurd HT.out h⟩
  · obtain ⟨hk, hxn⟩ := H1.out.2.1.ok_num trivial (fun f => f) (Int.not_le.1 hbx)
    have HX : Hid (Num x X ∧ X < Big) := ⟨hxn, Int.not_le.1 hbx⟩
    subst hk
    clear hbx hxn
    by_cases hby : Big ≤ Y
    · obtain ⟨hk, _⟩ := H2.out.2.2.1.is_big trivial (fun f => f) hby
      have HT : Hid (AddBig a b) := HN.out.2.2.2.2.2.2 (.inr (.inl hby))
      subst hk
      clear hby
      go_wp2_with fail
      go_ret3
      exact ⟨false, none, 0, 0, [], 21, rfl, RowAt.nil _, H2.out.2.2.2, fun _ => rfl, fun h => absurd HT.out h⟩
    · obtain ⟨hk, hyn⟩ := H2.out.2.2.1.ok_num trivial (fun f => f) (Int.not_le.1 hby)
      have HY : Hid (Num y Y ∧ Y < Big) := ⟨hyn, Int.not_le.1 hby⟩
      subst hk
      clear hby hyn
      have a0 := (HA.out.2.2.2.2.2.2.1.below H2.out.2.2.2).c0
      have b0 := (HA.out.2.2.2.2.2.2.2.below H2.out.2.2.2).c0
      have hxl : xn ≤ 8 := by have h := (HX.out.1.may.2 HX.out.2).1; have := H2.out.1.len; omega
      have hyl : yn ≤ 8 := by have h := (HY.out.1.may.2 HY.out.2).1; have := H2.out.2.1.len; omega
      by_cases hs : an = bn
      · have hsb : (an == bn) = true := by rw [hs]; simp
        have HSM : Hid (addTop a b = sg an (X + Y) ∧ (AddBig a b ↔ Big ≤ X + Y)) := by
          have h1 := HN.out.1
          have h2 := HN.out.2.2.2.2.2
          rw [← hs, ← sg_add] at h1 h2
          rw [sg_abs an (by have := HN.out.2.2.2.1; have := HN.out.2.2.2.2.1; omega)] at h2
          refine ⟨h1, h2.trans ⟨fun h => ?_, fun h => .inr (.inr h)⟩⟩
          rcases h with h | h | h
          · have := HX.out.2; omega
          · have := HY.out.2; omega
          · exact h
        clear hs
        go_wp2_with fail
        refine (nadd_any _ _ _ _ _ _ x y _ H2.out.1 H2.out.2.1).mono ?_
        rintro e w3 ⟨so, sn, sc, s, sk, rfl, p1, p2, p3⟩
        have d0 := (HA.out.2.2.2.2.2.2.1.below (chain H2.out.2.2.2 p3)).c0
        rw [HX.out.1.val, HY.out.1.val] at p2
        have H3 : Hid (RowAt w3 so sn sc s ∧ Out True False (X + Y) s sk ∧ Below w.heap.size w w3) := ⟨p1, p2.to ⟨HX.out.1.may.2 HX.out.2, HY.out.1.may.2 HY.out.2⟩ trivial rfl, chain H2.out.2.2.2 p3⟩
        clear p1 p2 p3 a0 b0
        go_wp2_with fail
        go_ret3
        refine ⟨an, so, sn, sc, s, sk, rfl, H3.out.1, H3.out.2.2, fun h => (H3.out.2.1.is_big trivial (fun f => f) (HSM.out.2.1 h)).1, fun h => ?_⟩
        have hlt : X + Y < Big := Int.not_le.1 (fun h' => h (HSM.out.2.2 h'))
        obtain ⟨hk, hn⟩ := H3.out.2.1.ok_num trivial (fun f => f) hlt
        exact ⟨hk, hn.may.2 hlt, hn.limbs, by rw [hn.val, HSM.out.1]⟩
      · have hsb : (an == bn) = false := by rw [beq_eq_false_iff_ne]; exact hs
        have hnb : bn = !an := by cases an <;> cases bn <;> simp_all
        have HSM : Hid (addTop a b = sg an (X - Y) ∧ addTop a b = sg bn (Y - X) ∧ ¬ AddBig a b) := by
          have h1 := HN.out.1
          have h2 := HN.out.2.2.2.2.2
          have e1 : sg an X + sg bn Y = sg an (X - Y) := by rw [hnb, sg_flip, sg_sub]; omega
          have e2 : sg an X + sg bn Y = sg bn (Y - X) := by rw [hnb, sg_flip, sg_flip, sg_sub]; omega
          refine ⟨h1.trans e1, h1.trans e2, fun h => ?_⟩
          have hx0 := HN.out.2.2.2.1
          have hy0 := HN.out.2.2.2.2.1
          have hx1 := HX.out.2
          have hy1 := HY.out.2
          rcases h2.1 h with h | h | h
          · omega
          · omega
          · rw [e1] at h
            rcases Int.le_total Y X with h3 | h3
            · rw [sg_abs an (by omega)] at h
              omega
            · rw [← e1, e2, sg_abs bn (by omega)] at h
              omega
        clear hs hnb
        by_cases hlt : X < Y
        · have HC : Hid ((-1 : Int) = cmpI (val x) (val y)) := by
            show (-1 : Int) = cmpI (val x) (val y)
            rw [HX.out.1.val, HY.out.1.val]
            unfold cmpI
            rw [if_pos hlt]
          go_wp2_with fail
          refine (ncmp_val _ _ _ _ _ _ x y _ H2.out.1 H2.out.2.1 (by omega) (by omega) (-1) HC.out).mono ?_
          rintro e w3 ⟨rfl, p3⟩
          have H3 : Hid (RowAt w3 xo xn xc x ∧ RowAt w3 yo yn yc y ∧ Below w.heap.size w w3) := ⟨H2.out.1.below p3, H2.out.2.1.below p3, chain H2.out.2.2.2 p3⟩
          clear p3 a0 b0
          go_wp2_with fail
          refine (nsub_any _ _ _ _ _ _ y x _ H3.out.2.1 H3.out.1).mono ?_
          rintro e w4 ⟨so, sn, sc, s, sk, rfl, p1, p2, p3⟩
          have d0 := (HA.out.2.2.2.2.2.2.2.below (chain H3.out.2.2 p3)).c0
          rw [HX.out.1.val, HY.out.1.val] at p2
          obtain ⟨hk, hn⟩ := p2.ok_num ⟨HY.out.1.may.2 HY.out.2, HX.out.1.may.2 HX.out.2⟩ (by omega) (by have := HY.out.2; have := HN.out.2.2.2.1; omega)
          have H4 : Hid (RowAt w4 so sn sc s ∧ Num s (Y - X) ∧ Below w.heap.size w w4 ∧ May s) := ⟨p1, hn, chain H3.out.2.2 p3, hn.may.2 (by have := HY.out.2; have := HN.out.2.2.2.1; omega)⟩
          subst hk
          clear p1 p2 p3 hn
          go_wp2_with fail
          go_ret3
          exact ⟨bn, so, sn, sc, s, 0, rfl, H4.out.1, H4.out.2.2.1, fun h => absurd h HSM.out.2.2, fun _ => ⟨rfl, H4.out.2.2.2, H4.out.2.1.limbs, by rw [H4.out.2.1.val, HSM.out.2.1]⟩⟩
        · obtain ⟨cv, hcv⟩ : ∃ c, c = cmpI (val x) (val y) := ⟨_, rfl⟩
          have hc0 : ¬ cv < 0 := by
            rw [hcv, HX.out.1.val, HY.out.1.val]
            unfold cmpI
            rw [if_neg hlt]
            split <;> omega
          have HC : Hid (cv = cmpI (val x) (val y)) := hcv
          clear hcv
          go_wp2_with fail
          refine (ncmp_val _ _ _ _ _ _ x y _ H2.out.1 H2.out.2.1 (by omega) (by omega) cv HC.out).mono ?_
          rintro e w3 ⟨rfl, p3⟩
          have H3 : Hid (RowAt w3 xo xn xc x ∧ RowAt w3 yo yn yc y ∧ Below w.heap.size w w3) := ⟨H2.out.1.below p3, H2.out.2.1.below p3, chain H2.out.2.2.2 p3⟩
          clear p3 a0 b0
          go_wp2_with fail
          refine (nsub_any _ _ _ _ _ _ x y _ H3.out.1 H3.out.2.1).mono ?_
          rintro e w4 ⟨so, sn, sc, s, sk, rfl, p1, p2, p3⟩
          have d0 := (HA.out.2.2.2.2.2.2.1.below (chain H3.out.2.2 p3)).c0
          rw [HX.out.1.val, HY.out.1.val] at p2
          obtain ⟨hk, hn⟩ := p2.ok_num ⟨HX.out.1.may.2 HX.out.2, HY.out.1.may.2 HY.out.2⟩ (by omega) (by have := HX.out.2; have := HN.out.2.2.2.2.1; omega)
          have H4 : Hid (RowAt w4 so sn sc s ∧ Num s (X - Y) ∧ Below w.heap.size w w4 ∧ May s) := ⟨p1, hn, chain H3.out.2.2 p3, hn.may.2 (by have := HX.out.2; have := HN.out.2.2.2.2.1; omega)⟩
          subst hk
          clear p1 p2 p3 hn
          go_wp2_with fail
          go_ret3
          exact ⟨an, so, sn, sc, s, 0, rfl, H4.out.1, H4.out.2.2.1, fun h => absurd h HSM.out.2.2, fun _ => ⟨rfl, H4.out.2.2.2, H4.out.2.1.limbs, by rw [H4.out.2.1.val, HSM.out.1]⟩⟩

/-- What a sum of two numbers tells. -/
def AddOut (a b : RatL) (r : RatL) (k : Int) : Prop := OpOut (MayR a ∧ MayR b) (AddBig a b ∨ Big ≤ a.bot * b.bot) (addTop a b) (a.bot * b.bot) r k

set_option maxHeartbeats 1000000 in
theorem radd_r (an : Bool) (ao : Option Addr) (al ac : Nat) (aeo : Option Addr) (ael aec : Nat) (bn : Bool) (bo : Option Addr) (bl bc : Nat) (beo : Option Addr) (bel bec : Nat) (a b : RatL) (w : World)
    (ha : RatAt w ao al ac aeo ael aec a) (hb : RatAt w bo bl bc beo bel bec b) (hga : a.neg = an) (hgb : b.neg = bn) :
    Calls Try.prog 20 #[.agg #[.bool an, .slice ao al ac, .slice aeo ael aec], .agg #[.bool bn, .slice bo bl bc, .slice beo bel bec]] w fun e w' => ∃ rneg no nn nc eo en ec r k, e = .returned (.tuple #[.agg #[.bool rneg, .slice no nn nc, .slice eo en ec], .int .i64 k]) ∧ r.neg = rneg ∧ RatAt w' no nn nc eo en ec r ∧ AddOut a b r k ∧ Below w.heap.size w w' := by
  have hmf : ∀ (fn : Fn) (first cap : Array Value) (w : World), (Instr.makeFunc fn first cap).run Try.prog w = .ok (.func fn first cap) w := fun _ _ _ _ => rfl
  have hbx := Boxes.new w an ao al ac aeo ael aec bn bo bl bc beo bel bec
  have H := joined_any an ao al ac aeo ael aec bn bo bl bc beo bel bec a b 40 #[.pointer (some ⟨w.heap.size, 0, none⟩), .pointer (some ⟨w.heap.size + 1, 0, none⟩)] _ _ _ (ha.below hbx.bel) (hb.below hbx.bel) hga hgb (fun _ _ => by simp)
    (fun W hW hma hmb => add1_r an ao al ac aeo ael aec bn bo bl bc beo bel bec a b w.heap.size (w.heap.size + 1) W ((ha.below hbx.bel).below hW) ((hb.below hbx.bel).below hW) hga hgb (hbx.a.below hW) (hbx.b.below hW) hma hmb)
  have HB : Hid (Boxes w _ an ao al ac aeo ael aec bn bo bl bc beo bel bec) := hbx
  have HH : Hid (∀ u : Unit, _) := fun _ => H
  clear H hbx ha hb hga hgb
  go_enter Try.func20, Try.ntmps20
  go_wp2_with fail
  refine (HH.out ()).mono ?_
  rintro e w1 ⟨rneg, no, nn, nc, eo, en, ec, r, k, rfl, q1, q2, q3, q4⟩
  have B1 : Hid (Boxes w w1 an ao al ac aeo ael aec bn bo bl bc beo bel bec) := HB.out.below q4
  have HQ : Hid (r.neg = rneg ∧ RatAt w1 no nn nc eo en ec r ∧ AddOut a b r k) := ⟨q1, q2, q3⟩
  have r0 := B1.out.r.c0
  have r1 := B1.out.r.c1
  have r2 := B1.out.r.c2
  have f0 := B1.out.r.f 0
  have f1 := B1.out.r.f 1
  have f2 := B1.out.r.f 2
  have HR : Hid _ := B1.out.r.set rneg no nn nc eo en ec
  have HRT : Hid _ := HQ.out.2.1.setR B1.out.r (.bool rneg) (.slice no nn nc) (.slice eo en ec)
  clear q1 q2 q3 q4 HH
  go_wp2_with fail
  exact bodyPost_ret (results_r2 rfl _ HR.out rfl _ rfl) rfl ⟨rneg, no, nn, nc, eo, en, ec, r, k, rfl, HQ.out.1, HRT.out, HQ.out.2.2, below_set B1.out.bel (by omega) _ _ _⟩

end Go.Proofs.Ytnkjfandknndkaa

/-! slices.Equal and slices.Clone of rows of limbs; Same of numbers. -/
namespace Go.Proofs.Ytnkjfandknndkaa
open Go.RowKit

set_option maxRecDepth 100000 in
set_option maxHeartbeats 1000000 in
theorem equal_any (ao bo : Option Addr) (na ca nb cb : Nat) (xs ys : List Int) (w : World) (ha : RowAt w ao na ca xs) (hb : RowAt w bo nb cb ys) :
    Calls Try.prog 54 #[.slice ao na ca, .slice bo nb cb] w fun e w' => e = .returned (.bool (decide (xs = ys))) ∧ Eqw w' w := by
  have hna : na ≤ 9223372036854775807 := by have := ha.fits; have := ha.most; unfold maxLen at this; omega
  have hnb : nb ≤ 9223372036854775807 := by have := hb.fits; have := hb.most; unfold maxLen at this; omega
  have hla := ha.len
  have hlb := hb.len
  have HLA : Hid _ := hla
  have HLB : Hid _ := hlb
  clear hla hlb
  by_cases hne : na = nb
  · subst hne
    by_cases h0 : na = 0
    · subst h0
      go_enter Try.func54, Try.ntmps54
      go_wp2
      refine wp_loop_rounds 1 ?_
      rw [rounds_succ]
      go_wp2
      go_ret
      exact ⟨ret_bool (by rw [List.length_eq_zero_iff.1 HLA.out, List.length_eq_zero_iff.1 HLB.out]; simp), Eqw.refl _⟩
    · obtain ⟨b1, o1, rfl, l1, c1⟩ := ha.cells (by intro e; have := HLA.out; rw [e] at this; simp at this; omega)
      obtain ⟨b2, o2, rfl, l2, c2⟩ := hb.cells (by intro e; have := HLB.out; rw [e] at this; simp at this; omega)
      have C1 : Hid _ := c1
      have C2 : Hid _ := c2
      clear c1 c2 ha hb
      go_enter Try.func54, Try.ntmps54
      go_wp2
      go_loopw [13] (fun i wr => ∃ k : Nat, k ≤ na ∧ i = .int .i64 k ∧ Eqw wr w ∧ ∀ j, j < k → xs.getD j 0 = ys.getD j 0) (fun i _ => na - (intOf i).toNat)
      case atStart => exact ⟨0, Nat.zero_le _, rfl, Eqw.refl _, fun j hj => absurd hj (Nat.not_lt_zero _)⟩
      case round =>
        obtain ⟨k, hk, rfl, hq, hz⟩ := hrel
        have HZ : Hid (∀ j, j < k → xs.getD j 0 = ys.getD j 0) := hz
        clear hz
        by_cases hlt : k < na
        · have hlt' : (k : Int) < (na : Int) := by omega
          obtain ⟨x, hx⟩ : ∃ x, x = xs.getD k 0 := ⟨_, rfl⟩
          obtain ⟨y, hy⟩ : ∃ y, y = ys.getD k 0 := ⟨_, rfl⟩
          have hcx : wr.cell? ⟨b1, o1 + k, none⟩ = some (.int .u64 x) := by rw [hq.cell, hx]; exact C1.out k (by have := HLA.out; omega)
          have hcy : wr.cell? ⟨b2, o2 + k, none⟩ = some (.int .u64 y) := by rw [hq.cell, hy]; exact C2.out k (by have := HLB.out; omega)
          have HX : Hid _ := hx
          have HY : Hid _ := hy
          have HQ : Hid _ := hq
          clear hx hy hq
          by_cases hxy : x = y
          · have hb0 : (x != y) = false := by simp [hxy]
            have HXY : Hid _ := hxy
            clear hxy
            go_wp2
            go_quiet (fail)
            go_wp2
            go_roundw
            case rel =>
              refine ⟨k + 1, by omega, by go_num, HQ.out.drewN _, fun j hj => ?_⟩
              by_cases e : j = k
              · rw [e, ← HX.out, ← HY.out]; exact HXY.out
              · exact HZ.out j (by omega)
            case measure => simp [intOf]; omega
          · have hb0 : (x != y) = true := by simp [hxy]
            go_wp2
            go_quiet (fail)
            go_wp2
            go_ret
            refine ⟨ret_bool ?_, HQ.out.drewN _⟩
            have : xs ≠ ys := fun e => hxy (by rw [HX.out, HY.out, e])
            simp [this]
        · go_wp2
          go_ret
          refine ⟨ret_bool ?_, hq⟩
          have : xs = ys := eq_of_getD (HLA.out.trans HLB.out.symm) (fun j hj => HZ.out j (by have := HLA.out; omega))
          simp [this]
  · have hb1 : ((na : Int) != (nb : Int)) = true := by rw [bne_iff_ne]; omega
    go_enter Try.func54, Try.ntmps54
    go_wp2
    go_ret
    refine ⟨ret_bool ?_, Eqw.refl _⟩
    have : xs ≠ ys := fun e => hne (by rw [← HLA.out, ← HLB.out, e])
    simp [this]

set_option maxRecDepth 100000 in
set_option maxHeartbeats 1000000 in
/-- slices.Clone: a row of its own. -/
theorem clone_any (ao : Option Addr) (n cap : Nat) (xs : List Int) (w : World) (h : RowAt w ao n cap xs) (hn : n ≤ 1000) :
    Calls Try.prog 46 #[.slice ao n cap] w fun e w' => ∃ ro c, e = .returned (.slice ro n c) ∧ RowAt w' ro n c xs ∧ Below w.heap.size w w' := by
  obtain ⟨i0, hi, hz0, hz1, hz2⟩ := info_parts Try.info50
  have hnil : ∀ wx : World, (binOp .eql 23 (.slice ao n cap) (.slice none 0 0)).run Try.prog wx = .ok (.bool ao.isNone) wx := fun wx => Lib.run_eql_slice_nil wx 23 50 ao n cap 0 0 Try.underlying23
  cases ao with
  | none =>
    have hc := h.bare rfl
    have h0 : n = 0 := by have := h.fits; omega
    have hx : xs = [] := List.length_eq_zero_iff.1 (h.len.trans h0)
    subst hc h0 hx
    clear h
    go_enter Try.func46, Try.ntmps46
    go_wp2
    go_ret
    exact ⟨none, 0, rfl, RowAt.nil _, Below.refl _ _⟩
  | some ad =>
    have hcells : ∀ j u, (xs.map (Value.int .u64))[j]? = some u → (w.alloc (Obj.cells #[] 50)).cell? (ad.add j) = some u := fun j u hj => by
      have hjl : j < xs.length := by
        rcases Nat.lt_or_ge j xs.length with h' | h'
        · exact h'
        · rw [List.getElem?_eq_none (by simpa using h')] at hj; simp at hj
      obtain ⟨b, off, e, hlt, hc⟩ := h.cells (by intro e; rw [e] at hjl; simp at hjl)
      cases e
      rw [Addr.add_lit, World.cell?_alloc_past _ _ _ (by exact hlt), hc j hjl]
      simp [hjl] at hj
      simp [hjl, hj]
    have HC : Hid _ := hcells
    have HL : Hid ((xs.map (Value.int .u64)).length = n * 1 ∧ Limbs xs ∧ xs.length = n) := ⟨by rw [List.length_map, h.len]; omega, h.limbs, h.len⟩
    clear hcells h
    go_enter Try.func46, Try.ntmps46
    go_wp2_with (at_builtin; refine wpList_append_own _ rfl (.tmp 5) (.tmp 6) 23 rfl w.heap.size 50 i0 (.int .u64 0) 1 8 Try.underlying23 hi hz0 hz1 hz2 rfl (by decide) _ 0 [] rfl (owns0 w) ad n cap (xs.map (Value.int .u64)) rfl HL.out.1 HC.out (ints_one _) (by unfold maxLen; omega) (by omega) (by simp) ?_)
    intro v' w1 hown' hgrow _
    obtain ⟨a, c, e, hr⟩ := RowAt.owns hown' HL.out.2.1
    rw [e]
    have HB : Hid (RowAt w1 a n c xs ∧ Below w.heap.size w w1) := ⟨hr, below_grown _ hgrow (Nat.le_refl _)⟩
    clear hown' hgrow e hr
    go_wp2
    go_ret
    exact ⟨a, c, rfl, HB.out.1, HB.out.2⟩

theorem equal_val (ao bo : Option Addr) (na ca nb cb : Nat) (xs ys : List Int) (w : World) (ha : RowAt w ao na ca xs) (hb : RowAt w bo nb cb ys) (h : xs = ys) :
    Calls Try.prog 54 #[.slice ao na ca, .slice bo nb cb] w fun e w' => e = .returned (.bool true) ∧ Below w.heap.size w w' :=
  (equal_any ao bo na ca nb cb xs ys w ha hb).mono fun _ _ hh => ⟨hh.1.trans (ret_bool (by simp [h])), hh.2.below (Below.refl _ _)⟩

theorem below2' (w : World) (o o' : Obj) : Below w.heap.size w ((w.alloc o).alloc o') := ((Below.refl _ _).alloc (Nat.le_refl _) o).alloc (by simp) o'

set_option maxHeartbeats 1000000 in
/-- ratio.Same of a number and itself. -/
theorem same_r (an : Bool) (ao : Option Addr) (al ac : Nat) (aeo : Option Addr) (ael aec : Nat) (bn : Bool) (bo : Option Addr) (bl bc : Nat) (beo : Option Addr) (bel bec : Nat) (a b : RatL) (w : World)
    (ha : RatAt w ao al ac aeo ael aec a) (hb : RatAt w bo bl bc beo bel bec b) (hga : a.neg = an) (hgb : b.neg = bn) (he : a = b) :
    Calls Try.prog 30 #[.agg #[.bool an, .slice ao al ac, .slice aeo ael aec], .agg #[.bool bn, .slice bo bl bc, .slice beo bel bec]] w fun e w' => e = .returned (.bool true) ∧ Below w.heap.size w w' := by
  subst he
  have hnn : an = bn := hga.symm.trans hgb
  subst hnn
  have hb2 := below2' w (.cells #[.bool an, .slice ao al ac, .slice aeo ael aec] 28) (.cells #[.bool an, .slice bo bl bc, .slice beo bel bec] 28)
  have ba := (RBox.new w an ao al ac aeo ael aec).alloc (.cells #[.bool an, .slice bo bl bc, .slice beo bel bec] 28)
  have bb := RBox.new (w.alloc (.cells #[.bool an, .slice ao al ac, .slice aeo ael aec] 28)) an bo bl bc beo bel bec
  rw [World.size_alloc] at bb
  have H : Hid (RatAt _ ao al ac aeo ael aec a ∧ RatAt _ bo bl bc beo bel bec a ∧ RBox _ w.heap.size an ao al ac aeo ael aec ∧ RBox _ (w.heap.size + 1) an bo bl bc beo bel bec ∧ Below w.heap.size w _) := ⟨ha.below hb2, hb.below hb2, ba, bb, hb2⟩
  clear ha hb hga hgb hb2 ba bb
  go_enter Try.func30, Try.ntmps30
  go_wp2_with fail
  refine (equal_val _ _ _ _ _ _ a.num a.num _ H.out.1.num H.out.2.1.num rfl).mono ?_
  rintro e w1 ⟨rfl, b1⟩
  have c2 := (H.out.2.2.1.below b1).c2
  have d2 := (H.out.2.2.2.1.below b1).c2
  have H1 : Hid (RatAt w1 ao al ac aeo ael aec a ∧ RatAt w1 bo bl bc beo bel bec a ∧ Below w.heap.size w w1) := ⟨H.out.1.below b1, H.out.2.1.below b1, chain H.out.2.2.2.2 b1⟩
  clear b1
  go_wp2_with fail
  refine (equal_val _ _ _ _ _ _ a.den a.den _ H1.out.1.den H1.out.2.1.den rfl).mono ?_
  rintro e w2 ⟨rfl, b2⟩
  have H2 : Hid (Below w.heap.size w w2) := chain H1.out.2.2 b2
  clear b2
  go_wp2
  go_ret
  exact ⟨rfl, H2.out⟩

set_option maxRecDepth 100000 in
set_option maxHeartbeats 1000000 in
/-- The reference's Same. -/
theorem rsame_r (an : Bool) (ao : Option Addr) (al ac : Nat) (aeo : Option Addr) (ael aec : Nat) (bn : Bool) (bo : Option Addr) (bl bc : Nat) (beo : Option Addr) (bel bec : Nat) (a b : RatL) (w : World)
    (ha : RatAt w ao al ac aeo ael aec a) (hb : RatAt w bo bl bc beo bel bec b) (hga : a.neg = an) (hgb : b.neg = bn) (t : Bool) (ht : t = true ↔ a = b) :
    Calls Try.prog 15 #[.agg #[.bool an, .slice ao al ac, .slice aeo ael aec], .agg #[.bool bn, .slice bo bl bc, .slice beo bel bec]] w fun e w' => e = .returned (.bool t) ∧ Below w.heap.size w w' := by
  have hb2 := below2' w (.cells #[.bool an, .slice ao al ac, .slice aeo ael aec] 28) (.cells #[.bool bn, .slice bo bl bc, .slice beo bel bec] 28)
  have ba := (RBox.new w an ao al ac aeo ael aec).alloc (.cells #[.bool bn, .slice bo bl bc, .slice beo bel bec] 28)
  have bb := RBox.new (w.alloc (.cells #[.bool an, .slice ao al ac, .slice aeo ael aec] 28)) bn bo bl bc beo bel bec
  rw [World.size_alloc] at bb
  have hab : a = b ↔ an = bn ∧ a.num = b.num ∧ a.den = b.den := by
    constructor
    · intro h
      subst h
      exact ⟨hga.symm.trans hgb, rfl, rfl⟩
    · rintro ⟨h1, h2, h3⟩
      cases a
      cases b
      simp_all
  have H : Hid (RatAt _ ao al ac aeo ael aec a ∧ RatAt _ bo bl bc beo bel bec b ∧ RBox _ w.heap.size an ao al ac aeo ael aec ∧ RBox _ (w.heap.size + 1) bn bo bl bc beo bel bec ∧ Below w.heap.size w _ ∧ (t = true ↔ an = bn ∧ a.num = b.num ∧ a.den = b.den)) := ⟨ha.below hb2, hb.below hb2, ba, bb, hb2, ht.trans hab⟩
  clear ha hb hga hgb hb2 ba bb hab ht
  by_cases hn : an = bn
  · have hnb : (an == bn) = true := by rw [hn]; simp
    have HN : Hid (an = bn) := hn
    clear hn
    go_enter Try.func15, Try.ntmps15
    go_wp2_with fail
    refine (rnsame_any _ _ _ _ _ _ a.num b.num _ H.out.1.num H.out.2.1.num).mono ?_
    rintro e w1 ⟨rfl, b1⟩
    have c2 := (H.out.2.2.1.below b1).c2
    have d2 := (H.out.2.2.2.1.below b1).c2
    have H1 : Hid (RatAt w1 ao al ac aeo ael aec a ∧ RatAt w1 bo bl bc beo bel bec b ∧ Below w.heap.size w w1) := ⟨H.out.1.below b1, H.out.2.1.below b1, chain H.out.2.2.2.2.1 b1⟩
    clear b1
    by_cases hm : a.num = b.num
    · have hmd : decide (a.num = b.num) = true := decide_eq_true hm
      have HM : Hid (a.num = b.num) := hm
      rw [hmd]
      clear hm hmd
      go_wp2_with fail
      refine (rnsame_any _ _ _ _ _ _ a.den b.den _ H1.out.1.den H1.out.2.1.den).mono ?_
      rintro e w2 ⟨rfl, b2⟩
      have H2 : Hid (Below w.heap.size w w2) := chain H1.out.2.2 b2
      clear b2
      obtain ⟨td, htd⟩ : ∃ td, td = decide (a.den = b.den) := ⟨_, rfl⟩
      rw [← htd]
      have HT : Hid (td = t) := by
        have h9 : td = t := by
          rw [htd, Bool.eq_iff_iff, H.out.2.2.2.2.2, decide_eq_true_iff]
          exact ⟨fun h => ⟨HN.out, HM.out, h⟩, fun h => h.2.2⟩
        exact h9
      clear htd
      go_wp2
      go_ret
      exact ⟨ret_bool (by simpa using HT.out), H2.out⟩
    · have hmd : decide (a.num = b.num) = false := decide_eq_false hm
      have htf : t = false := by
        cases e : t with
        | false => rfl
        | true => exact absurd (H.out.2.2.2.2.2.1 e).2.1 hm
      rw [hmd]
      subst htf
      clear hm hmd
      go_wp2
      go_ret
      exact ⟨rfl, H1.out.2.2⟩
  · have hnb : (an == bn) = false := by rw [beq_eq_false_iff_ne]; exact hn
    have htf : t = false := by
      cases e : t with
      | false => rfl
      | true => exact absurd (H.out.2.2.2.2.2.1 e).1 hn
    subst htf
    clear hn
    go_enter Try.func15, Try.ntmps15
    go_wp2
    go_ret
    exact ⟨rfl, H.out.2.2.2.2.1⟩

end Go.Proofs.Ytnkjfandknndkaa

/-! ratio: Of, Neg, Inv; the reference's Of. -/
namespace Go.Proofs.Ytnkjfandknndkaa
open Go.RowKit
attribute [local go_sem ↓] Go.wp_at_zero Go.wp_at_succ

theorem gcd_one (a : Int) : gcdI a 1 = 1 := by unfold gcdI; simp

/-- A whole number. -/
theorem Is.whole {n : Int} {p q : List Int} (hp : Num p (n.natAbs : Int)) (hq : Num q 1) (hn : (n.natAbs : Int) < BB) : Is ⟨decide (n < 0), p, q⟩ n 1 := by
  have hbb := Big_BB
  have hb1 := Big_one
  refine ⟨⟨hp.may.2 (by omega), hq.may.2 hb1, by rw [hq.val]; omega, by rw [hp.val, hq.val]; exact gcd_one _, fun h => ?_⟩, ⟨hp.limbs, hq.limbs⟩, by omega, ?_⟩
  · rw [hp.val]
    have := of_decide_eq_true h
    omega
  · show sg (decide (n < 0)) (val p) * 1 = n * val q
    rw [hp.val, hq.val]
    unfold sg
    by_cases h : n < 0
    · rw [decide_eq_true h]
      simp
      omega
    · rw [decide_eq_false h]
      simp
      omega

set_option maxHeartbeats 1000000 in
theorem of_r (n : Int) (w : World) (h0 : -9223372036854775808 ≤ n) (h1 : n ≤ 9223372036854775807) :
    Calls Try.prog 16 #[.int .i64 n] w fun e w' => ∃ neg no nn nc eo en ec r, e = .returned (.agg #[.bool neg, .slice no nn nc, .slice eo en ec]) ∧ r.neg = neg ∧ RatAt w' no nn nc eo en ec r ∧ Is r n 1 ∧ Below w.heap.size w w' := by
  have bx := RBox.new w false none 0 0 none 0 0
  have hB0 : Below w.heap.size w (w.alloc (.cells #[.bool false, .slice none 0 0, .slice none 0 0] 28)) := (Below.refl _ _).alloc (Nat.le_refl _) _
  have H : Hid (RBox _ w.heap.size false none 0 0 none 0 0 ∧ Below w.heap.size w (w.alloc (.cells #[.bool false, .slice none 0 0, .slice none 0 0] 28))) := ⟨bx, hB0⟩
  have hab : (n.natAbs : Int) < BB := by unfold BB; omega
  obtain ⟨S, hS⟩ : ∃ S, S = (n.natAbs : Int) := ⟨_, rfl⟩
  have HS : Hid (S = (n.natAbs : Int) ∧ 0 ≤ S ∧ S < BB ∧ (1 : Int) < BB) := ⟨hS, by omega, by omega, by unfold BB; omega⟩
  clear bx hB0
  by_cases hn : n < 0
  · obtain ⟨U, hU⟩ : ∃ U, U = n + 18446744073709551616 := ⟨_, rfl⟩
    have hw1 : IntKind.u64.wrap n = U := by rw [IntKind.wrap_u64]; omega
    have hw2 : IntKind.u64.wrap (-U) = S := by rw [IntKind.wrap_u64]; omega
    have HN : Hid (n < 0) := hn
    clear hab hS hU
    go_enter Try.func16, Try.ntmps16
    go_wp2_with fail
    refine (of_any S _ HS.out.2.1 HS.out.2.2.1).mono ?_
    rintro e w1 ⟨po, pn, pc, p, rfl, p1, p2, p3, p4⟩
    have P : Hid (RowAt w1 po pn pc p ∧ Num p S ∧ RBox w1 w.heap.size false none 0 0 none 0 0 ∧ Below w.heap.size w w1) := ⟨p1, p2, H.out.1.below p4, chain H.out.2 p4⟩
    clear p1 p2 p3 p4
    go_wp2_with fail
    refine (of_any 1 _ (by omega) HS.out.2.2.2).mono ?_
    rintro e w2 ⟨qo, qn, qc, q, rfl, q1, q2, q3, q4⟩
    have bx2 := P.out.2.2.1.below q4
    have r0 := bx2.c0
    have r1 := bx2.c1
    have r2 := bx2.c2
    have f0 := bx2.f 0
    have f1 := bx2.f 1
    have f2 := bx2.f 2
    have Q : Hid (RatAt w2 po pn pc qo qn qc ⟨true, p, q⟩ ∧ Num q 1 ∧ RBox w2 w.heap.size false none 0 0 none 0 0 ∧ Below w.heap.size w w2) := ⟨⟨P.out.1.below q4, q1⟩, q2, bx2, chain P.out.2.2.2 q4⟩
    have HI : Hid (Is ⟨true, p, q⟩ n 1) := by
      have h := Is.whole (n := n) (p := p) (q := q) (by rw [← HS.out.1]; exact P.out.2.1) q2 (by rw [← HS.out.1]; exact HS.out.2.2.1)
      rw [decide_eq_true HN.out] at h
      exact h
    have HR : Hid _ := Q.out.2.2.1.set true po pn pc qo qn qc
    have HT : Hid _ := Q.out.1.setR Q.out.2.2.1 (.bool true) (.slice po pn pc) (.slice qo qn qc)
    clear q1 q2 q3 q4 bx2
    go_wp2_with fail
    exact bodyPost_ret (results_r1 rfl _ HR.out rfl) rfl ⟨true, po, pn, pc, qo, qn, qc, ⟨true, p, q⟩, rfl, rfl, HT.out, HI.out, below_set Q.out.2.2.2 (Nat.le_refl _) _ _ _⟩
  · have hw1 : IntKind.u64.wrap n = S := by rw [IntKind.wrap_u64]; omega
    have HN : Hid (¬ n < 0) := hn
    clear hab hS
    go_enter Try.func16, Try.ntmps16
    go_wp2_with fail
    refine (of_any S _ HS.out.2.1 HS.out.2.2.1).mono ?_
    rintro e w1 ⟨po, pn, pc, p, rfl, p1, p2, p3, p4⟩
    have P : Hid (RowAt w1 po pn pc p ∧ Num p S ∧ RBox w1 w.heap.size false none 0 0 none 0 0 ∧ Below w.heap.size w w1) := ⟨p1, p2, H.out.1.below p4, chain H.out.2 p4⟩
    clear p1 p2 p3 p4
    go_wp2_with fail
    refine (of_any 1 _ (by omega) HS.out.2.2.2).mono ?_
    rintro e w2 ⟨qo, qn, qc, q, rfl, q1, q2, q3, q4⟩
    have bx2 := P.out.2.2.1.below q4
    have r0 := bx2.c0
    have r1 := bx2.c1
    have r2 := bx2.c2
    have f0 := bx2.f 0
    have f1 := bx2.f 1
    have f2 := bx2.f 2
    have Q : Hid (RatAt w2 po pn pc qo qn qc ⟨false, p, q⟩ ∧ Num q 1 ∧ RBox w2 w.heap.size false none 0 0 none 0 0 ∧ Below w.heap.size w w2) := ⟨⟨P.out.1.below q4, q1⟩, q2, bx2, chain P.out.2.2.2 q4⟩
    have HI : Hid (Is ⟨false, p, q⟩ n 1) := by
      have h := Is.whole (n := n) (p := p) (q := q) (by rw [← HS.out.1]; exact P.out.2.1) q2 (by rw [← HS.out.1]; exact HS.out.2.2.1)
      rw [decide_eq_false (Int.not_lt.2 HN.out)] at h
      exact h
    have HR : Hid _ := Q.out.2.2.1.set false po pn pc qo qn qc
    have HT : Hid _ := Q.out.1.setR Q.out.2.2.1 (.bool false) (.slice po pn pc) (.slice qo qn qc)
    clear q1 q2 q3 q4 bx2
    go_wp2_with fail
    exact bodyPost_ret (results_r1 rfl _ HR.out rfl) rfl ⟨false, po, pn, pc, qo, qn, qc, ⟨false, p, q⟩, rfl, rfl, HT.out, HI.out, below_set Q.out.2.2.2 (Nat.le_refl _) _ _ _⟩

set_option maxRecDepth 100000 in
set_option maxHeartbeats 2000000 in
/-- ratio.Neg of a number that may be. -/
theorem neg_r (an : Bool) (ao : Option Addr) (al ac : Nat) (aeo : Option Addr) (ael aec : Nat) (a : RatL) (w : World) (ha : RatAt w ao al ac aeo ael aec a) (hga : a.neg = an) (hma : MayR a) :
    Calls Try.prog 23 #[.agg #[.bool an, .slice ao al ac, .slice aeo ael aec]] w fun e w' => ∃ neg no nn nc eo en ec, e = .returned (.agg #[.bool neg, .slice no nn nc, .slice eo en ec]) ∧ a.flip.neg = neg ∧ RatAt w' no nn nc eo en ec a.flip ∧ Below w.heap.size w w' := by
  have hb2 := below2' w (.cells #[.bool an, .slice ao al ac, .slice aeo ael aec] 28) (.cells #[.bool false, .slice none 0 0, .slice none 0 0] 28)
  have ba := (RBox.new w an ao al ac aeo ael aec).alloc (.cells #[.bool false, .slice none 0 0, .slice none 0 0] 28)
  have bb := RBox.new (w.alloc (.cells #[.bool an, .slice ao al ac, .slice aeo ael aec] 28)) false none 0 0 none 0 0
  rw [World.size_alloc] at bb
  have hal : al ≤ 8 := by have := hma.num.1; have := ha.num.len; omega
  have hael : ael ≤ 8 := by have := hma.den.1; have := ha.den.len; omega
  have H : Hid (RatAt _ ao al ac aeo ael aec a ∧ RBox _ w.heap.size an ao al ac aeo ael aec ∧ RBox _ (w.heap.size + 1) false none 0 0 none 0 0 ∧ Below w.heap.size w _ ∧ a.neg = an ∧ a.num.length = al) := ⟨ha.below hb2, ba, bb, hb2, hga, ha.num.len⟩
  clear ha hga hb2 ba bb hma
  go_enter Try.func23, Try.ntmps23
  go_wp2_with fail
  refine (zero_any _ _ _ _ _ _ _ _ (by omega)).mono ?_
  rintro e w1 ⟨rfl, b1⟩
  have H1 : Hid (RatAt w1 ao al ac aeo ael aec a ∧ RBox w1 w.heap.size an ao al ac aeo ael aec ∧ RBox w1 (w.heap.size + 1) false none 0 0 none 0 0 ∧ Below w.heap.size w w1) := ⟨H.out.1.below b1, H.out.2.1.below b1, H.out.2.2.1.below b1, chain H.out.2.2.2.1 b1⟩
  have c0 := H1.out.2.1.c0
  have c1 := H1.out.2.1.c1
  have c2 := H1.out.2.1.c2
  have HD : Hid (RatAt w1.drew ao al ac aeo ael aec a ∧ Below w1.heap.size w1 w1.drew) := ⟨H1.out.1.below (Below.refl _ _).drew, (Below.refl _ _).drew⟩
  clear b1
  by_cases h0 : al = 0
  · have hz : decide (al = 0) = true := decide_eq_true h0
    have HF : Hid (a.flip = ⟨an, a.num, a.den⟩) := by
      show a.flip = _
      unfold RatL.flip
      rw [H.out.2.2.2.2.1, H.out.2.2.2.2.2, if_pos h0]
    rw [hz]
    clear hz h0
    go_wp2_with fail
    go_region_with (first
      | (go_at_call_of 46 (Value.slice ao al ac); refine (clone_any ao al ac a.num _ ?_ ?_).mono ?_; exact HD.out.1.num; omega; rintro e w2 ⟨po, pc, rfl, p1, p2⟩; have p3 := HD.out.2.trans p2; have x2 := (H1.out.2.1.below p3).c2)
      | (go_at_call_of 46 (Value.slice aeo ael aec); refine (clone_any aeo ael aec a.den _ ?_ ?_).mono ?_; exact HD.out.1.den.below p2; omega; rintro e w3 ⟨qo, qc, rfl, q1, q2⟩; have q3 := chain p3 q2; have bx3 := H1.out.2.2.1.below q3; have r0 := bx3.c0; have r1 := bx3.c1; have r2 := bx3.c2; have f0 := bx3.f 0; have f1 := bx3.f 1; have f2 := bx3.f 2))
    all_goals
      have Q : Hid (RatAt w3 po al pc qo ael qc ⟨an, a.num, a.den⟩ ∧ RBox w3 (w.heap.size + 1) false none 0 0 none 0 0 ∧ Below w.heap.size w w3) := ⟨⟨p1.below q2, q1⟩, bx3, chain H1.out.2.2.2 q3⟩
      have HR : Hid _ := Q.out.2.1.set an po al pc qo ael qc
      have HT : Hid _ := Q.out.1.setR Q.out.2.1 (.bool an) (.slice po al pc) (.slice qo ael qc)
      clear p1 p2 p3 x2 q1 q2 q3 bx3
      go_wp2_with fail
      exact bodyPost_ret (results_r1 rfl _ HR.out rfl) rfl ⟨an, po, al, pc, qo, ael, qc, rfl, by rw [HF.out], by rw [HF.out]; exact HT.out, below_set Q.out.2.2 (by omega) _ _ _⟩
  · have hz : decide (al = 0) = false := decide_eq_false h0
    obtain ⟨sn, hsn⟩ : ∃ sn, sn = !an := ⟨_, rfl⟩
    have HF : Hid (a.flip = ⟨sn, a.num, a.den⟩) := by
      show a.flip = _
      unfold RatL.flip
      rw [H.out.2.2.2.2.1, H.out.2.2.2.2.2, if_neg h0, hsn]
    have hsn' : (!an) = sn := hsn.symm
    rw [hz]
    clear hz h0 hsn
    go_wp2_with fail
    go_region_with (first
      | (go_at_call_of 46 (Value.slice ao al ac); refine (clone_any ao al ac a.num _ ?_ ?_).mono ?_; exact HD.out.1.num; omega; rintro e w2 ⟨po, pc, rfl, p1, p2⟩; have p3 := HD.out.2.trans p2; have x2 := (H1.out.2.1.below p3).c2)
      | (go_at_call_of 46 (Value.slice aeo ael aec); refine (clone_any aeo ael aec a.den _ ?_ ?_).mono ?_; exact HD.out.1.den.below p2; omega; rintro e w3 ⟨qo, qc, rfl, q1, q2⟩; have q3 := chain p3 q2; have bx3 := H1.out.2.2.1.below q3; have r0 := bx3.c0; have r1 := bx3.c1; have r2 := bx3.c2; have f0 := bx3.f 0; have f1 := bx3.f 1; have f2 := bx3.f 2))
    all_goals
      have Q : Hid (RatAt w3 po al pc qo ael qc ⟨sn, a.num, a.den⟩ ∧ RBox w3 (w.heap.size + 1) false none 0 0 none 0 0 ∧ Below w.heap.size w w3) := ⟨⟨p1.below q2, q1⟩, bx3, chain H1.out.2.2.2 q3⟩
      have HR : Hid _ := Q.out.2.1.set sn po al pc qo ael qc
      have HT : Hid _ := Q.out.1.setR Q.out.2.1 (.bool sn) (.slice po al pc) (.slice qo ael qc)
      clear p1 p2 p3 x2 q1 q2 q3 bx3
      go_wp2_with fail
      exact bodyPost_ret (results_r1 rfl _ HR.out rfl) rfl ⟨sn, po, al, pc, qo, ael, qc, rfl, by rw [HF.out], by rw [HF.out]; exact HT.out, below_set Q.out.2.2 (by omega) _ _ _⟩

set_option maxRecDepth 100000 in
set_option maxHeartbeats 2000000 in
/-- ratio.Inv of a number that may be and is not 0. -/
theorem inv_r (an : Bool) (ao : Option Addr) (al ac : Nat) (aeo : Option Addr) (ael aec : Nat) (a : RatL) (w : World) (ha : RatAt w ao al ac aeo ael aec a) (hga : a.neg = an) (hma : MayR a) (hz : a.top ≠ 0) :
    Calls Try.prog 24 #[.agg #[.bool an, .slice ao al ac, .slice aeo ael aec]] w fun e w' => ∃ neg no nn nc eo en ec, e = .returned (.tuple #[.agg #[.bool neg, .slice no nn nc, .slice eo en ec], .int .i64 0]) ∧ a.inv.neg = neg ∧ RatAt w' no nn nc eo en ec a.inv ∧ Below w.heap.size w w' := by
  have hb2 := below2' w (.cells #[.bool an, .slice ao al ac, .slice aeo ael aec] 28) (.cells #[.bool false, .slice none 0 0, .slice none 0 0] 28)
  have ba := (RBox.new w an ao al ac aeo ael aec).alloc (.cells #[.bool false, .slice none 0 0, .slice none 0 0] 28)
  have bb := RBox.new (w.alloc (.cells #[.bool an, .slice ao al ac, .slice aeo ael aec] 28)) false none 0 0 none 0 0
  rw [World.size_alloc] at bb
  have hal : al ≤ 8 := by have := hma.num.1; have := ha.num.len; omega
  have hael : ael ≤ 8 := by have := hma.den.1; have := ha.den.len; omega
  have hal0 : al ≠ 0 := fun e => hz ((hma.zero_len ha.lim).1 (ha.num.len.trans e))
  have hzf : decide (al = 0) = false := decide_eq_false hal0
  have H : Hid (RatAt _ ao al ac aeo ael aec a ∧ RBox _ w.heap.size an ao al ac aeo ael aec ∧ RBox _ (w.heap.size + 1) false none 0 0 none 0 0 ∧ Below w.heap.size w _ ∧ a.neg = an ∧ MayR a) := ⟨ha.below hb2, ba, bb, hb2, hga, hma⟩
  clear ha hga hb2 ba bb hma hz hal0
  go_enter Try.func24, Try.ntmps24
  go_wp2_with fail
  refine (rmay_r _ _ _ _ _ _ _ a _ H.out.1 H.out.2.2.2.2.1 true (yes_iff H.out.2.2.2.2.2)).mono ?_
  rintro e w0 ⟨rfl, b0⟩
  have H0 : Hid (RatAt w0 ao al ac aeo ael aec a ∧ RBox w0 w.heap.size an ao al ac aeo ael aec ∧ RBox w0 (w.heap.size + 1) false none 0 0 none 0 0 ∧ Below w.heap.size w w0) := ⟨H.out.1.below b0, H.out.2.1.below b0, H.out.2.2.1.below b0, chain H.out.2.2.2.1 b0⟩
  have c0 := H0.out.2.1.c0
  have c1 := H0.out.2.1.c1
  have c2 := H0.out.2.1.c2
  clear b0
  go_wp2_with fail
  refine (zero_any _ _ _ _ _ _ _ _ (by omega)).mono ?_
  rintro e w1 ⟨rfl, b1⟩
  rw [hzf]
  have H1 : Hid (RatAt w1 ao al ac aeo ael aec a ∧ RBox w1 w.heap.size an ao al ac aeo ael aec ∧ RBox w1 (w.heap.size + 1) false none 0 0 none 0 0 ∧ Below w.heap.size w w1) := ⟨H0.out.1.below b1, H0.out.2.1.below b1, H0.out.2.2.1.below b1, chain H0.out.2.2.2 b1⟩
  have d0 := H1.out.2.1.c0
  have d1 := H1.out.2.1.c1
  have d2 := H1.out.2.1.c2
  have HD : Hid (RatAt w1.drew ao al ac aeo ael aec a ∧ Below w1.heap.size w1 w1.drew) := ⟨H1.out.1.below (Below.refl _ _).drew, (Below.refl _ _).drew⟩
  clear b1 c0 c1 c2 hzf
  go_wp2_with fail
  go_region_with (first
    | (go_at_call_of 46 (Value.slice aeo ael aec); refine (clone_any aeo ael aec a.den _ ?_ ?_).mono ?_; exact HD.out.1.den; omega; rintro e w2 ⟨po, pc, rfl, p1, p2⟩; have p3 := HD.out.2.trans p2; have x0 := (H1.out.2.1.below p3).c0; have x1 := (H1.out.2.1.below p3).c1)
    | (go_at_call_of 46 (Value.slice ao al ac); refine (clone_any ao al ac a.num _ ?_ ?_).mono ?_; exact HD.out.1.num.below p2; omega; rintro e w3 ⟨qo, qc, rfl, q1, q2⟩; have q3 := chain p3 q2; have y0 := (H1.out.2.1.below q3).c0; have bx3 := H1.out.2.2.1.below q3; have r0 := bx3.c0; have r1 := bx3.c1; have r2 := bx3.c2; have f0 := bx3.f 0; have f1 := bx3.f 1; have f2 := bx3.f 2))
  all_goals
    have Q : Hid (RatAt w3 po ael pc qo al qc ⟨an, a.den, a.num⟩ ∧ RBox w3 (w.heap.size + 1) false none 0 0 none 0 0 ∧ Below w.heap.size w w3) := ⟨⟨p1.below q2, q1⟩, bx3, chain H1.out.2.2.2 q3⟩
    have HR : Hid _ := Q.out.2.1.set an po ael pc qo al qc
    have HT : Hid _ := Q.out.1.setR Q.out.2.1 (.bool an) (.slice po ael pc) (.slice qo al qc)
    clear p1 p2 p3 x0 x1 y0 q1 q2 q3 bx3
    go_wp2_with fail
    exact bodyPost_ret (results_r2 rfl _ HR.out rfl _ rfl) rfl ⟨an, po, ael, pc, qo, al, qc, rfl, H.out.2.2.2.2.1, by unfold RatL.inv; rw [H.out.2.2.2.2.1]; exact HT.out, below_set Q.out.2.2 (by omega) _ _ _⟩

set_option maxHeartbeats 1000000 in
/-- ratio.Inv of 0. -/
theorem inv_zero (an : Bool) (ao : Option Addr) (al ac : Nat) (aeo : Option Addr) (ael aec : Nat) (a : RatL) (w : World) (ha : RatAt w ao al ac aeo ael aec a) (hga : a.neg = an) (hma : MayR a) (hz : a.top = 0) :
    Calls Try.prog 24 #[.agg #[.bool an, .slice ao al ac, .slice aeo ael aec]] w fun e w' => e = .returned (.tuple #[.agg #[.bool false, .slice none 0 0, .slice none 0 0], .int .i64 30]) ∧ Below w.heap.size w w' := by
  have hb2 := below2' w (.cells #[.bool an, .slice ao al ac, .slice aeo ael aec] 28) (.cells #[.bool false, .slice none 0 0, .slice none 0 0] 28)
  have ba := (RBox.new w an ao al ac aeo ael aec).alloc (.cells #[.bool false, .slice none 0 0, .slice none 0 0] 28)
  have bb := RBox.new (w.alloc (.cells #[.bool an, .slice ao al ac, .slice aeo ael aec] 28)) false none 0 0 none 0 0
  rw [World.size_alloc] at bb
  have hal : al ≤ 8 := by have := hma.num.1; have := ha.num.len; omega
  have hal0 : al = 0 := ha.num.len.symm.trans ((hma.zero_len ha.lim).2 hz)
  have hzf : decide (al = 0) = true := decide_eq_true hal0
  have H : Hid (RatAt _ ao al ac aeo ael aec a ∧ RBox _ w.heap.size an ao al ac aeo ael aec ∧ RBox _ (w.heap.size + 1) false none 0 0 none 0 0 ∧ Below w.heap.size w _ ∧ a.neg = an ∧ MayR a) := ⟨ha.below hb2, ba, bb, hb2, hga, hma⟩
  clear ha hga hb2 ba bb hma hz hal0
  go_enter Try.func24, Try.ntmps24
  go_wp2_with fail
  refine (rmay_r _ _ _ _ _ _ _ a _ H.out.1 H.out.2.2.2.2.1 true (yes_iff H.out.2.2.2.2.2)).mono ?_
  rintro e w0 ⟨rfl, b0⟩
  have H0 : Hid (RBox w0 w.heap.size an ao al ac aeo ael aec ∧ RBox w0 (w.heap.size + 1) false none 0 0 none 0 0 ∧ Below w.heap.size w w0) := ⟨H.out.2.1.below b0, H.out.2.2.1.below b0, chain H.out.2.2.2.1 b0⟩
  have c0 := H0.out.1.c0
  have c1 := H0.out.1.c1
  have c2 := H0.out.1.c2
  clear b0
  go_wp2_with fail
  refine (zero_any _ _ _ _ _ _ _ _ (by omega)).mono ?_
  rintro e w1 ⟨rfl, b1⟩
  rw [hzf]
  have bx := H0.out.2.1.below b1
  have r0 := bx.c0
  have r1 := bx.c1
  have r2 := bx.c2
  have f0 := bx.f 0
  have f1 := bx.f 1
  have f2 := bx.f 2
  have HR : Hid _ := bx.set false none 0 0 none 0 0
  have HB : Hid (Below w.heap.size w w1) := chain H0.out.2.2 b1
  clear b1 c0 c1 c2 hzf bx
  go_wp2_with fail
  exact bodyPost_ret (results_r2 rfl _ HR.out rfl _ rfl) rfl ⟨rfl, below_set HB.out (by omega) _ _ _⟩

end Go.Proofs.Ytnkjfandknndkaa

/-! The reference's Make. -/
namespace Go.Proofs.Ytnkjfandknndkaa
open Go.RowKit

set_option maxHeartbeats 1000000 in
theorem rmake_any (neg : Bool) (xo : Option Addr) (xn xc : Nat) (yo : Option Addr) (yn yc : Nat) (xs ys : List Int) (w : World) (hx : RowAt w xo xn xc xs) (hy : RowAt w yo yn yc ys) :
    Calls Try.prog 12 #[.bool neg, .slice xo xn xc, .slice yo yn yc] w fun e w' => ∃ rneg no nn nc eo en ec r k, e = .returned (.tuple #[.agg #[.bool rneg, .slice no nn nc, .slice eo en ec], .int .i64 k]) ∧ r.neg = rneg ∧ RatAt w' no nn nc eo en ec r ∧ MakeOut neg xs ys r k ∧ Below w.heap.size w w' := by
  have hxm := nn_most hx
  have hym := nn_most hy
  have bx := RBox.new w false none 0 0 none 0 0
  have hB0 : Below w.heap.size w (w.alloc (.cells #[.bool false, .slice none 0 0, .slice none 0 0] 28)) := (Below.refl _ _).alloc (Nat.le_refl _) _
  have H : Hid (RowAt (w.alloc (.cells #[.bool false, .slice none 0 0, .slice none 0 0] 28)) xo xn xc xs ∧ RowAt (w.alloc (.cells #[.bool false, .slice none 0 0, .slice none 0 0] 28)) yo yn yc ys ∧ RBox (w.alloc (.cells #[.bool false, .slice none 0 0, .slice none 0 0] 28)) w.heap.size false none 0 0 none 0 0 ∧ Below w.heap.size w (w.alloc (.cells #[.bool false, .slice none 0 0, .slice none 0 0] 28))) := ⟨hx.below hB0, hy.below hB0, bx, hB0⟩
  have HL : Hid (ys.length = yn ∧ xs.length = xn ∧ Limbs xs ∧ Limbs ys) := ⟨hy.len, hx.len, hx.limbs, hy.limbs⟩
  clear bx hB0 hx hy
  go_enter Try.func12, Try.ntmps12
  go_wp2_with fail
  refine (rqgcd_any _ _ _ _ _ _ xs ys _ H.out.1 H.out.2.1).mono ?_
  rintro e w1 ⟨go, gn, gc, g, k, rfl, g1, g2, g3⟩
  have bx1 := H.out.2.2.1.below g3
  have c0 := bx1.c0
  have c1 := bx1.c1
  have c2 := bx1.c2
  have f0 := bx1.f 0
  have f1 := bx1.f 1
  have f2 := bx1.f 2
  have HG : Hid (RowAt w1 go gn gc g ∧ Out (May xs ∧ May ys) False (gcdI (val xs) (val ys)) g k ∧ Below w.heap.size w w1 ∧ RBox w1 w.heap.size false none 0 0 none 0 0 ∧ RowAt w1 xo xn xc xs ∧ RowAt w1 yo yn yc ys) := ⟨g1, g2, chain H.out.2.2.2 g3, bx1, H.out.1.below g3, H.out.2.1.below g3⟩
  clear g1 g2 g3 bx1
  by_cases hm : May xs ∧ May ys
  · have hlt := gcdI_lt (val_bd HL.out.2.2.1).1 (val_bd HL.out.2.2.2).1 (hm.1.lt HL.out.2.2.1) (hm.2.lt HL.out.2.2.2)
    obtain ⟨hk0, hnum⟩ := HG.out.2.1.ok_num hm (fun f => f) hlt
    subst hk0
    have HM : Hid ((May xs ∧ May ys) ∧ Num g (gcdI (val xs) (val ys)) ∧ gcdI (val xs) (val ys) < Big) := ⟨hm, hnum, hlt⟩
    clear hm hlt hnum
    by_cases hy0 : yn = 0
    · have HZ : Hid (val ys = 0) := (val_zero HL.out.2.2.2 HM.out.1.2 HL.out.1).1 hy0
      subst hy0
      have HR : Hid _ := HG.out.2.2.2.1.set false none 0 0 none 0 0
      go_wp2_with fail
      exact bodyPost_ret (results_r2 rfl _ HR.out rfl _ rfl) rfl ⟨false, none, 0, 0, none, 0, 0, rat0, 30, rfl, rfl, RatAt.zero _, ⟨fun h => absurd HM.out.1 h, fun _ _ => ⟨rfl, rfl⟩, fun _ h => absurd HZ.out h⟩, below_set HG.out.2.2.1 (Nat.le_refl _) _ _ _⟩
    · have HZ : Hid (val ys ≠ 0) := fun e => hy0 ((val_zero HL.out.2.2.2 HM.out.1.2 HL.out.1).2 e)
      have hy0b : ((yn : Int) == 0) = false := by rw [beq_eq_false_iff_ne]; omega
      have HGZ : Hid (val g ≠ 0) := by
        show val g ≠ 0
        rw [HM.out.2.1.val, gcdI_comm]
        have h1 := (val_bd HL.out.2.2.2).1
        have := gcdI_pos (a := val ys) (b := val xs) (by have := HZ.out; omega)
        omega
      have HMG : Hid (May g) := HM.out.2.1.may.2 HM.out.2.2
      clear hy0 c0 c1 c2 f0 f1 f2
      go_wp2_with fail
      refine (rqdiv_any _ _ _ _ _ _ xs g _ HG.out.2.2.2.2.1 HG.out.1).mono ?_
      rintro e w2 ⟨po, pn, pc, p, so, sn, sc, s, pk, rfl, p1, p2, p3, p4⟩
      obtain ⟨_, hp, _⟩ := p3.is_fine ⟨HM.out.1.1, HMG.out⟩ HGZ.out
      rw [HM.out.2.1.val] at hp
      have HP : Hid (RowAt w2 po pn pc p ∧ Num p (val xs / gcdI (val xs) (val ys)) ∧ RowAt w2 go gn gc g ∧ RowAt w2 yo yn yc ys ∧ RBox w2 w.heap.size false none 0 0 none 0 0 ∧ Below w.heap.size w w2) := ⟨p1, hp, HG.out.1.below p4, HG.out.2.2.2.2.2.below p4, HG.out.2.2.2.1.below p4, chain HG.out.2.2.1 p4⟩
      clear p1 p2 p3 p4 hp
      go_wp2_with fail
      refine (rqdiv_any _ _ _ _ _ _ ys g _ HP.out.2.2.2.1 HP.out.2.2.1).mono ?_
      rintro e w3 ⟨qo, qn, qc, q, to', tn, tc, t, qk, rfl, p1, p2, p3, p4⟩
      obtain ⟨_, hq, _⟩ := p3.is_fine ⟨HM.out.1.2, HMG.out⟩ HGZ.out
      rw [HM.out.2.1.val] at hq
      have hpm := nn_most (HP.out.1)
      have bx3 := HP.out.2.2.2.2.1.below p4
      have HQ : Hid (RowAt w3 po pn pc p ∧ Num p (val xs / gcdI (val xs) (val ys)) ∧ RowAt w3 qo qn qc q ∧ Num q (val ys / gcdI (val xs) (val ys)) ∧ RBox w3 w.heap.size false none 0 0 none 0 0 ∧ Below w.heap.size w w3 ∧ p.length = pn) := ⟨HP.out.1.below p4, HP.out.2.1, p1, hq, bx3, chain HP.out.2.2.2.2.2 p4, HP.out.1.len⟩
      have c0 := bx3.c0
      have c1 := bx3.c1
      have c2 := bx3.c2
      have f0 := bx3.f 0
      have f1 := bx3.f 1
      have f2 := bx3.f 2
      clear p1 p2 p3 p4 hq bx3
      have HI : Hid (Is ⟨neg && decide (0 < p.length), p, q⟩ (sg neg (val xs)) (val ys)) := Is.made HL.out.2.2.1 HL.out.2.2.2 HM.out.1.1 HM.out.1.2 HZ.out HQ.out.2.1 HQ.out.2.2.2.1
      cases neg with
      | false =>
        have HR : Hid _ := HQ.out.2.2.2.2.1.set false po pn pc qo qn qc
        have HT : Hid (RatAt _ po pn pc qo qn qc ⟨false, p, q⟩) := (⟨HQ.out.1, HQ.out.2.2.1⟩ : RatAt w3 po pn pc qo qn qc ⟨false, p, q⟩).setR HQ.out.2.2.2.2.1 (.bool false) (.slice po pn pc) (.slice qo qn qc)
        go_wp2_with fail
        exact bodyPost_ret (results_r2 rfl _ HR.out rfl _ rfl) rfl ⟨false, po, pn, pc, qo, qn, qc, ⟨false, p, q⟩, 0, rfl, rfl, HT.out, ⟨fun h => absurd HM.out.1 h, fun _ h => absurd h HZ.out, fun _ _ => ⟨rfl, HI.out⟩⟩, below_set HQ.out.2.2.2.2.2.1 (Nat.le_refl _) _ _ _⟩
      | true =>
        obtain ⟨sn', hsn⟩ : ∃ sn', sn' = decide (0 < pn) := ⟨_, rfl⟩
        have HI2 : Hid (Is ⟨sn', p, q⟩ (sg true (val xs)) (val ys)) := by
          have h := HI.out
          rw [HQ.out.2.2.2.2.2.2, ← hsn] at h
          exact h
        have HR : Hid _ := HQ.out.2.2.2.2.1.set sn' po pn pc qo qn qc
        have HT : Hid (RatAt _ po pn pc qo qn qc ⟨sn', p, q⟩) := (⟨HQ.out.1, HQ.out.2.2.1⟩ : RatAt w3 po pn pc qo qn qc ⟨sn', p, q⟩).setR HQ.out.2.2.2.2.1 (.bool sn') (.slice po pn pc) (.slice qo qn qc)
        go_wp2_with fail
        rw [← hsn]
        exact bodyPost_ret (results_r2 rfl _ HR.out rfl _ rfl) rfl ⟨sn', po, pn, pc, qo, qn, qc, ⟨sn', p, q⟩, 0, rfl, rfl, HT.out, ⟨fun h => absurd HM.out.1 h, fun _ h => absurd h HZ.out, fun _ _ => ⟨rfl, HI2.out⟩⟩, below_set HQ.out.2.2.2.2.2.1 (Nat.le_refl _) _ _ _⟩
  · obtain ⟨hk, _⟩ := HG.out.2.1.is_arg hm
    subst hk
    have HM : Hid (¬ (May xs ∧ May ys)) := hm
    have HR : Hid _ := HG.out.2.2.2.1.set false none 0 0 none 0 0
    clear hm
    go_wp2_with fail
    exact bodyPost_ret (results_r2 rfl _ HR.out rfl _ rfl) rfl ⟨false, none, 0, 0, none, 0, 0, rat0, 1, rfl, rfl, RatAt.zero _, ⟨fun _ => ⟨rfl, rfl⟩, fun h => absurd h HM.out, fun h => absurd h HM.out⟩, below_set HG.out.2.2.1 (Nat.le_refl _) _ _ _⟩

end Go.Proofs.Ytnkjfandknndkaa

/-! The statements' shown and made; the reference's Of. -/
namespace Go.Proofs.Ytnkjfandknndkaa
open Go.RowKit

theorem Is.small {n d : Int} (hn : 0 < n) (hn1 : n < BB) (hd : 0 < d) (hd1 : d < BB) (hg : gcdI n d = 1) : Is ⟨false, [n], [d]⟩ n d := by
  have hp := num1 hn hn1
  have hq := num1 hd hd1
  have hbb := Big_BB
  refine ⟨⟨hp.may.2 (by omega), hq.may.2 (by omega), by rw [hq.val]; omega, by rw [hp.val, hq.val]; exact hg, fun h => by cases h⟩, ⟨hp.limbs, hq.limbs⟩, hd, ?_⟩
  show sg false (val [n]) * d = n * val [d]
  rw [hp.val, hq.val]
  rfl

theorem two_rows (w : World) (x y : Int) (hx0 : 0 ≤ x) (hx : x < BB) (hy0 : 0 ≤ y) (hy : y < BB) :
    RowAt ((w.alloc (Obj.cells #[.int .u64 x] 50)).alloc (Obj.cells #[.int .u64 y] 50)) (some ⟨w.heap.size, 0, none⟩) 1 1 [x] ∧ RowAt ((w.alloc (Obj.cells #[.int .u64 x] 50)).alloc (Obj.cells #[.int .u64 y] 50)) (some ⟨w.heap.size + 1, 0, none⟩) 1 1 [y] ∧ Below w.heap.size w ((w.alloc (Obj.cells #[.int .u64 x] 50)).alloc (Obj.cells #[.int .u64 y] 50)) := by
  have h := one_row (w.alloc (Obj.cells #[.int .u64 x] 50)) y hy0 hy
  rw [World.size_alloc] at h
  exact ⟨(one_row w x hx0 hx).below ((Below.refl _ _).alloc (Nat.le_refl _) _), h, below2' w _ _⟩

set_option maxRecDepth 100000 in
set_option maxHeartbeats 1000000 in
theorem shown_r (w : World) : Calls Try.prog 9 #[] w fun e w' => e = .returned (.bool true) ∧ Below w.heap.size w w' := by
  have hB : (0 : Int) ≤ 1 ∧ (1 : Int) < BB ∧ (0 : Int) ≤ 6 ∧ (6 : Int) < BB ∧ (0 : Int) ≤ 3 ∧ (3 : Int) < BB ∧ (0 : Int) ≤ 2 ∧ (2 : Int) < BB := by unfold BB; omega
  obtain ⟨b1, b2, b3, b4, b5, b6, b7, b8⟩ := hB
  obtain ⟨x1, x2, x3⟩ := two_rows w 1 6 b1 b2 b3 b4
  obtain ⟨y1, y2, y3⟩ := two_rows ((w.alloc (Obj.cells #[.int .u64 1] 50)).alloc (Obj.cells #[.int .u64 6] 50)) 1 3 b1 b2 b5 b6
  rw [World.size_alloc, World.size_alloc] at y1 y2
  have ia := Is.small (n := 1) (d := 6) (by omega) b2 (by omega) b4 (by decide)
  have ib := Is.small (n := 1) (d := 3) (by omega) b2 (by omega) b6 (by decide)
  have ic := Is.small (n := 1) (d := 2) (by omega) b2 (by omega) b8 (by decide)
  have H : Hid (RatAt _ (some ⟨w.heap.size, 0, none⟩) 1 1 (some ⟨w.heap.size + 1, 0, none⟩) 1 1 ⟨false, [1], [6]⟩ ∧ RatAt _ (some ⟨w.heap.size + 1 + 1, 0, none⟩) 1 1 (some ⟨w.heap.size + 1 + 1 + 1, 0, none⟩) 1 1 ⟨false, [1], [3]⟩ ∧ Below w.heap.size w _) := ⟨⟨x1.below y3, x2.below y3⟩, ⟨y1, y2⟩, chain x3 y3⟩
  have HI : Hid (Is ⟨false, [1], [6]⟩ 1 6 ∧ Is ⟨false, [1], [3]⟩ 1 3 ∧ Is ⟨false, [1], [2]⟩ 1 2) := ⟨ia, ib, ic⟩
  have HB : Hid ((0 : Int) ≤ 1 ∧ (1 : Int) < BB ∧ (0 : Int) ≤ 2 ∧ (2 : Int) < BB) := ⟨b1, b2, b7, b8⟩
  clear b1 b2 b3 b4 b5 b6 b7 b8 x1 x2 x3 y1 y2 y3 ia ib ic
  go_enter Try.func9, Try.ntmps9
  go_wp2_with fail
  refine (radd_r false _ _ _ _ _ _ false _ _ _ _ _ _ ⟨false, [1], [6]⟩ ⟨false, [1], [3]⟩ _ H.out.1 H.out.2.1 rfl rfl).mono ?_
  rintro e w1 ⟨rneg, no, nn, nc, eo, en, ec, r, k, rfl, q1, q2, q3, q4⟩
  have hsm : ¬ (AddBig ⟨false, [1], [6]⟩ ⟨false, [1], [3]⟩ ∨ Big ≤ RatL.bot ⟨false, [1], [6]⟩ * RatL.bot ⟨false, [1], [3]⟩) := by
    have hbb := Big_BB
    have hBB : BB = 18446744073709551616 := rfl
    unfold AddBig addTop RatL.bot RatL.top sg
    simp [val]
    omega
  obtain ⟨hk, his⟩ := q3.fine ⟨HI.out.1.may, HI.out.2.1.may⟩ hsm
  have hr : r = ⟨false, [1], [2]⟩ := his.one HI.out.2.2 (by unfold addTop RatL.bot RatL.top sg; simp [val])
  subst hk
  have bx := RBox.new w1 rneg no nn nc eo en ec
  have hb0 : Below w1.heap.size w1 (w1.alloc (.cells #[.bool rneg, .slice no nn nc, .slice eo en ec] 28)) := (Below.refl _ _).alloc (Nat.le_refl _) _
  obtain ⟨z1, z2, z3⟩ := two_rows (w1.alloc (.cells #[.bool rneg, .slice no nn nc, .slice eo en ec] 28)) 1 2 HB.out.1 HB.out.2.1 HB.out.2.2.1 HB.out.2.2.2
  rw [World.size_alloc] at z1 z2
  have H1 : Hid (RatAt _ no nn nc eo en ec r ∧ RatAt _ (some ⟨w1.heap.size + 1, 0, none⟩) 1 1 (some ⟨w1.heap.size + 1 + 1, 0, none⟩) 1 1 ⟨false, [1], [2]⟩ ∧ Below w.heap.size w _ ∧ r.neg = rneg ∧ r = ⟨false, [1], [2]⟩) := ⟨(q2.below hb0).below z3, ⟨z1, z2⟩, chain (chain H.out.2.2 q4) (chain hb0 z3), q1, hr⟩
  clear q1 q2 q3 q4 hsm his hr bx hb0 z1 z2 z3
  go_wp2_with fail
  refine (rsame_r _ _ _ _ _ _ _ _ _ _ _ _ _ _ r ⟨false, [1], [2]⟩ _ H1.out.1 H1.out.2.1 H1.out.2.2.2.1 rfl true (yes_iff H1.out.2.2.2.2)).mono ?_
  rintro e w2 ⟨rfl, b2⟩
  have H2 : Hid (Below w.heap.size w w2) := chain H1.out.2.2.1 b2
  clear b2
  go_wp2
  go_ret
  exact ⟨rfl, H2.out⟩

set_option maxRecDepth 100000 in
set_option maxHeartbeats 1000000 in
theorem made_r (neg : Bool) (n d : Int) (w : World) (hn0 : 0 ≤ n) (hn1 : n ≤ 4294967295) (hd0 : 0 ≤ d) (hd1 : d ≤ 4294967295) :
    Calls Try.prog 18 #[.bool neg, .int .u32 n, .int .u32 d] w fun e w' => ∃ rneg no nn nc eo en ec r, e = .returned (.agg #[.bool rneg, .slice no nn nc, .slice eo en ec]) ∧ r.neg = rneg ∧ RatAt w' no nn nc eo en ec r ∧ Is r (sg neg n) (d + 1) ∧ Below w.heap.size w w' := by
  have bx := RBox.new w false none 0 0 none 0 0
  have hB0 : Below w.heap.size w (w.alloc (.cells #[.bool false, .slice none 0 0, .slice none 0 0] 28)) := (Below.refl _ _).alloc (Nat.le_refl _) _
  have hBn : n < BB := by unfold BB; omega
  have hBd : d + 1 < BB := by unfold BB; omega
  have o1 := one_row (w.alloc (.cells #[.bool false, .slice none 0 0, .slice none 0 0] 28)) n hn0 hBn
  rw [World.size_alloc] at o1
  have a1 : Below (w.alloc (.cells #[.bool false, .slice none 0 0, .slice none 0 0] 28)).heap.size (w.alloc (.cells #[.bool false, .slice none 0 0, .slice none 0 0] 28)) _ := (Below.refl _ _).alloc (Nat.le_refl _) (Obj.cells #[.int .u64 n] 50)
  have H : Hid (RowAt _ (some ⟨w.heap.size + 1, 0, none⟩) 1 1 [n] ∧ RBox ((w.alloc (.cells #[.bool false, .slice none 0 0, .slice none 0 0] 28)).alloc (Obj.cells #[.int .u64 n] 50)) w.heap.size false none 0 0 none 0 0 ∧ Below w.heap.size w ((w.alloc (.cells #[.bool false, .slice none 0 0, .slice none 0 0] 28)).alloc (Obj.cells #[.int .u64 n] 50)) ∧ (0 ≤ n ∧ n < BB) ∧ 0 < d + 1 ∧ d + 1 < BB) := ⟨o1, bx.below a1, chain hB0 a1, ⟨hn0, hBn⟩, by omega, hBd⟩
  clear bx hB0 hBn hBd o1 a1
  go_enter Try.func18, Try.ntmps18
  go_wp2_with fail
  refine (rtrim_any _ _ _ [n] _ H.out.1 (by omega)).mono ?_
  rintro e w1 ⟨po, pn, pc, p, rfl, p1, p2, p3, p4⟩
  rw [show val [n] = n by simp [val]] at p2
  have o2 := one_row w1 (d + 1) (by have := H.out.2.2.2.2.1; omega) H.out.2.2.2.2.2
  have a2 : Below w1.heap.size w1 (w1.alloc (Obj.cells #[.int .u64 (d + 1)] 50)) := (Below.refl _ _).alloc (Nat.le_refl _) _
  have P : Hid (RowAt (w1.alloc (Obj.cells #[.int .u64 (d + 1)] 50)) po pn pc p ∧ RowAt (w1.alloc (Obj.cells #[.int .u64 (d + 1)] 50)) (some ⟨w1.heap.size, 0, none⟩) 1 1 [d + 1] ∧ Num p n ∧ RBox (w1.alloc (Obj.cells #[.int .u64 (d + 1)] 50)) w.heap.size false none 0 0 none 0 0 ∧ Below w.heap.size w (w1.alloc (Obj.cells #[.int .u64 (d + 1)] 50))) := ⟨p1.below a2, o2, p2, (H.out.2.1.below p4).below a2, chain (chain H.out.2.2.1 p4) a2⟩
  clear p1 p2 p3 p4 o2 a2
  go_wp2_with fail
  refine (rmake_any neg _ _ _ _ _ _ p [d + 1] _ P.out.1 P.out.2.1).mono ?_
  rintro e w2 ⟨rneg, no, nn, nc, eo, en, ec, r, k, rfl, q1, q2, q3, q4⟩
  have hbb := Big_BB
  have nd := num1 H.out.2.2.2.2.1 H.out.2.2.2.2.2
  obtain ⟨_, his⟩ := q3.fine ⟨P.out.2.2.1.may.2 (by have := H.out.2.2.2.1.2; omega), nd.may.2 (by have := H.out.2.2.2.2.2; omega)⟩ (by rw [nd.val]; have := H.out.2.2.2.2.1; omega)
  rw [P.out.2.2.1.val, nd.val] at his
  have a3 : Below w2.heap.size w2 (w2.alloc (.cells #[.bool rneg, .slice no nn nc, .slice eo en ec] 28)) := (Below.refl _ _).alloc (Nat.le_refl _) _
  have bx2 := (P.out.2.2.2.1.below q4).below a3
  have r0 := bx2.c0
  have r1 := bx2.c1
  have r2 := bx2.c2
  have f0 := bx2.f 0
  have f1 := bx2.f 1
  have f2 := bx2.f 2
  have Q : Hid (RatAt (w2.alloc (.cells #[.bool rneg, .slice no nn nc, .slice eo en ec] 28)) no nn nc eo en ec r ∧ Is r (sg neg n) (d + 1) ∧ r.neg = rneg ∧ RBox (w2.alloc (.cells #[.bool rneg, .slice no nn nc, .slice eo en ec] 28)) w.heap.size false none 0 0 none 0 0 ∧ Below w.heap.size w (w2.alloc (.cells #[.bool rneg, .slice no nn nc, .slice eo en ec] 28))) := ⟨q2.below a3, his, q1, bx2, chain (chain P.out.2.2.2.2 q4) a3⟩
  have HR : Hid _ := Q.out.2.2.2.1.set rneg no nn nc eo en ec
  have HT : Hid _ := Q.out.1.setR Q.out.2.2.2.1 (.bool rneg) (.slice no nn nc) (.slice eo en ec)
  clear q1 q2 q3 q4 hbb nd his a3 bx2
  go_wp2_with fail
  exact bodyPost_ret (results_r1 rfl _ HR.out rfl) rfl ⟨rneg, no, nn, nc, eo, en, ec, r, rfl, Q.out.2.2.1, HT.out, Q.out.2.1, below_set Q.out.2.2.2.2 (Nat.le_refl _) _ _ _⟩

end Go.Proofs.Ytnkjfandknndkaa

/-! ratio.Cmp. -/
namespace Go.Proofs.Ytnkjfandknndkaa
open Go.RowKit

set_option maxHeartbeats 400000 in
theorem side_any (s : Int) (an : Bool) (pa : Nat) (w : World) (h0 : -1 ≤ s) (h1 : s ≤ 1) (hc : w.cell? ⟨pa, 0, none⟩ = some (.bool an)) :
    Calls Try.prog 47 #[.int .i64 s, .pointer (some ⟨pa, 0, none⟩)] w fun e w' => e = .returned (.int .i64 (sg an s)) ∧ Below w.heap.size w w' := by
  cases an with
  | true =>
    go_enter Try.func47, Try.ntmps47
    go_wp2
    go_ret
    exact ⟨by simp [sg], Below.refl _ _⟩
  | false =>
    go_enter Try.func47, Try.ntmps47
    go_wp2
    go_ret
    exact ⟨by simp [sg], Below.refl _ _⟩

theorem cmpI_neg (x y : Int) : cmpI (-x) (-y) = - cmpI x y := by
  unfold cmpI
  split <;> split <;> (try split) <;> (try split) <;> omega
theorem cmpI_bd (x y : Int) : -1 ≤ cmpI x y ∧ cmpI x y ≤ 1 := by
  unfold cmpI
  split
  · omega
  · split <;> omega
theorem cmpI_sg (n : Bool) (x y : Int) : cmpI (sg n x) (sg n y) = sg n (cmpI x y) := by
  unfold sg
  cases n
  · rfl
  · exact cmpI_neg x y
theorem cmpI_scale {x y c : Int} (hc : 0 < c) : cmpI (x * c) (y * c) = cmpI x y := by
  unfold cmpI
  rcases Int.lt_trichotomy x y with h | h | h
  · have := Int.mul_lt_mul_of_pos_right h hc
    rw [if_pos h, if_pos this]
  · subst h
    simp
  · have := Int.mul_lt_mul_of_pos_right h hc
    rw [if_neg (by omega), if_neg (by omega), if_neg (by omega), if_neg (by omega)]

/-- Which number is greater. -/
def cmpR (a b : RatL) : Int := cmpI (a.top * b.bot) (b.top * a.bot)
theorem cmpR_is {a b : RatL} {N D M E : Int} (h : Is a N D) (k : Is b M E) : cmpR a b = cmpI (N * E) (M * D) := by
  obtain ⟨c, c0, h1, h2⟩ := h.cross k
  rw [h1, h2, cmpI_scale c0]
  rfl

set_option maxRecDepth 100000 in
set_option maxHeartbeats 2000000 in
theorem cmp_r (an : Bool) (ao : Option Addr) (al ac : Nat) (aeo : Option Addr) (ael aec : Nat) (bn : Bool) (bo : Option Addr) (bl bc : Nat) (beo : Option Addr) (bel bec : Nat) (a b : RatL) (w : World)
    (ha : RatAt w ao al ac aeo ael aec a) (hb : RatAt w bo bl bc beo bel bec b) (hga : a.neg = an) (hgb : b.neg = bn) (hma : MayR a) (hmb : MayR b) (c : Int) (hc : c = cmpR a b) :
    Calls Try.prog 26 #[.agg #[.bool an, .slice ao al ac, .slice aeo ael aec], .agg #[.bool bn, .slice bo bl bc, .slice beo bel bec]] w fun e w' => e = .returned (.int .i64 c) ∧ Below w.heap.size w w' := by
  have hmf : ∀ (fn : Fn) (first cap : Array Value) (w : World), (Instr.makeFunc fn first cap).run Try.prog w = .ok (.func fn first cap) w := fun _ _ _ _ => rfl
  have hb2 := below2' w (.cells #[.bool an, .slice ao al ac, .slice aeo ael aec] 28) (.cells #[.bool bn, .slice bo bl bc, .slice beo bel bec] 28)
  have ba := (RBox.new w an ao al ac aeo ael aec).alloc (.cells #[.bool bn, .slice bo bl bc, .slice beo bel bec] 28)
  have bb := RBox.new (w.alloc (.cells #[.bool an, .slice ao al ac, .slice aeo ael aec] 28)) bn bo bl bc beo bel bec
  rw [World.size_alloc] at bb
  have l1 : al ≤ 8 := by have := hma.num.1; have := ha.num.len; omega
  have l2 : ael ≤ 8 := by have := hma.den.1; have := ha.den.len; omega
  have l3 : bl ≤ 8 := by have := hmb.num.1; have := hb.num.len; omega
  have l4 : bel ≤ 8 := by have := hmb.den.1; have := hb.den.len; omega
  have H : Hid (RatAt _ ao al ac aeo ael aec a ∧ RatAt _ bo bl bc beo bel bec b ∧ RBox _ w.heap.size an ao al ac aeo ael aec ∧ RBox _ (w.heap.size + 1) bn bo bl bc beo bel bec ∧ Below w.heap.size w _ ∧ a.neg = an ∧ b.neg = bn ∧ MayR a ∧ MayR b) := ⟨ha.below hb2, hb.below hb2, ba, bb, hb2, hga, hgb, hma, hmb⟩
  have pa := hma.bot_pos ha.lim
  have pb := hmb.bot_pos hb.lim
  have va := (val_bd ha.num.limbs).1
  have vb := (val_bd hb.num.limbs).1
  have HC : Hid (c = cmpI (sg an (val a.num) * b.bot) (sg bn (val b.num) * a.bot)) := by
    show c = _
    rw [hc]
    unfold cmpR RatL.top
    rw [hga, hgb]
  have HS : Hid (an ≠ bn → sg an 1 = c) := fun hne => by
    rw [HC.out]
    unfold cmpI sg
    cases an <;> cases bn
    · exact absurd rfl hne
    · have hs := hmb.sign hgb
      have h1 : 0 < val b.num * a.bot := Int.mul_pos (by omega) pa
      have h2 : 0 ≤ val a.num * b.bot := Int.mul_nonneg va (by omega)
      simp only [Int.neg_mul, Bool.false_eq_true, ↓reduceIte]
      rw [if_neg (by omega), if_neg (by omega)]
    · have hs := hma.sign hga
      have h1 : 0 < val a.num * b.bot := Int.mul_pos (by omega) pb
      have h2 : 0 ≤ val b.num * a.bot := Int.mul_nonneg vb (by omega)
      simp only [Int.neg_mul, Bool.false_eq_true, ↓reduceIte]
      rw [if_pos (by omega)]
    · exact absurd rfl hne
  clear ha hb hga hgb hb2 ba bb hma hmb hc pa pb va vb
  go_enter Try.func26, Try.ntmps26
  go_wp2_with fail
  refine (rmay_r _ _ _ _ _ _ _ a _ H.out.1 H.out.2.2.2.2.2.1 true (yes_iff H.out.2.2.2.2.2.2.2.1)).mono ?_
  rintro e w0 ⟨rfl, b0⟩
  have H0 : Hid (RatAt w0 bo bl bc beo bel bec b ∧ RBox w0 w.heap.size an ao al ac aeo ael aec ∧ RBox w0 (w.heap.size + 1) bn bo bl bc beo bel bec ∧ Below w.heap.size w w0 ∧ RatAt w0 ao al ac aeo ael aec a) := ⟨H.out.2.1.below b0, H.out.2.2.1.below b0, H.out.2.2.2.1.below b0, chain H.out.2.2.2.2.1 b0, H.out.1.below b0⟩
  have c0 := H0.out.2.2.1.c0
  have c1 := H0.out.2.2.1.c1
  have c2 := H0.out.2.2.1.c2
  clear b0
  go_wp2_with fail
  refine (rmay_r _ _ _ _ _ _ _ b _ H0.out.1 H.out.2.2.2.2.2.2.1 true (yes_iff H.out.2.2.2.2.2.2.2.2)).mono ?_
  rintro e w1 ⟨rfl, b1⟩
  have H1 : Hid (RatAt w1 ao al ac aeo ael aec a ∧ RatAt w1 bo bl bc beo bel bec b ∧ RBox w1 w.heap.size an ao al ac aeo ael aec ∧ RBox w1 (w.heap.size + 1) bn bo bl bc beo bel bec ∧ Below w.heap.size w w1) := ⟨H0.out.2.2.2.2.below b1, H0.out.1.below b1, H0.out.2.1.below b1, H0.out.2.2.1.below b1, chain H0.out.2.2.2.1 b1⟩
  have d0 := H1.out.2.2.1.c0
  have d1 := H1.out.2.2.1.c1
  have d2 := H1.out.2.2.1.c2
  have e0 := H1.out.2.2.2.1.c0
  have e1 := H1.out.2.2.2.1.c1
  have e2 := H1.out.2.2.2.1.c2
  have hA : w.heap.size < w1.heap.size := H1.out.2.2.1.lt
  have hB : w.heap.size + 1 < w1.heap.size := H1.out.2.2.2.1.lt
  clear b1 c0 c1 c2
  by_cases hne : an = bn
  · have hnb : (an == bn) = true := by rw [hne]; simp
    have HE : Hid (c = sg an (cmpI (val a.num * b.bot) (val b.num * a.bot))) := by
      have h := HC.out
      rw [← hne, ← sg_mul, ← sg_mul, cmpI_sg] at h
      exact h
    obtain ⟨cv, hcv⟩ : ∃ cv, cv = cmpI (val a.num * b.bot) (val b.num * a.bot) := ⟨_, rfl⟩
    have hcb := cmpI_bd (val a.num * b.bot) (val b.num * a.bot)
    rw [← hcv] at hcb
    have HCV : Hid (cv = cmpI (val a.num * b.bot) (val b.num * a.bot) ∧ -1 ≤ cv ∧ cv ≤ 1) := ⟨hcv, hcb⟩
    have HD : Hid (RatAt w1.drew ao al ac aeo ael aec a ∧ RatAt w1.drew bo bl bc beo bel bec b ∧ Below w1.heap.size w1 w1.drew) := ⟨H1.out.1.below (Below.refl _ _).drew, H1.out.2.1.below (Below.refl _ _).drew, (Below.refl _ _).drew⟩
    clear hne hcv hcb HS
    go_wp2_with fail
    go_region_held3 (fun w' => (w'.cell? ⟨w.heap.size, 1, none⟩ = some (.slice ao al ac) ∧ w'.cell? ⟨w.heap.size, 2, none⟩ = some (.slice aeo ael aec)) ∧ (w'.cell? ⟨w.heap.size + 1, 1, none⟩ = some (.slice bo bl bc) ∧ w'.cell? ⟨w.heap.size + 1, 2, none⟩ = some (.slice beo bel bec)))
      (first | go_keep | (refine ⟨⟨?_, ?_⟩, ?_, ?_⟩; (rw [bz.cell (p := ⟨w.heap.size, 1, none⟩) hA]; assumption); (rw [bz.cell (p := ⟨w.heap.size, 2, none⟩) hA]; assumption); (rw [bz.cell (p := ⟨w.heap.size + 1, 1, none⟩) hB]; assumption); (rw [bz.cell (p := ⟨w.heap.size + 1, 2, none⟩) hB]; assumption)))
      (first
        | (go_at_call_of 49 (Value.slice ao al ac); refine (mul_any _ _ _ _ _ _ a.num b.den _ HD.out.1.num HD.out.2.1.den ?_ ?_).mono ?_; omega; omega; rintro e w2 ⟨po, pn, pc, p, rfl, p1, p2, p3, p4⟩; have bz := HD.out.2.2.trans p4)
        | (go_at_call_of 49 (Value.slice bo bl bc); refine (mul_any _ _ _ _ _ _ b.num a.den _ ?_ ?_ ?_ ?_).mono ?_; exact HD.out.2.1.num.below p4; exact HD.out.1.den.below p4; omega; omega; rintro e w3 ⟨qo, qn, qc, q, rfl, q1, q2, q3, q4⟩; have bz := chain bz q4)
        | (go_at_call 48; refine (cmp_val _ _ _ _ _ _ p q _ (p1.below q4) q1 ?_ ?_ cv ?_).mono ?_; omega; omega; (rw [p2.val, q2.val]; exact HCV.out.1); rintro e w4 ⟨rfl, r4⟩; have bz := chain bz r4; have k0 := (H1.out.2.2.1.below bz).c0)
        | (go_at_call 47; refine (side_any cv an w.heap.size _ HCV.out.2.1 HCV.out.2.2 k0).mono ?_; rintro e w5 ⟨rfl, r5⟩; have bz := chain bz r5))
    have HZ : Hid (Below w.heap.size w w5) := chain H1.out.2.2.2.2 bz
    have HX : Hid (sg an cv = c) := by
      show sg an cv = c
      rw [HE.out, HCV.out.1]
    clear p1 p2 p3 p4 q1 q2 q3 q4 r4 r5 bz k0
    go_wp2
    go_ret
    exact ⟨ret_int HX.out, HZ.out⟩
  · have hnb : (an == bn) = false := by rw [beq_eq_false_iff_ne]; exact hne
    have hs := HS.out hne
    clear hne HS
    go_wp2_with fail
    refine (side_any 1 an w.heap.size _ (by omega) (by omega) d0).mono ?_
    rintro e w2 ⟨rfl, b2⟩
    have H2 : Hid (Below w.heap.size w w2) := chain H1.out.2.2.2.2 b2
    rw [hs]
    clear b2
    go_wp2
    go_ret
    exact ⟨rfl, H2.out⟩

end Go.Proofs.Ytnkjfandknndkaa

/-! Sums and products of small numbers are never too big; the order of sums and products; the struct of three small numbers in memory. -/
namespace Go.Proofs.Ytnkjfandknndkaa
open Go.RowKit

theorem add_fine {a b r : RatL} {k N D M E : Int} (h : AddOut a b r k) (ha : Is a N D) (hb : Is b M E) {L K : Int} (la : (N.natAbs : Int) ≤ L) (la' : D ≤ L) (lb : (M.natAbs : Int) ≤ K) (lb' : E ≤ K) (hL : 2 * (L * K) < Big) :
    k = 0 ∧ Is r (N * E + M * D) (D * E) := by
  have a0 := ha.may.bot_pos ha.lim
  have b0 := hb.may.bot_pos hb.lim
  have a1 := ha.le
  have b1 := hb.le
  have va := (val_bd ha.lim.1).1
  have vb := (val_bd hb.lim.1).1
  have L0 : 0 ≤ L := by omega
  have K0 : 0 ≤ K := by omega
  have m1 : val a.num * b.bot ≤ L * K := Int.mul_le_mul (by omega) (by omega) (by omega) L0
  have m2 : val b.num * a.bot ≤ K * L := Int.mul_le_mul (by omega) (by omega) (by omega) K0
  have m3 : a.bot * b.bot ≤ L * K := Int.mul_le_mul (by omega) (by omega) (by omega) L0
  rw [Int.mul_comm K L] at m2
  have p1 : 0 ≤ val a.num * b.bot := Int.mul_nonneg va (by omega)
  have p2 : 0 ≤ val b.num * a.bot := Int.mul_nonneg vb (by omega)
  have hN := addTop_eq a b
  have hs1 := sg_abs a.neg p1
  have hs2 := sg_abs b.neg p2
  have hp : 0 < a.bot * b.bot := Int.mul_pos a0 b0
  obtain ⟨h1, h2⟩ := h.fine ⟨ha.may, hb.may⟩ (by
    rintro ((h | h | h) | h)
    · omega
    · omega
    · rw [hN] at h; omega
    · omega)
  refine ⟨h1, h2.same (Int.mul_pos ha.pos hb.pos) ?_⟩
  obtain ⟨c, c0, hD, hN'⟩ := ha.parts
  obtain ⟨d, d0, hE, hM⟩ := hb.parts
  rw [hD, hN', hE, hM]
  unfold addTop
  grind

theorem mul_fine {a b r : RatL} {k N D M E : Int} (h : MulOut a b r k) (ha : Is a N D) (hb : Is b M E) {L K : Int} (la : (N.natAbs : Int) ≤ L) (la' : D ≤ L) (lb : (M.natAbs : Int) ≤ K) (lb' : E ≤ K) (hL : 2 * (L * K) < Big) :
    k = 0 ∧ Is r (N * M) (D * E) := by
  have a0 := ha.may.bot_pos ha.lim
  have b0 := hb.may.bot_pos hb.lim
  have a1 := ha.le
  have b1 := hb.le
  have va := (val_bd ha.lim.1).1
  have vb := (val_bd hb.lim.1).1
  have L0 : 0 ≤ L := by omega
  have m1 : val a.num * val b.num ≤ L * K := Int.mul_le_mul (by omega) (by omega) (by omega) L0
  have m3 : a.bot * b.bot ≤ L * K := Int.mul_le_mul (by omega) (by omega) (by omega) L0
  have p1 : 0 ≤ val a.num * val b.num := Int.mul_nonneg va vb
  have hp : 0 < a.bot * b.bot := Int.mul_pos a0 b0
  obtain ⟨h1, h2⟩ := h.fine ⟨ha.may, hb.may⟩ (by
    rintro (h | h) <;> omega)
  refine ⟨h1, h2.same (Int.mul_pos ha.pos hb.pos) ?_⟩
  obtain ⟨c, c0, hD, hN'⟩ := ha.parts
  obtain ⟨d, d0, hE, hM⟩ := hb.parts
  rw [hD, hN', hE, hM]
  grind

theorem cmpI_sub (x y : Int) : cmpI x y = cmpI (x - y) 0 := by
  unfold cmpI
  split <;> split <;> (try split) <;> (try split) <;> omega
theorem cmpI_pos {x : Int} (h : 0 < x) : cmpI x 0 = 1 := by unfold cmpI; rw [if_neg (by omega), if_neg (by omega)]
theorem cmpI_lt0 {x : Int} (h : x < 0) : cmpI x 0 = -1 := by unfold cmpI; rw [if_pos h]
theorem cmpI_00 : cmpI 0 0 = 0 := by decide
theorem cmpI_zero {x y : Int} : cmpI x y = 0 ↔ x = y := by
  unfold cmpI
  split
  · omega
  · split <;> omega
theorem cmpI_times (x y : Int) : cmpI (x * y) 0 = cmpI x 0 * cmpI y 0 := by
  rcases Int.lt_trichotomy x 0 with h | h | h
  · rcases Int.lt_trichotomy y 0 with k | k | k
    · rw [cmpI_pos (Int.mul_pos_of_neg_of_neg h k), cmpI_lt0 h, cmpI_lt0 k]; rfl
    · subst k; simp [cmpI_00]
    · rw [cmpI_lt0 (Int.mul_neg_of_neg_of_pos h k), cmpI_lt0 h, cmpI_pos k]; rfl
  · subst h; simp [cmpI_00]
  · rcases Int.lt_trichotomy y 0 with k | k | k
    · rw [cmpI_lt0 (Int.mul_neg_of_pos_of_neg h k), cmpI_pos h, cmpI_lt0 k]; rfl
    · subst k; simp [cmpI_00]
    · rw [cmpI_pos (Int.mul_pos h k), cmpI_pos h, cmpI_pos k]; rfl
theorem cmpI_diff {L R u v n m : Int} (h : L - R = (u - v) * (n * m)) (hm : 0 < m) : cmpI L R = cmpI u v * cmpI n 0 := by
  rw [cmpI_sub L R, h, cmpI_times, cmpI_times, cmpI_pos hm, Int.mul_one, ← cmpI_sub]
theorem cmpI_rev (x y : Int) : cmpI y x = - cmpI x y := by
  unfold cmpI
  split <;> split <;> (try split) <;> (try split) <;> omega
theorem wrap_small {v : Int} (h : -1 ≤ v) (k : v ≤ 1) : IntKind.i64.wrap v = v := by
  obtain rfl | rfl | rfl : v = -1 ∨ v = 0 ∨ v = 1 := by omega
  all_goals decide
theorem unit_times {k s : Int} (h : -1 ≤ k) (h' : k ≤ 1) (g : -1 ≤ s) (g' : s ≤ 1) : -1 ≤ k * s ∧ k * s ≤ 1 := by
  obtain rfl | rfl | rfl : k = -1 ∨ k = 0 ∨ k = 1 := by omega
  all_goals omega

/-- Three small numbers in memory. -/
def TBox (W : World) (B : Nat) (s0 s1 s2 : Bool) (n0 n1 n2 d0 d1 d2 : Int) : Prop := W.heap[B]? = some (.cells #[.bool s0, .bool s1, .bool s2, .int .u32 n0, .int .u32 n1, .int .u32 n2, .int .u32 d0, .int .u32 d1, .int .u32 d2] 41 (0, 0))
theorem TBox.lt {W : World} {B : Nat} {s0 s1 s2 : Bool} {n0 n1 n2 d0 d1 d2 : Int} (h : TBox W B s0 s1 s2 n0 n1 n2 d0 d1 d2) : B < W.heap.size := (Array.getElem?_eq_some_iff.1 h).1
theorem TBox.below {W W' : World} {B : Nat} {s0 s1 s2 : Bool} {n0 n1 n2 d0 d1 d2 : Int} (h : TBox W B s0 s1 s2 n0 n1 n2 d0 d1 d2) (hb : Below W.heap.size W W') : TBox W' B s0 s1 s2 n0 n1 n2 d0 d1 d2 := (hb.block B h.lt).trans h
theorem TBox.new (W : World) (s0 s1 s2 : Bool) (n0 n1 n2 d0 d1 d2 : Int) : TBox (W.alloc (.cells #[.bool s0, .bool s1, .bool s2, .int .u32 n0, .int .u32 n1, .int .u32 n2, .int .u32 d0, .int .u32 d1, .int .u32 d2] 41)) W.heap.size s0 s1 s2 n0 n1 n2 d0 d1 d2 := heap_alloc_new W _
theorem TBox.cells {W : World} {B : Nat} {s0 s1 s2 : Bool} {n0 n1 n2 d0 d1 d2 : Int} (h : TBox W B s0 s1 s2 n0 n1 n2 d0 d1 d2) :
    (W.cell? ⟨B, 0, none⟩ = some (.bool s0) ∧ W.cell? ⟨B, 1, none⟩ = some (.bool s1) ∧ W.cell? ⟨B, 2, none⟩ = some (.bool s2)) ∧
    (W.cell? ⟨B, 3, none⟩ = some (.int .u32 n0) ∧ W.cell? ⟨B, 4, none⟩ = some (.int .u32 n1) ∧ W.cell? ⟨B, 5, none⟩ = some (.int .u32 n2)) ∧
    (W.cell? ⟨B, 6, none⟩ = some (.int .u32 d0) ∧ W.cell? ⟨B, 7, none⟩ = some (.int .u32 d1) ∧ W.cell? ⟨B, 8, none⟩ = some (.int .u32 d2)) := by
  refine ⟨⟨?_, ?_, ?_⟩, ⟨?_, ?_, ?_⟩, ?_, ?_, ?_⟩ <;> simp [World.cell?, show W.heap[B]? = _ from h]
end Go.Proofs.Ytnkjfandknndkaa

/-! The reference's Same of layer 2, and May of layer 5. -/
namespace Go.Proofs.Ytnkjfandknndkaa
open Go.RowKit

theorem nsame_b (ao bo : Option Addr) (na ca nb cb : Nat) (xs ys : List Int) (w : World) (ha : RowAt w ao na ca xs) (hb : RowAt w bo nb cb ys) (b : Bool) (h : b = true ↔ xs = ys) :
    Calls Try.prog 36 #[.slice ao na ca, .slice bo nb cb] w fun e w' => e = .returned (.bool b) ∧ Below w.heap.size w w' := by
  have HC : Hid (Calls Try.prog 66 #[.slice ao na ca, .slice bo nb cb] w fun e w' => e = .returned (.bool b) ∧ Below w.heap.size w w') := by
    cases b with
    | true => exact same_yes ao bo na ca nb cb xs ys w ha hb (h.1 rfl)
    | false => exact same_no ao bo na ca nb cb xs ys w ha hb (fun e => by have := h.2 e; cases this)
  clear ha hb h
  go_enter Try.func36, Try.ntmps36
  go_wp2_with fail
  refine HC.out.mono ?_
  rintro e w1 ⟨rfl, b1⟩
  have H1 : Hid (Below w.heap.size w w1) := b1
  clear b1
  go_wp2
  go_ret
  exact ⟨rfl, H1.out⟩

theorem row_is1 (W : World) : RowAt (W.alloc (.cells #[.int .u64 1] 50)) (some ⟨W.heap.size, 0, none⟩) 1 1 [1] := by
  refine ⟨rfl, ?_, Nat.le_refl _, by unfold maxLen; omega, by simp, fun _ => ⟨W.heap.size, 0, rfl, by simp, fun j hj => ?_⟩⟩
  · intro x hx
    rw [List.mem_singleton] at hx
    subst hx
    exact ⟨by omega, by unfold BB; omega⟩
  · have : j = 0 := by simp at hj; omega
    subst this
    rw [cell_of_row _ W.heap.size 0 _ _ _ (heap_alloc_new W _)]
    rfl

set_option maxRecDepth 100000 in
set_option maxHeartbeats 4000000 in
theorem rrmay_r (neg : Bool) (no : Option Addr) (nn nc : Nat) (eo : Option Addr) (en ec : Nat) (r : RatL) (w : World) (h : RatAt w no nn nc eo en ec r) (hg : r.neg = neg) (b : Bool) (hb : b = true ↔ MayR r) :
    Calls Try.prog 63 #[.agg #[.bool neg, .slice no nn nc, .slice eo en ec]] w fun e w' => e = .returned (.bool b) ∧ Below w.heap.size w w' := by
  have hnn := nn_most h.num
  have hen := nn_most h.den
  have bx := RBox.new w neg no nn nc eo en ec
  have hB0 : Below w.heap.size w (w.alloc (.cells #[.bool neg, .slice no nn nc, .slice eo en ec] 28)) := (Below.refl _ _).alloc (Nat.le_refl _) _
  have H : Hid (RatAt (w.alloc (.cells #[.bool neg, .slice no nn nc, .slice eo en ec] 28)) no nn nc eo en ec r ∧ RBox (w.alloc (.cells #[.bool neg, .slice no nn nc, .slice eo en ec] 28)) w.heap.size neg no nn nc eo en ec ∧ Below w.heap.size w (w.alloc (.cells #[.bool neg, .slice no nn nc, .slice eo en ec] 28)) ∧ r.neg = neg ∧ (b = true ↔ MayR r)) := ⟨h.below hB0, bx, hB0, hg, hb⟩
  have HL : Hid (r.den.length = en ∧ r.num.length = nn ∧ LimR r) := ⟨h.den.len, h.num.len, h.lim⟩
  have c0 := bx.c0
  have c1 := bx.c1
  have c2 := bx.c2
  clear bx hB0 h hg hb
  by_cases hmn : May r.num
  · have HMN : Hid (May r.num) := hmn
    clear hmn
    by_cases hmd : May r.den
    · have HMD : Hid (May r.den) := hmd
      clear hmd
      by_cases he : en = 0
      · have hbf : b = false := by
          cases e : b with
          | false => rfl
          | true => exact absurd ((val_zero HL.out.2.2.2 (H.out.2.2.2.2.1 e).den HL.out.1).1 he) (H.out.2.2.2.2.1 e).pos
        subst hbf
        subst he
        go_enter Try.func63, Try.ntmps63
        go_wp2_with fail
        refine (rmay_val _ _ _ _ _ H.out.1.num true ⟨fun _ => HMN.out, fun _ => rfl⟩).mono ?_
        rintro e w1 ⟨rfl, rfl⟩
        go_wp2_with fail
        refine (rmay_val _ _ _ _ _ H.out.1.den true ⟨fun _ => HMD.out, fun _ => rfl⟩).mono ?_
        rintro e w1 ⟨rfl, rfl⟩
        go_wp2
        go_ret
        exact ⟨rfl, H.out.2.2.1⟩
      · have he1 : ¬ (en : Int) = 0 := by omega
        have he2 : ((en : Int) == 0) = false := by rw [beq_eq_false_iff_ne]; exact he1
        have HE : Hid (val r.den ≠ 0) := fun e => he ((val_zero HL.out.2.2.2 HMD.out HL.out.1).2 e)
        clear he
        go_enter Try.func63, Try.ntmps63
        go_wp2_with fail
        refine (rmay_val _ _ _ _ _ H.out.1.num true ⟨fun _ => HMN.out, fun _ => rfl⟩).mono ?_
        rintro e w1 ⟨rfl, rfl⟩
        go_wp2_with fail
        refine (rmay_val _ _ _ _ _ H.out.1.den true ⟨fun _ => HMD.out, fun _ => rfl⟩).mono ?_
        rintro e w1 ⟨rfl, rfl⟩
        go_wp2_with fail
        refine (rqgcd_any _ _ _ _ _ _ r.num r.den _ H.out.1.num H.out.1.den).mono ?_
        rintro e w1 ⟨go, gn, gc, g, k, rfl, g1, g2, g3⟩
        have bx1 := H.out.2.1.below g3
        have hB1 : Below w1.heap.size w1 (w1.alloc (.cells #[.int .u64 1] 50)) := (Below.refl _ _).alloc (Nat.le_refl _) _
        have hlt := gcdI_lt (val_bd HL.out.2.2.1).1 (val_bd HL.out.2.2.2).1 (HMN.out.lt HL.out.2.2.1) (HMD.out.lt HL.out.2.2.2)
        obtain ⟨hk0, hnum⟩ := g2.ok_num ⟨HMN.out, HMD.out⟩ (fun f => f) hlt
        have hone : g = [1] ↔ gcdI (val r.num) (val r.den) = 1 := ⟨fun e => by rw [← hnum.val, e]; simp [val], fun e => by rw [e] at hnum; exact hnum.one (num1 (by omega) (by unfold BB; omega))⟩
        obtain ⟨t, ht⟩ : ∃ t : Bool, t = true ↔ g = [1] := by
          by_cases e : g = [1]
          · exact ⟨true, fun _ => e, fun _ => rfl⟩
          · exact ⟨false, fun h => (by cases h), fun h => absurd h e⟩
        have H1 : Hid (RowAt (w1.alloc (.cells #[.int .u64 1] 50)) go gn gc g ∧ Below w.heap.size w (w1.alloc (.cells #[.int .u64 1] 50)) ∧ RBox (w1.alloc (.cells #[.int .u64 1] 50)) w.heap.size neg no nn nc eo en ec ∧ (t = true ↔ g = [1]) ∧ (t = true ↔ gcdI (val r.num) (val r.den) = 1)) := ⟨g1.below hB1, chain (chain H.out.2.2.1 g3) hB1, bx1.below hB1, ht, ht.trans hone⟩
        clear g1 g2 g3 bx1 hB1 hlt hk0 hnum hone ht c0 c1 c2
        go_wp2_with fail
        refine (nsame_b go _ gn gc 1 1 g [1] _ H1.out.1 (row_is1 w1) t H1.out.2.2.2.1).mono ?_
        rintro e w2 ⟨rfl, b2⟩
        have bx2 := H1.out.2.2.1.below b2
        have H2 : Hid (Below w.heap.size w w2) := chain H1.out.2.1 b2
        have c0 := bx2.c0
        have c1 := bx2.c1
        clear b2 bx2
        have HT : Hid (t = true ↔ gcdI (val r.num) (val r.den) = 1) := H1.out.2.2.2.2
        clear H1
        cases t with
        | false =>
          have hbf : b = false := by
            cases e : b with
            | false => rfl
            | true => have := HT.out.2 (H.out.2.2.2.2.1 e).low; cases this
          subst hbf
          go_wp2
          go_ret
          exact ⟨rfl, H2.out⟩
        | true =>
          have HO : Hid (gcdI (val r.num) (val r.den) = 1) := HT.out.1 rfl
          cases neg with
          | false =>
            have hbt : b = true := H.out.2.2.2.2.2 ⟨HMN.out, HMD.out, HE.out, HO.out, fun h => by rw [H.out.2.2.2.1] at h; cases h⟩
            subst hbt
            go_wp2
            go_ret
            exact ⟨rfl, H2.out⟩
          | true =>
            by_cases hz : nn = 0
            · have hbf : b = false := by
                cases e : b with
                | false => rfl
                | true => exact absurd ((val_zero HL.out.2.2.1 (H.out.2.2.2.2.1 e).num HL.out.2.1).1 hz) ((H.out.2.2.2.2.1 e).sign H.out.2.2.2.1)
              subst hbf
              subst hz
              go_wp2
              go_ret
              exact ⟨rfl, H2.out⟩
            · have hbt : b = true := H.out.2.2.2.2.2 ⟨HMN.out, HMD.out, HE.out, HO.out, fun _ => fun e => hz ((val_zero HL.out.2.2.1 HMN.out HL.out.2.1).2 e)⟩
              subst hbt
              have hz1 : ((nn : Int) == 0) = false := by rw [beq_eq_false_iff_ne]; omega
              clear hz
              go_wp2
              go_ret
              exact ⟨rfl, H2.out⟩
    · have hbf : b = false := by
        cases e : b with
        | false => rfl
        | true => exact absurd (H.out.2.2.2.2.1 e).den hmd
      subst hbf
      have HMD : Hid (¬ May r.den) := hmd
      clear hmd
      go_enter Try.func63, Try.ntmps63
      go_wp2_with fail
      refine (rmay_val _ _ _ _ _ H.out.1.num true ⟨fun _ => HMN.out, fun _ => rfl⟩).mono ?_
      rintro e w1 ⟨rfl, rfl⟩
      go_wp2_with fail
      refine (rmay_val _ _ _ _ _ H.out.1.den false ⟨(fun e => by cases e), fun e => absurd e HMD.out⟩).mono ?_
      rintro e w1 ⟨rfl, rfl⟩
      go_wp2
      go_ret
      exact ⟨rfl, H.out.2.2.1⟩
  · have hbf : b = false := by
      cases e : b with
      | false => rfl
      | true => exact absurd (H.out.2.2.2.2.1 e).num hmn
    subst hbf
    have HMN : Hid (¬ May r.num) := hmn
    clear hmn
    go_enter Try.func63, Try.ntmps63
    go_wp2_with fail
    refine (rmay_val _ _ _ _ _ H.out.1.num false ⟨(fun e => by cases e), fun e => absurd e HMN.out⟩).mono ?_
    rintro e w1 ⟨rfl, rfl⟩
    go_wp2
    go_ret
    exact ⟨rfl, H.out.2.2.1⟩
end Go.Proofs.Ytnkjfandknndkaa

/-! The reference's plus. -/
namespace Go.Proofs.Ytnkjfandknndkaa
open Go.RowKit

/-- A signed number's variable. -/
def SBox (W : World) (B : Nat) (g : Bool) (o : Option Addr) (n c : Nat) : Prop := W.heap[B]? = some (.cells #[.bool g, .slice o n c] 78 (0, 0))
theorem SBox.lt {W : World} {B : Nat} {g : Bool} {o : Option Addr} {n c : Nat} (h : SBox W B g o n c) : B < W.heap.size := (Array.getElem?_eq_some_iff.1 h).1
theorem SBox.c0 {W : World} {B : Nat} {g : Bool} {o : Option Addr} {n c : Nat} (h : SBox W B g o n c) : W.cell? ⟨B, 0, none⟩ = some (.bool g) := by simp [World.cell?, show W.heap[B]? = _ from h]
theorem SBox.c1 {W : World} {B : Nat} {g : Bool} {o : Option Addr} {n c : Nat} (h : SBox W B g o n c) : W.cell? ⟨B, 1, none⟩ = some (.slice o n c) := by simp [World.cell?, show W.heap[B]? = _ from h]
theorem SBox.f {W : World} {B : Nat} {g : Bool} {o : Option Addr} {n c : Nat} (h : SBox W B g o n c) (k : Nat) : W.frozen? ⟨B, k, none⟩ = false := by simp [World.frozen?, show W.heap[B]? = _ from h]
theorem SBox.new (W : World) (g : Bool) (o : Option Addr) (n c : Nat) : SBox (W.alloc (.cells #[.bool g, .slice o n c] 78)) W.heap.size g o n c := heap_alloc_new W _
theorem SBox.below {W W' : World} {B : Nat} {g : Bool} {o : Option Addr} {n c : Nat} (h : SBox W B g o n c) (hb : Below W.heap.size W W') : SBox W' B g o n c := (hb.block B h.lt).trans h
theorem SBox.set {W : World} {B : Nat} {g : Bool} {o : Option Addr} {n c : Nat} (h : SBox W B g o n c) (g' : Bool) (o' : Option Addr) (n' c' : Nat) :
    SBox ((W.setCell ⟨B, 0, none⟩ (.bool g')).setCell ⟨B, 1, none⟩ (.slice o' n' c')) B g' o' n' c' := set_cells (set_cells h 0 (.bool g')) 1 (.slice o' n' c')
theorem below_set2 {n₀ : Nat} {a W : World} (h : Below n₀ a W) {B : Nat} (hB : n₀ ≤ B) (u v : Value) : Below n₀ a ((W.setCell ⟨B, 0, none⟩ u).setCell ⟨B, 1, none⟩ v) := (h.setCell hB u).setCell hB v
theorem RowAt.setS {W : World} {B : Nat} {g : Bool} {o : Option Addr} {n c : Nat} {ao : Option Addr} {m cap : Nat} {xs : List Int} (h : RowAt W ao m cap xs) (hB : SBox W B g o n c) (u v : Value) : RowAt ((W.setCell ⟨B, 0, none⟩ u).setCell ⟨B, 1, none⟩ v) ao m cap xs := by
  refine ⟨h.len, h.limbs, h.fits, h.most, h.bare, fun hne => ?_⟩
  obtain ⟨b, off, rfl, hlt, hc⟩ := h.cells hne
  have hbB : b ≠ B := by
    rintro rfl
    have h0 := hc 0 (List.length_pos_iff.2 hne)
    unfold World.cell? at h0
    rw [show W.heap[(⟨b, off + 0, none⟩ : Addr).block]? = _ from hB] at h0
    simp only [Nat.add_zero] at h0
    match off with
    | 0 => simp at h0
    | 1 => simp at h0
    | k + 2 => simp at h0
  have e1 : ∀ (V : World) (k : Nat) (y : Value), (V.setCell ⟨B, k, none⟩ y).heap[b]? = V.heap[b]? := fun V k y => Below.heap_setCell V ⟨B, k, none⟩ y b hbB
  have hb := (e1 _ 1 v).trans (e1 W 0 u)
  have s1 : ∀ (V : World) (k : Nat) (y : Value), (V.setCell ⟨B, k, none⟩ y).heap.size = V.heap.size := fun V k y => by simp [World.setCell]
  exact ⟨b, off, rfl, by rw [s1, s1]; exact hlt, fun j hj => (World.cell?_of_block (a := ⟨b, off + j, none⟩) hb).trans (hc j hj)⟩
theorem results_s1 {fn : Func} {t : Tmp} (hf : fn.results = #[.cell t 78]) (tmps : Array Value) {w : World} {B : Nat} {g : Bool} {o : Option Addr} {n c : Nat} (h : SBox w B g o n c) (ht : tmps[t]?.getD undef = .pointer (some ⟨B, 0, none⟩)) :
    (results fn tmps).run Try.prog w = .ok (.agg #[.bool g, .slice o n c]) w := by
  have hl : (loadVar 78 ⟨B, 0, none⟩).run Try.prog w = .ok (.agg #[.bool g, .slice o n c]) w := run_loadVar_row w B 78 78 _ (0, 0) _ h Try.underlying78 rfl (by kernel_rfl)
  simp only [results, hf]
  simp [asAddr, ht, hl]

set_option maxRecDepth 100000 in
set_option maxHeartbeats 4000000 in
theorem plus_r (an : Bool) (ao : Option Addr) (na ca : Nat) (bn : Bool) (bo : Option Addr) (nb cb : Nat) (xs ys : List Int) (w : World) (ha : RowAt w ao na ca xs) (hb : RowAt w bo nb cb ys) (hna : na ≤ 1000) (hnb : nb ≤ 1000) :
    Calls Try.prog 65 #[.agg #[.bool an, .slice ao na ca], .agg #[.bool bn, .slice bo nb cb]] w fun e w' => ∃ rn ro m cap r, e = .returned (.agg #[.bool rn, .slice ro m cap]) ∧ RowAt w' ro m cap r ∧ Num r (val r) ∧ sg rn (val r) = sg an (val xs) + sg bn (val ys) ∧ Below w.heap.size w w' := by
  have bA := SBox.new w an ao na ca
  have bB := SBox.new (w.alloc (.cells #[.bool an, .slice ao na ca] 78)) bn bo nb cb
  have bC := SBox.new ((w.alloc (.cells #[.bool an, .slice ao na ca] 78)).alloc (.cells #[.bool bn, .slice bo nb cb] 78)) false none 0 0
  obtain ⟨W, hW⟩ : ∃ W, W = ((w.alloc (.cells #[.bool an, .slice ao na ca] 78)).alloc (.cells #[.bool bn, .slice bo nb cb] 78)).alloc (.cells #[.bool false, .slice none 0 0] 78) := ⟨_, rfl⟩
  have hBel : Below w.heap.size w W := by rw [hW]; exact (((Below.refl _ _).alloc (Nat.le_refl _) _).alloc (by simp) _).alloc (by simp; omega) _
  have bA2 : SBox W w.heap.size an ao na ca := by rw [hW]; exact (bA.below ((Below.refl _ _).alloc (Nat.le_refl _) _)).below ((Below.refl _ _).alloc (Nat.le_refl _) _)
  have bB2 : SBox W (w.heap.size + 1) bn bo nb cb := by rw [hW]; rw [World.size_alloc] at bB; exact bB.below ((Below.refl _ _).alloc (Nat.le_refl _) _)
  have bC2 : SBox W (w.heap.size + 2) false none 0 0 := by rw [hW]; rw [World.size_alloc, World.size_alloc] at bC; exact bC
  have HI : Hid (RowAt W ao na ca xs ∧ RowAt W bo nb cb ys ∧ SBox W w.heap.size an ao na ca ∧ SBox W (w.heap.size + 1) bn bo nb cb ∧ SBox W (w.heap.size + 2) false none 0 0 ∧ Below w.heap.size w W ∧ na ≤ 1000 ∧ nb ≤ 1000) := ⟨ha.below hBel, hb.below hBel, bA2, bB2, bC2, hBel, hna, hnb⟩
  have HW : Hid (W = ((w.alloc (.cells #[.bool an, .slice ao na ca] 78)).alloc (.cells #[.bool bn, .slice bo nb cb] 78)).alloc (.cells #[.bool false, .slice none 0 0] 78)) := hW
  have a0 := bA2.c0
  have a1 := bA2.c1
  have b0 := bB2.c0
  have b1 := bB2.c1
  have e0 := bC2.c0
  have e1 := bC2.c1
  have f0 := bC2.f 0
  have f1 := bC2.f 1
  rw [hW] at a0 a1 b0 b1 e0 e1 f0 f1
  clear bA bB bC bA2 bB2 bC2 hBel ha hb hna hnb hW
  by_cases hs : an = bn
  · subst hs
    have hq : (an == an) = true := by simp
    go_enter Try.func65, Try.ntmps65
    go_wp2_with fail
    rw [← HW.out]
    clear a0 a1 b0 b1 e0 e1 f0 f1
    have a0 := HI.out.2.2.1.c0
    have a1 := HI.out.2.2.1.c1
    have b0 := HI.out.2.2.2.1.c0
    have b1 := HI.out.2.2.2.1.c1
    have e0 := HI.out.2.2.2.2.1.c0
    have e1 := HI.out.2.2.2.2.1.c1
    have f0 := HI.out.2.2.2.2.1.f 0
    have f1 := HI.out.2.2.2.2.1.f 1
    have hd : Below W.heap.size W W.drew := (Below.refl _ _).drew
    go_region_with (go_at_call 59; refine (radd_any _ _ _ _ _ _ xs ys _ HI.out.1.drew HI.out.2.1.drew (Nat.le_trans HI.out.2.2.2.2.2.2.1 (by decide)) (Nat.le_trans HI.out.2.2.2.2.2.2.2 (by decide))).mono ?_; rintro e w1 ⟨ro, m, cap, r, rfl, q1, q2, q3⟩; have hd := chain hd q3; have xa := (HI.out.2.2.1.below hd).c0; have xc := HI.out.2.2.2.2.1.below hd; have x0 := xc.c0; have x1 := xc.c1; have y0 := xc.f 0; have y1 := xc.f 1)
    all_goals
      have HE : Hid (SBox w1 (w.heap.size + 2) false none 0 0 ∧ RowAt w1 ro m cap r ∧ Num r (val xs + val ys) ∧ Below w.heap.size w w1) := ⟨xc, q1, q2, chain HI.out.2.2.2.2.2.1 hd⟩
      clear xc q1 q2 q3 hd
      go_wp2_with fail
      refine bodyPost_ret (results_s1 rfl _ (HE.out.1.set an ro m cap) rfl) rfl ⟨an, ro, m, cap, r, rfl, HE.out.2.1.setS HE.out.1 _ _, ?_, ?_, below_set2 HE.out.2.2.2 (by omega) _ _⟩
      · rw [HE.out.2.2.1.val]; exact HE.out.2.2.1
      · rw [HE.out.2.2.1.val]; exact sg_add an _ _
  · have hq : (an == bn) = false := by simpa using hs
    go_enter Try.func65, Try.ntmps65
    go_wp2_with fail
    rw [← HW.out]
    clear a0 a1 b0 b1 e0 e1 f0 f1
    have a0 := HI.out.2.2.1.c0
    have a1 := HI.out.2.2.1.c1
    have b0 := HI.out.2.2.2.1.c0
    have b1 := HI.out.2.2.2.1.c1
    have e0 := HI.out.2.2.2.2.1.c0
    have e1 := HI.out.2.2.2.2.1.c1
    have f0 := HI.out.2.2.2.2.1.f 0
    have f1 := HI.out.2.2.2.2.1.f 1
    by_cases hle : val ys ≤ val xs
    · refine (rsub_ok _ _ _ _ _ _ xs ys _ HI.out.1 HI.out.2.1 (Nat.le_trans HI.out.2.2.2.2.2.2.1 (by decide)) (Nat.le_trans HI.out.2.2.2.2.2.2.2 (by decide)) hle).mono ?_
      rintro e w1 ⟨ro, m, cap, r, rfl, q1, q2, q3⟩
      have xa := (HI.out.2.2.1.below q3).c0
      have xc := HI.out.2.2.2.2.1.below q3
      have x0 := xc.c0
      have x1 := xc.c1
      have y0 := xc.f 0
      have y1 := xc.f 1
      have HE : Hid (SBox w1 (w.heap.size + 2) false none 0 0 ∧ RowAt w1 ro m cap r ∧ Num r (val xs - val ys) ∧ Below w.heap.size w w1) := ⟨xc, q1, q2, chain HI.out.2.2.2.2.2.1 q3⟩
      have HQ : Hid (an ≠ bn) := hs
      clear xc q1 q2 q3 hs
      go_wp2_with fail
      refine bodyPost_ret (results_s1 rfl _ (HE.out.1.set an ro m cap) rfl) rfl ⟨an, ro, m, cap, r, rfl, HE.out.2.1.setS HE.out.1 _ _, ?_, ?_, below_set2 HE.out.2.2.2 (by omega) _ _⟩
      · rw [HE.out.2.2.1.val]; exact HE.out.2.2.1
      · rw [HE.out.2.2.1.val]
        have := HQ.out
        unfold sg
        cases an <;> cases bn <;> simp_all <;> omega
    · have HL : Hid (val xs < val ys) := by
        have h9 : val xs < val ys := by omega
        exact h9
      have HQ : Hid (an ≠ bn) := hs
      clear hs hle
      refine (rsub_no _ _ _ _ _ _ xs ys _ HI.out.1 HI.out.2.1 (Nat.le_trans HI.out.2.2.2.2.2.2.1 (by decide)) (Nat.le_trans HI.out.2.2.2.2.2.2.2 (by decide)) HL.out).mono ?_
      rintro e w1 ⟨rfl, q3⟩
      have xa := HI.out.2.2.1.below q3
      have xb := HI.out.2.2.2.1.below q3
      have xc := HI.out.2.2.2.2.1.below q3
      have HE : Hid (RowAt w1 ao na ca xs ∧ RowAt w1 bo nb cb ys ∧ SBox w1 (w.heap.size + 1) bn bo nb cb ∧ SBox w1 (w.heap.size + 2) false none 0 0 ∧ Below w.heap.size w w1) := ⟨HI.out.1.below q3, HI.out.2.1.below q3, xb, xc, chain HI.out.2.2.2.2.2.1 q3⟩
      have x0 := xa.c0
      have x1 := xa.c1
      have z0 := xb.c0
      have z1 := xb.c1
      clear xa xb xc q3 a0 a1 b0 b1 e0 e1 f0 f1
      go_wp2_with fail
      refine (rsub_ok _ _ _ _ _ _ ys xs _ HE.out.2.1 HE.out.1 (Nat.le_trans HI.out.2.2.2.2.2.2.2 (by decide)) (Nat.le_trans HI.out.2.2.2.2.2.2.1 (by decide)) (Int.le_of_lt HL.out)).mono ?_
      rintro e w2 ⟨ro, m, cap, r, rfl, q1, q2, q3⟩
      have xb := (HE.out.2.2.1.below q3).c0
      have xc := HE.out.2.2.2.1.below q3
      have u0 := xc.c0
      have u1 := xc.c1
      have v0 := xc.f 0
      have v1 := xc.f 1
      have HF : Hid (SBox w2 (w.heap.size + 2) false none 0 0 ∧ RowAt w2 ro m cap r ∧ Num r (val ys - val xs) ∧ Below w.heap.size w w2) := ⟨xc, q1, q2, chain HE.out.2.2.2.2 q3⟩
      clear xc q1 q2 q3 x0 x1 z0 z1
      go_wp2_with fail
      refine bodyPost_ret (results_s1 rfl _ (HF.out.1.set bn ro m cap) rfl) rfl ⟨bn, ro, m, cap, r, rfl, HF.out.2.1.setS HF.out.1 _ _, ?_, ?_, below_set2 HF.out.2.2.2 (by omega) _ _⟩
      · rw [HF.out.2.2.1.val]; exact HF.out.2.2.1
      · rw [HF.out.2.2.1.val]
        have := HQ.out
        unfold sg
        cases an <;> cases bn <;> simp_all <;> omega
end Go.Proofs.Ytnkjfandknndkaa

/-! The reference's Add of layer 5. -/
namespace Go.Proofs.Ytnkjfandknndkaa
open Go.RowKit

theorem yes_iff2 {p : Prop} (h : p) : true = true ↔ p := ⟨fun _ => h, fun _ => rfl⟩
theorem no_iff2 {p : Prop} (h : ¬ p) : false = true ↔ p := ⟨(fun e => by cases e), fun e => absurd e h⟩

set_option maxRecDepth 100000 in
set_option maxHeartbeats 8000000 in
theorem radd_na (an : Bool) (ao : Option Addr) (al ac : Nat) (aeo : Option Addr) (ael aec : Nat) (bn : Bool) (bo : Option Addr) (bl bc : Nat) (beo : Option Addr) (bel bec : Nat) (a b : RatL) (w : World)
    (ha : RatAt w ao al ac aeo ael aec a) (hb : RatAt w bo bl bc beo bel bec b) (hga : a.neg = an) (hgb : b.neg = bn) (hma : ¬ MayR a) :
    Calls Try.prog 35 #[.agg #[.bool an, .slice ao al ac, .slice aeo ael aec], .agg #[.bool bn, .slice bo bl bc, .slice beo bel bec]] w fun e w' => ∃ rneg no nn nc eo en ec r k, e = .returned (.tuple #[.agg #[.bool rneg, .slice no nn nc, .slice eo en ec], .int .i64 k]) ∧ r.neg = rneg ∧ RatAt w' no nn nc eo en ec r ∧ AddOut a b r k ∧ Below w.heap.size w w' := by
  have hbx := Boxes.new w an ao al ac aeo ael aec bn bo bl bc beo bel bec
  have HB : Hid (Boxes w (((w.alloc (.cells #[.bool an, .slice ao al ac, .slice aeo ael aec] 28)).alloc (.cells #[.bool bn, .slice bo bl bc, .slice beo bel bec] 28)).alloc (.cells #[.bool false, .slice none 0 0, .slice none 0 0] 28)) an ao al ac aeo ael aec bn bo bl bc beo bel bec) := hbx
  have HA : Hid (RatAt w ao al ac aeo ael aec a ∧ RatAt w bo bl bc beo bel bec b ∧ a.neg = an ∧ b.neg = bn) := ⟨ha, hb, hga, hgb⟩
  have c0 := hbx.a.c0
  have c1 := hbx.a.c1
  have c2 := hbx.a.c2
  have HM : Hid (¬ MayR a) := hma
  clear hbx ha hb hga hgb hma
  go_enter Try.func35, Try.ntmps35
  go_wp2_with fail
  refine (rrmay_r _ _ _ _ _ _ _ a _ (HA.out.1.below HB.out.bel) HA.out.2.2.1 false (no_iff2 HM.out)).mono ?_
  rintro e w1 ⟨rfl, q1⟩
  have B1 : Hid (Boxes w w1 an ao al ac aeo ael aec bn bo bl bc beo bel bec) := HB.out.below q1
  clear q1 c0 c1 c2
  have r0 := B1.out.r.c0
  have r1 := B1.out.r.c1
  have r2 := B1.out.r.c2
  have f0 := B1.out.r.f 0
  have f1 := B1.out.r.f 1
  have f2 := B1.out.r.f 2
  go_wp2_with fail
  refine bodyPost_ret (results_r2 rfl _ (B1.out.r.set false none 0 0 none 0 0) rfl _ rfl) rfl ⟨false, none, 0, 0, none, 0, 0, rat0, 1, rfl, rfl, RatAt.zero _, ⟨fun _ => ⟨rfl, rfl⟩, fun h => absurd h.1 HM.out, fun h => absurd h.1 HM.out⟩, below_set B1.out.bel (by omega) _ _ _⟩

set_option maxRecDepth 100000 in
set_option maxHeartbeats 8000000 in
theorem radd_nb (an : Bool) (ao : Option Addr) (al ac : Nat) (aeo : Option Addr) (ael aec : Nat) (bn : Bool) (bo : Option Addr) (bl bc : Nat) (beo : Option Addr) (bel bec : Nat) (a b : RatL) (w : World)
    (ha : RatAt w ao al ac aeo ael aec a) (hb : RatAt w bo bl bc beo bel bec b) (hga : a.neg = an) (hgb : b.neg = bn) (hma : MayR a) (hmb : ¬ MayR b) :
    Calls Try.prog 35 #[.agg #[.bool an, .slice ao al ac, .slice aeo ael aec], .agg #[.bool bn, .slice bo bl bc, .slice beo bel bec]] w fun e w' => ∃ rneg no nn nc eo en ec r k, e = .returned (.tuple #[.agg #[.bool rneg, .slice no nn nc, .slice eo en ec], .int .i64 k]) ∧ r.neg = rneg ∧ RatAt w' no nn nc eo en ec r ∧ AddOut a b r k ∧ Below w.heap.size w w' := by
  have hbx := Boxes.new w an ao al ac aeo ael aec bn bo bl bc beo bel bec
  have HB : Hid (Boxes w (((w.alloc (.cells #[.bool an, .slice ao al ac, .slice aeo ael aec] 28)).alloc (.cells #[.bool bn, .slice bo bl bc, .slice beo bel bec] 28)).alloc (.cells #[.bool false, .slice none 0 0, .slice none 0 0] 28)) an ao al ac aeo ael aec bn bo bl bc beo bel bec) := hbx
  have HA : Hid (RatAt w ao al ac aeo ael aec a ∧ RatAt w bo bl bc beo bel bec b ∧ a.neg = an ∧ b.neg = bn) := ⟨ha, hb, hga, hgb⟩
  have c0 := hbx.a.c0
  have c1 := hbx.a.c1
  have c2 := hbx.a.c2
  have HM : Hid (MayR a ∧ ¬ MayR b) := ⟨hma, hmb⟩
  clear hbx ha hb hga hgb hma hmb
  go_enter Try.func35, Try.ntmps35
  go_wp2_with fail
  refine (rrmay_r _ _ _ _ _ _ _ a _ (HA.out.1.below HB.out.bel) HA.out.2.2.1 true (yes_iff2 HM.out.1)).mono ?_
  rintro e w1 ⟨rfl, q1⟩
  have B1 : Hid (Boxes w w1 an ao al ac aeo ael aec bn bo bl bc beo bel bec) := HB.out.below q1
  clear q1 c0 c1 c2
  have d0 := B1.out.b.c0
  have d1 := B1.out.b.c1
  have d2 := B1.out.b.c2
  go_wp2_with fail
  refine (rrmay_r _ _ _ _ _ _ _ b _ (HA.out.2.1.below B1.out.bel) HA.out.2.2.2 false (no_iff2 HM.out.2)).mono ?_
  rintro e w2 ⟨rfl, q2⟩
  have B2 : Hid (Boxes w w2 an ao al ac aeo ael aec bn bo bl bc beo bel bec) := B1.out.below q2
  clear q2 d0 d1 d2
  have r0 := B2.out.r.c0
  have r1 := B2.out.r.c1
  have r2 := B2.out.r.c2
  have f0 := B2.out.r.f 0
  have f1 := B2.out.r.f 1
  have f2 := B2.out.r.f 2
  go_wp2_with fail
  refine bodyPost_ret (results_r2 rfl _ (B2.out.r.set false none 0 0 none 0 0) rfl _ rfl) rfl ⟨false, none, 0, 0, none, 0, 0, rat0, 1, rfl, rfl, RatAt.zero _, ⟨fun _ => ⟨rfl, rfl⟩, fun h => absurd h.2 HM.out.2, fun h => absurd h.2 HM.out.2⟩, below_set B2.out.bel (by omega) _ _ _⟩

set_option maxRecDepth 100000 in
set_option maxHeartbeats 8000000 in
theorem radd_ok (an : Bool) (ao : Option Addr) (al ac : Nat) (aeo : Option Addr) (ael aec : Nat) (bn : Bool) (bo : Option Addr) (bl bc : Nat) (beo : Option Addr) (bel bec : Nat) (a b : RatL) (w : World)
    (ha : RatAt w ao al ac aeo ael aec a) (hb : RatAt w bo bl bc beo bel bec b) (hga : a.neg = an) (hgb : b.neg = bn) (hma : MayR a) (hmb : MayR b) :
    Calls Try.prog 35 #[.agg #[.bool an, .slice ao al ac, .slice aeo ael aec], .agg #[.bool bn, .slice bo bl bc, .slice beo bel bec]] w fun e w' => ∃ rneg no nn nc eo en ec r k, e = .returned (.tuple #[.agg #[.bool rneg, .slice no nn nc, .slice eo en ec], .int .i64 k]) ∧ r.neg = rneg ∧ RatAt w' no nn nc eo en ec r ∧ AddOut a b r k ∧ Below w.heap.size w w' := by
  have hbx := Boxes.new w an ao al ac aeo ael aec bn bo bl bc beo bel bec
  have HB : Hid (Boxes w (((w.alloc (.cells #[.bool an, .slice ao al ac, .slice aeo ael aec] 28)).alloc (.cells #[.bool bn, .slice bo bl bc, .slice beo bel bec] 28)).alloc (.cells #[.bool false, .slice none 0 0, .slice none 0 0] 28)) an ao al ac aeo ael aec bn bo bl bc beo bel bec) := hbx
  have HA : Hid (RatAt w ao al ac aeo ael aec a ∧ RatAt w bo bl bc beo bel bec b ∧ a.neg = an ∧ b.neg = bn) := ⟨ha, hb, hga, hgb⟩
  have c0 := hbx.a.c0
  have c1 := hbx.a.c1
  have c2 := hbx.a.c2
  have HM : Hid (MayR a ∧ MayR b) := ⟨hma, hmb⟩
  clear hbx ha hb hga hgb hma hmb
  go_enter Try.func35, Try.ntmps35
  go_wp2_with fail
  refine (rrmay_r _ _ _ _ _ _ _ a _ (HA.out.1.below HB.out.bel) HA.out.2.2.1 true (yes_iff2 HM.out.1)).mono ?_
  rintro e w1 ⟨rfl, q1⟩
  have B1 : Hid (Boxes w w1 an ao al ac aeo ael aec bn bo bl bc beo bel bec) := HB.out.below q1
  clear q1 c0 c1 c2
  have d0 := B1.out.b.c0
  have d1 := B1.out.b.c1
  have d2 := B1.out.b.c2
  go_wp2_with fail
  refine (rrmay_r _ _ _ _ _ _ _ b _ (HA.out.2.1.below B1.out.bel) HA.out.2.2.2 true (yes_iff2 HM.out.2)).mono ?_
  rintro e w2 ⟨rfl, q2⟩
  have B2 : Hid (Boxes w w2 an ao al ac aeo ael aec bn bo bl bc beo bel bec) := B1.out.below q2
  clear q2 d0 d1 d2
  have c0 := B2.out.a.c0
  have c1 := B2.out.a.c1
  have c2 := B2.out.a.c2
  have d0 := B2.out.b.c0
  have d1 := B2.out.b.c1
  have d2 := B2.out.b.c2
  go_wp2_with fail
  refine (rnmul_any _ _ _ _ _ _ a.num b.den _ (HA.out.1.below B2.out.bel).num (HA.out.2.1.below B2.out.bel).den).mono ?_
  rintro e w3 ⟨xo, xn, xc, xs, k1, rfl, x1, x2, q3⟩
  have B3 : Hid (Boxes w w3 an ao al ac aeo ael aec bn bo bl bc beo bel bec) := B2.out.below q3
  have H3 : Hid (RowAt w3 xo xn xc xs ∧ Out (May a.num ∧ May b.den) False (val a.num * val b.den) xs k1 ∧ xn ≤ 8) := ⟨x1, x2, by rw [← x1.len]; exact x2.may.1⟩
  clear q3 x1 x2 c0 c1 c2 d0 d1 d2
  have c0 := B3.out.a.c0
  have c1 := B3.out.a.c1
  have c2 := B3.out.a.c2
  have d0 := B3.out.b.c0
  have d1 := B3.out.b.c1
  have d2 := B3.out.b.c2
  go_wp2_with fail
  refine (rnmul_any _ _ _ _ _ _ b.num a.den _ (HA.out.2.1.below B3.out.bel).num (HA.out.1.below B3.out.bel).den).mono ?_
  rintro e w4 ⟨yo, yn, yc, ys, k2, rfl, x1, x2, q4⟩
  have B4 : Hid (Boxes w w4 an ao al ac aeo ael aec bn bo bl bc beo bel bec) := B3.out.below q4
  have H4 : Hid (RowAt w4 xo xn xc xs ∧ RowAt w4 yo yn yc ys ∧ Out (May b.num ∧ May a.den) False (val b.num * val a.den) ys k2 ∧ yn ≤ 8) := ⟨H3.out.1.below q4, x1, x2, by rw [← x1.len]; exact x2.may.1⟩
  clear q4 x1 x2 c0 c1 c2 d0 d1 d2
  have c0 := B4.out.a.c0
  have c1 := B4.out.a.c1
  have c2 := B4.out.a.c2
  have d0 := B4.out.b.c0
  have d1 := B4.out.b.c1
  have d2 := B4.out.b.c2
  go_wp2_with fail
  refine (rnmul_any _ _ _ _ _ _ a.den b.den _ (HA.out.1.below B4.out.bel).den (HA.out.2.1.below B4.out.bel).den).mono ?_
  rintro e w5 ⟨zo, zn, zc, zs, k3, rfl, x1, x2, q5⟩
  have B5 : Hid (Boxes w w5 an ao al ac aeo ael aec bn bo bl bc beo bel bec) := B4.out.below q5
  have H5 : Hid (RowAt w5 xo xn xc xs ∧ RowAt w5 yo yn yc ys ∧ RowAt w5 zo zn zc zs ∧ Out (May a.den ∧ May b.den) False (val a.den * val b.den) zs k3) := ⟨H4.out.1.below q5, H4.out.2.1.below q5, x1, x2⟩
  clear q5 x1 x2 c0 c1 c2 d0 d1 d2
  have c0 := B5.out.a.c0
  have c1 := B5.out.a.c1
  have c2 := B5.out.a.c2
  have d0 := B5.out.b.c0
  have d1 := B5.out.b.c1
  have d2 := B5.out.b.c2
  go_wp2_with fail
  refine (plus_r an _ _ _ bn _ _ _ xs ys _ H5.out.1 H5.out.2.1 (Nat.le_trans H3.out.2.2 (by decide)) (Nat.le_trans H4.out.2.2.2 (by decide))).mono ?_
  rintro e w6 ⟨rn, ro, m, cap, r, rfl, x1, x2, x3, q6⟩
  have sb := SBox.new w6 rn ro m cap
  have hb7 : Below w6.heap.size w6 (w6.alloc (.cells #[.bool rn, .slice ro m cap] 78)) := (Below.refl _ _).alloc (Nat.le_refl _) _
  have B7 : Hid (Boxes w (w6.alloc (.cells #[.bool rn, .slice ro m cap] 78)) an ao al ac aeo ael aec bn bo bl bc beo bel bec) := (B5.out.below q6).below hb7
  have H7 : Hid (RowAt (w6.alloc (.cells #[.bool rn, .slice ro m cap] 78)) ro m cap r ∧ RowAt (w6.alloc (.cells #[.bool rn, .slice ro m cap] 78)) zo zn zc zs ∧ Num r (val r) ∧ sg rn (val r) = sg an (val xs) + sg bn (val ys) ∧ r.length = m ∧ 0 ≤ val r) := ⟨x1.below hb7, (H5.out.2.2.1.below q6).below hb7, x2, x3, x1.len, (val_bd x1.limbs).1⟩
  have s0 := sb.c0
  have s1 := sb.c1
  have hmm := nn_most x1
  clear q6 hb7 x1 x2 x3 c0 c1 c2 d0 d1 d2 sb
  have r0 := B7.out.r.c0
  have r1 := B7.out.r.c1
  have r2 := B7.out.r.c2
  have f0 := B7.out.r.f 0
  have f1 := B7.out.r.f 1
  have f2 := B7.out.r.f 2
  have HOK : Hid ((May a.num ∧ May b.den) ∧ (May b.num ∧ May a.den) ∧ (May a.den ∧ May b.den)) := ⟨⟨HM.out.1.num, HM.out.2.den⟩, ⟨HM.out.2.num, HM.out.1.den⟩, ⟨HM.out.1.den, HM.out.2.den⟩⟩
  rcases Int.lt_or_le (val a.num * val b.den) Big with g1 | g1
  · rcases Int.lt_or_le (val b.num * val a.den) Big with g2 | g2
    · rcases Int.lt_or_le (val a.den * val b.den) Big with g3 | g3
      · obtain ⟨rfl, n1⟩ := H3.out.2.1.ok_num HOK.out.1 (fun f => f) g1
        obtain ⟨rfl, n2⟩ := H4.out.2.2.1.ok_num HOK.out.2.1 (fun f => f) g2
        obtain ⟨rfl, n3⟩ := H5.out.2.2.2.ok_num HOK.out.2.2 (fun f => f) g3
        have HN : Hid (addTop a b = sg rn (val r) ∧ Num zs (val a.den * val b.den) ∧ val a.den * val b.den < Big ∧ val zs = val a.den * val b.den ∧ val a.num * val b.den < Big ∧ val b.num * val a.den < Big) := by
          refine ⟨?_, n3, g3, n3.val, g1, g2⟩
          rw [addTop_eq, H7.out.2.2.2.1, n1.val, n2.val, HA.out.2.2.1, HA.out.2.2.2]
          rfl
        clear g1 g2 g3 n1 n2 n3
        by_cases hm : 8 < m
        · have hm2 : (8 : Int) < (m : Int) := by omega
          have HT : Hid (AddBig a b ∨ Big ≤ a.bot * b.bot) := by
            refine .inl (.inr (.inr ?_))
            rw [HN.out.1, sg_abs rn H7.out.2.2.2.2.2]
            rcases Int.lt_or_le (val r) Big with g | g
            · have := H7.out.2.2.1.le8.2 g
              have := H7.out.2.2.2.2.1
              omega
            · exact g
          clear hm
          go_wp2_with fail
          refine bodyPost_ret (results_r2 rfl _ (B7.out.r.set false none 0 0 none 0 0) rfl _ rfl) rfl ⟨false, none, 0, 0, none, 0, 0, rat0, 21, rfl, rfl, RatAt.zero _, ⟨fun h => absurd HM.out h, fun _ _ => ⟨rfl, rfl⟩, fun _ h => absurd (HT.out) h⟩, below_set B7.out.bel (by omega) _ _ _⟩
        · have hm2 : ¬ (8 : Int) < (m : Int) := by omega
          have HS : Hid (val r < Big ∧ May r ∧ May zs) := ⟨H7.out.2.2.1.le8.1 (by have := H7.out.2.2.2.2.1; omega), H7.out.2.2.1.may.2 (H7.out.2.2.1.le8.1 (by have := H7.out.2.2.2.2.1; omega)), HN.out.2.1.may.2 HN.out.2.2.1⟩
          clear hm
          go_wp2_with fail
          refine (rmake_any rn _ _ _ _ _ _ r zs _ H7.out.1 H7.out.2.1).mono ?_
          rintro e w8 ⟨vg, vo, vn, vc, veo, ven, vec, v, k, rfl, y1, y2, y3, q8⟩
          have B8 : Hid (Boxes w w8 an ao al ac aeo ael aec bn bo bl bc beo bel bec) := B7.out.below q8
          have hbp := Int.mul_pos (HM.out.1.bot_pos HA.out.1.lim) (HM.out.2.bot_pos HA.out.2.1.lim)
          have hfine := y3.fine ⟨HS.out.2.1, HS.out.2.2⟩ (by
            rw [HN.out.2.2.2.1]
            have h9 : 0 < val a.den * val b.den := hbp
            omega)
          have HV : Hid (v.neg = vg ∧ RatAt w8 vo vn vc veo ven vec v ∧ k = 0 ∧ Is v (addTop a b) (a.bot * b.bot)) := by
            refine ⟨y1, y2, hfine.1, ?_⟩
            have h9 := hfine.2
            rw [HN.out.2.2.2.1, ← HN.out.1] at h9
            exact h9
          have HNB : Hid (¬ (AddBig a b ∨ Big ≤ a.bot * b.bot)) := by
            rintro ((h | h | h) | h)
            · exact absurd HN.out.2.2.2.2.1 (Int.not_lt.2 h)
            · exact absurd HN.out.2.2.2.2.2 (Int.not_lt.2 h)
            · rw [HN.out.1, sg_abs rn H7.out.2.2.2.2.2] at h
              exact absurd HS.out.1 (Int.not_lt.2 h)
            · exact absurd HN.out.2.2.1 (Int.not_lt.2 h)
          clear y1 y2 y3 q8 hbp hfine s0 s1 r0 r1 r2 f0 f1 f2
          have r0 := B8.out.r.c0
          have r1 := B8.out.r.c1
          have r2 := B8.out.r.c2
          have f0 := B8.out.r.f 0
          have f1 := B8.out.r.f 1
          have f2 := B8.out.r.f 2
          go_wp2_with fail
          refine bodyPost_ret (results_r2 rfl _ (B8.out.r.set vg vo vn vc veo ven vec) rfl _ rfl) rfl ⟨vg, vo, vn, vc, veo, ven, vec, v, k, rfl, HV.out.1, HV.out.2.1.setR B8.out.r _ _ _, ⟨fun h => absurd HM.out h, fun _ h => absurd h HNB.out, fun _ _ => HV.out.2.2⟩, below_set B8.out.bel (by omega) _ _ _⟩
      · obtain ⟨rfl, _⟩ := H3.out.2.1.ok_num HOK.out.1 (fun f => f) g1
        obtain ⟨rfl, _⟩ := H4.out.2.2.1.ok_num HOK.out.2.1 (fun f => f) g2
        obtain ⟨rfl, _⟩ := H5.out.2.2.2.is_big HOK.out.2.2 (fun f => f) g3
        have HT : Hid (AddBig a b ∨ Big ≤ a.bot * b.bot) := .inr g3
        clear g1 g2 g3
        go_wp2_with fail
        refine bodyPost_ret (results_r2 rfl _ (B7.out.r.set false none 0 0 none 0 0) rfl _ rfl) rfl ⟨false, none, 0, 0, none, 0, 0, rat0, 21, rfl, rfl, RatAt.zero _, ⟨fun h => absurd HM.out h, fun _ _ => ⟨rfl, rfl⟩, fun _ h => absurd (HT.out) h⟩, below_set B7.out.bel (by omega) _ _ _⟩
    · obtain ⟨rfl, _⟩ := H3.out.2.1.ok_num HOK.out.1 (fun f => f) g1
      obtain ⟨rfl, _⟩ := H4.out.2.2.1.is_big HOK.out.2.1 (fun f => f) g2
      have HT : Hid (AddBig a b ∨ Big ≤ a.bot * b.bot) := .inl (.inr (.inl g2))
      clear g1 g2
      go_wp2_with fail
      refine bodyPost_ret (results_r2 rfl _ (B7.out.r.set false none 0 0 none 0 0) rfl _ rfl) rfl ⟨false, none, 0, 0, none, 0, 0, rat0, 21, rfl, rfl, RatAt.zero _, ⟨fun h => absurd HM.out h, fun _ _ => ⟨rfl, rfl⟩, fun _ h => absurd (HT.out) h⟩, below_set B7.out.bel (by omega) _ _ _⟩
  · obtain ⟨rfl, _⟩ := H3.out.2.1.is_big HOK.out.1 (fun f => f) g1
    have HT : Hid (AddBig a b ∨ Big ≤ a.bot * b.bot) := .inl (.inl g1)
    clear g1
    go_wp2_with fail
    refine bodyPost_ret (results_r2 rfl _ (B7.out.r.set false none 0 0 none 0 0) rfl _ rfl) rfl ⟨false, none, 0, 0, none, 0, 0, rat0, 21, rfl, rfl, RatAt.zero _, ⟨fun h => absurd HM.out h, fun _ _ => ⟨rfl, rfl⟩, fun _ h => absurd (HT.out) h⟩, below_set B7.out.bel (by omega) _ _ _⟩

theorem rradd_r (an : Bool) (ao : Option Addr) (al ac : Nat) (aeo : Option Addr) (ael aec : Nat) (bn : Bool) (bo : Option Addr) (bl bc : Nat) (beo : Option Addr) (bel bec : Nat) (a b : RatL) (w : World)
    (ha : RatAt w ao al ac aeo ael aec a) (hb : RatAt w bo bl bc beo bel bec b) (hga : a.neg = an) (hgb : b.neg = bn) :
    Calls Try.prog 35 #[.agg #[.bool an, .slice ao al ac, .slice aeo ael aec], .agg #[.bool bn, .slice bo bl bc, .slice beo bel bec]] w fun e w' => ∃ rneg no nn nc eo en ec r k, e = .returned (.tuple #[.agg #[.bool rneg, .slice no nn nc, .slice eo en ec], .int .i64 k]) ∧ r.neg = rneg ∧ RatAt w' no nn nc eo en ec r ∧ AddOut a b r k ∧ Below w.heap.size w w' := by
  by_cases hma : MayR a
  · by_cases hmb : MayR b
    · exact radd_ok an ao al ac aeo ael aec bn bo bl bc beo bel bec a b w ha hb hga hgb hma hmb
    · exact radd_nb an ao al ac aeo ael aec bn bo bl bc beo bel bec a b w ha hb hga hgb hma hmb
  · exact radd_na an ao al ac aeo ael aec bn bo bl bc beo bel bec a b w ha hb hga hgb hma
end Go.Proofs.Ytnkjfandknndkaa

/-! The reference's Of. -/
namespace Go.Proofs.Ytnkjfandknndkaa
open Go.RowKit

set_option maxHeartbeats 1000000 in
theorem rof_r (n : Int) (w : World) (h0 : -9223372036854775808 ≤ n) (h1 : n ≤ 9223372036854775807) :
    Calls Try.prog 17 #[.int .i64 n] w fun e w' => ∃ neg no nn nc eo en ec r, e = .returned (.agg #[.bool neg, .slice no nn nc, .slice eo en ec]) ∧ r.neg = neg ∧ RatAt w' no nn nc eo en ec r ∧ Is r n 1 ∧ Below w.heap.size w w' := by
  have bx := RBox.new w false none 0 0 none 0 0
  have hB0 : Below w.heap.size w (w.alloc (.cells #[.bool false, .slice none 0 0, .slice none 0 0] 28)) := (Below.refl _ _).alloc (Nat.le_refl _) _
  have H : Hid (RBox _ w.heap.size false none 0 0 none 0 0 ∧ Below w.heap.size w (w.alloc (.cells #[.bool false, .slice none 0 0, .slice none 0 0] 28))) := ⟨bx, hB0⟩
  have hab : (n.natAbs : Int) < BB := by unfold BB; omega
  obtain ⟨S, hS⟩ : ∃ S, S = (n.natAbs : Int) := ⟨_, rfl⟩
  have HS : Hid (S = (n.natAbs : Int) ∧ 0 ≤ S ∧ S < BB ∧ (1 : Int) < BB) := ⟨hS, by omega, by omega, by unfold BB; omega⟩
  clear bx hB0
  by_cases hn : n < 0
  · obtain ⟨U, hU⟩ : ∃ U, U = n + 18446744073709551616 := ⟨_, rfl⟩
    have hw1 : IntKind.u64.wrap n = U := by rw [IntKind.wrap_u64]; omega
    have hw2 : IntKind.u64.wrap (-U) = S := by rw [IntKind.wrap_u64]; omega
    have HN : Hid (n < 0) := hn
    clear hab hS hU
    go_enter Try.func17, Try.ntmps17
    go_wp2_with fail
    refine (rof_any S _ HS.out.2.1 HS.out.2.2.1).mono ?_
    rintro e w1 ⟨po, pn, pc, p, rfl, p1, p2, p3, p4⟩
    have P : Hid (RowAt w1 po pn pc p ∧ Num p S ∧ RBox w1 w.heap.size false none 0 0 none 0 0 ∧ Below w.heap.size w w1) := ⟨p1, p2, H.out.1.below p4, chain H.out.2 p4⟩
    clear p1 p2 p3 p4
    obtain ⟨w2, hw⟩ : ∃ w2, w2 = w1.alloc (Obj.cells #[.int .u64 1] 50) := ⟨_, rfl⟩
    have q1 := one_row w1 1 (by omega) HS.out.2.2.2
    have q2 := num1 (x := 1) (by omega) HS.out.2.2.2
    have q4 : Below w1.heap.size w1 (w1.alloc (Obj.cells #[.int .u64 1] 50)) := (Below.refl _ _).alloc (Nat.le_refl _) _
    rw [← hw] at q1 q4
    have bx2 := P.out.2.2.1.below q4
    have r0 := bx2.c0
    have r1 := bx2.c1
    have r2 := bx2.c2
    have f0 := bx2.f 0
    have f1 := bx2.f 1
    have f2 := bx2.f 2
    have Q : Hid (RatAt w2 po pn pc (some ⟨w1.heap.size, 0, none⟩) 1 1 ⟨true, p, [1]⟩ ∧ Num [1] 1 ∧ RBox w2 w.heap.size false none 0 0 none 0 0 ∧ Below w.heap.size w w2) := ⟨⟨P.out.1.below q4, q1⟩, q2, bx2, chain P.out.2.2.2 q4⟩
    have HI : Hid (Is ⟨true, p, [1]⟩ n 1) := by
      have h := Is.whole (n := n) (p := p) (q := [1]) (by rw [← HS.out.1]; exact P.out.2.1) q2 (by rw [← HS.out.1]; exact HS.out.2.2.1)
      rw [decide_eq_true HN.out] at h
      exact h
    have HR : Hid _ := Q.out.2.2.1.set true po pn pc (some ⟨w1.heap.size, 0, none⟩) 1 1
    have HT : Hid _ := Q.out.1.setR Q.out.2.2.1 (.bool true) (.slice po pn pc) (.slice (some ⟨w1.heap.size, 0, none⟩) 1 1)
    clear q1 q2 q4 bx2
    subst hw
    go_wp2_with fail
    exact bodyPost_ret (results_r1 rfl _ HR.out rfl) rfl ⟨true, po, pn, pc, some ⟨w1.heap.size, 0, none⟩, 1, 1, ⟨true, p, [1]⟩, rfl, rfl, HT.out, HI.out, below_set Q.out.2.2.2 (Nat.le_refl _) _ _ _⟩
  · have hw1 : IntKind.u64.wrap n = S := by rw [IntKind.wrap_u64]; omega
    have HN : Hid (¬ n < 0) := hn
    clear hab hS
    go_enter Try.func17, Try.ntmps17
    go_wp2_with fail
    refine (rof_any S _ HS.out.2.1 HS.out.2.2.1).mono ?_
    rintro e w1 ⟨po, pn, pc, p, rfl, p1, p2, p3, p4⟩
    have P : Hid (RowAt w1 po pn pc p ∧ Num p S ∧ RBox w1 w.heap.size false none 0 0 none 0 0 ∧ Below w.heap.size w w1) := ⟨p1, p2, H.out.1.below p4, chain H.out.2 p4⟩
    clear p1 p2 p3 p4
    obtain ⟨w2, hw⟩ : ∃ w2, w2 = w1.alloc (Obj.cells #[.int .u64 1] 50) := ⟨_, rfl⟩
    have q1 := one_row w1 1 (by omega) HS.out.2.2.2
    have q2 := num1 (x := 1) (by omega) HS.out.2.2.2
    have q4 : Below w1.heap.size w1 (w1.alloc (Obj.cells #[.int .u64 1] 50)) := (Below.refl _ _).alloc (Nat.le_refl _) _
    rw [← hw] at q1 q4
    have bx2 := P.out.2.2.1.below q4
    have r0 := bx2.c0
    have r1 := bx2.c1
    have r2 := bx2.c2
    have f0 := bx2.f 0
    have f1 := bx2.f 1
    have f2 := bx2.f 2
    have Q : Hid (RatAt w2 po pn pc (some ⟨w1.heap.size, 0, none⟩) 1 1 ⟨false, p, [1]⟩ ∧ Num [1] 1 ∧ RBox w2 w.heap.size false none 0 0 none 0 0 ∧ Below w.heap.size w w2) := ⟨⟨P.out.1.below q4, q1⟩, q2, bx2, chain P.out.2.2.2 q4⟩
    have HI : Hid (Is ⟨false, p, [1]⟩ n 1) := by
      have h := Is.whole (n := n) (p := p) (q := [1]) (by rw [← HS.out.1]; exact P.out.2.1) q2 (by rw [← HS.out.1]; exact HS.out.2.2.1)
      rw [decide_eq_false (Int.not_lt.2 HN.out)] at h
      exact h
    have HR : Hid _ := Q.out.2.2.1.set false po pn pc (some ⟨w1.heap.size, 0, none⟩) 1 1
    have HT : Hid _ := Q.out.1.setR Q.out.2.2.1 (.bool false) (.slice po pn pc) (.slice (some ⟨w1.heap.size, 0, none⟩) 1 1)
    clear q1 q2 q4 bx2
    subst hw
    go_wp2_with fail
    exact bodyPost_ret (results_r1 rfl _ HR.out rfl) rfl ⟨false, po, pn, pc, some ⟨w1.heap.size, 0, none⟩, 1, 1, ⟨false, p, [1]⟩, rfl, rfl, HT.out, HI.out, below_set Q.out.2.2.2 (Nat.le_refl _) _ _ _⟩

end Go.Proofs.Ytnkjfandknndkaa
