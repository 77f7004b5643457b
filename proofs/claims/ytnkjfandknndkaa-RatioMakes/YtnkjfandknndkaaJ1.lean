/-
  Joined: RatMath · Common · Quot · RSub · RMul · RDivMath · RTimes · RAdd · RDivA · RDivB · RDivC · RDiv · RNat · RQuot · RatA.
-/
import Derived.Test.YtnkjfandknndkaaQuotMath
import Derived.Test.YtnkjfandknndkaaDivide
import Derived.Test.YtnkjfandknndkaaNatBase
import Derived.Test.YtnkjfandknndkaaNatOps
import Derived.Test.YtnkjfandknndkaaRCmp
import Derived.Test.YtnkjfandknndkaaLess
import Derived.Deep.LoopGhost
import Derived.Test.YtnkjfandknndkaaWhole
import Derived.Deep.CutRange
import Derived.Deep.RegionHeld3
import Derived.Laws.Rows

/-! Numbers in lowest terms, as arithmetic: no program. -/
namespace Go.Proofs.Ytnkjfandknndkaa

/-- A number, by its parts. -/
structure RatL where
  neg : Bool
  num : List Int
  den : List Int

def rat0 : RatL := ⟨false, [], []⟩

/-- A number with a sign. -/
def sg (neg : Bool) (v : Int) : Int := if neg then -v else v
def RatL.top (a : RatL) : Int := sg a.neg (val a.num)
def RatL.bot (a : RatL) : Int := val a.den
/-- Its parts are limbs. -/
def LimR (a : RatL) : Prop := Limbs a.num ∧ Limbs a.den

/-- It is the one way to write its number. -/
structure MayR (a : RatL) : Prop where
  num : May a.num
  den : May a.den
  pos : val a.den ≠ 0
  low : gcdI (val a.num) (val a.den) = 1
  sign : a.neg = true → val a.num ≠ 0

theorem sg_abs (neg : Bool) {v : Int} (h : 0 ≤ v) : ((sg neg v).natAbs : Int) = v := by
  unfold sg; cases neg <;> simp <;> omega
theorem sg_zero (neg : Bool) {v : Int} : sg neg v = 0 ↔ v = 0 := by
  unfold sg; cases neg <;> simp
theorem sg_mul (neg : Bool) (v c : Int) : sg neg (v * c) = sg neg v * c := by
  unfold sg; cases neg <;> simp [Int.neg_mul]

theorem MayR.bot_pos {a : RatL} (h : MayR a) (l : LimR a) : 0 < a.bot := by
  have := (val_bd l.2).1
  have := h.pos
  unfold RatL.bot
  omega

theorem mayR_ex (a : RatL) : ∃ b : Bool, (b = true ↔ MayR a) := by
  by_cases h : MayR a
  · exact ⟨true, yes_iff h⟩
  · exact ⟨false, no_iff h⟩

theorem gcd_cut {t b n d m : Int} (ht : ((t.natAbs : Nat) : Int) = n) (hb : 0 < b) (hg : gcdI n b = 1) (h : t * d = m * b) : b ∣ d := by
  have h1 : b.natAbs ∣ t.natAbs * d.natAbs := by
    rw [← Int.natAbs_mul, h, Int.natAbs_mul]
    exact Nat.dvd_mul_left _ _
  have hc : Nat.Coprime b.natAbs t.natAbs := by
    unfold gcdI at hg
    have e1 : n.toNat = t.natAbs := by omega
    have e2 : b.toNat = b.natAbs := by omega
    rw [e1, e2] at hg
    unfold Nat.Coprime
    rw [Nat.gcd_comm]
    omega
  exact Int.natAbs_dvd_natAbs.1 (hc.dvd_of_dvd_mul_left h1)

/-- r is the number N by D. -/
structure Is (r : RatL) (N D : Int) : Prop where
  may : MayR r
  lim : LimR r
  pos : 0 < D
  eq : r.top * D = N * r.bot

theorem Is.parts {r : RatL} {N D : Int} (h : Is r N D) : ∃ c, 0 < c ∧ D = r.bot * c ∧ N = r.top * c := by
  have hb := h.may.bot_pos h.lim
  have hv := (val_bd h.lim.1).1
  obtain ⟨c, hc⟩ := gcd_cut (t := r.top) (sg_abs r.neg hv) hb h.may.low h.eq
  have hc0 : 0 < c := by
    rcases Int.lt_or_le 0 c with h' | h'
    · exact h'
    · have h2 := Int.mul_le_mul_of_nonneg_left h' (Int.le_of_lt hb)
      rw [Int.mul_zero] at h2
      have h3 : r.bot * c ≤ 0 := h2
      have := h.pos
      have h4 : D = r.bot * c := hc
      omega
  refine ⟨c, hc0, hc, ?_⟩
  have he := h.eq
  have hD : D = r.bot * c := hc
  rw [hD] at he
  have h5 : (r.top * c) * r.bot = N * r.bot := by rw [← he]; grind
  exact (Int.eq_of_mul_eq_mul_right (by omega) h5).symm

theorem rat_one {r s : RatL} (h : MayR r) (k : MayR s) (l : LimR r) (m : LimR s) (ht : r.top = s.top) (hb : r.bot = s.bot) : r = s := by
  have v1 := (val_bd l.1).1
  have v2 := (val_bd m.1).1
  have hv : val r.num = val s.num := by
    have a := sg_abs r.neg v1
    have b := sg_abs s.neg v2
    unfold RatL.top at ht
    rw [ht] at a
    omega
  have hn : r.num = s.num := row_one l.1 h.num.2 m.1 k.num.2 hv
  have hd : r.den = s.den := row_one l.2 h.den.2 m.2 k.den.2 hb
  have hs : r.neg = s.neg := by
    have h1 := h.sign
    have h2 := k.sign
    unfold RatL.top sg at ht
    cases e1 : r.neg <;> cases e2 : s.neg <;> simp [e1, e2] at h1 h2 ht <;> first | rfl | omega
  cases r
  cases s
  simp_all

theorem Is.cross {r s : RatL} {N D M E : Int} (h : Is r N D) (k : Is s M E) : ∃ c, 0 < c ∧ N * E = (r.top * s.bot) * c ∧ M * D = (s.top * r.bot) * c := by
  obtain ⟨c, c0, hD, hN⟩ := h.parts
  obtain ⟨d, d0, hE, hM⟩ := k.parts
  refine ⟨c * d, Int.mul_pos c0 d0, ?_, ?_⟩
  · rw [hN, hE]; grind
  · rw [hM, hD]; grind

theorem Is.one {r s : RatL} {N D M E : Int} (h : Is r N D) (k : Is s M E) (e : N * E = M * D) : r = s := by
  have hx : r.top * s.bot = s.top * r.bot := by
    obtain ⟨c, c0, h1, h2⟩ := h.cross k
    rw [h1, h2] at e
    exact Int.eq_of_mul_eq_mul_right (by omega) e
  have h1 : Is r s.top s.bot := ⟨h.may, h.lim, k.may.bot_pos k.lim, hx⟩
  have h2 : Is s r.top r.bot := ⟨k.may, k.lim, h.may.bot_pos h.lim, hx.symm⟩
  obtain ⟨c, c0, a1, a2⟩ := h1.parts
  obtain ⟨d, d0, b1, b2⟩ := h2.parts
  have hb := h.may.bot_pos h.lim
  have hcd : r.bot * (c * d) = r.bot * 1 := by
    rw [a1] at b1
    grind
  have h3 : c * d = 1 := Int.eq_of_mul_eq_mul_left (by omega) hcd
  have hc : c = 1 := by
    have := Int.mul_le_mul_of_nonneg_left (show 1 ≤ d by omega) (show 0 ≤ c by omega)
    omega
  rw [hc, Int.mul_one] at a1 a2
  exact rat_one h.may k.may h.lim k.lim a2.symm a1.symm

theorem Is.self {r : RatL} (h : MayR r) (l : LimR r) : Is r r.top r.bot := ⟨h, l, h.bot_pos l, rfl⟩
theorem Is.same {r : RatL} {N D M E : Int} (h : Is r N D) (hE : 0 < E) (e : N * E = M * D) : Is r M E := by
  refine ⟨h.may, h.lim, hE, ?_⟩
  obtain ⟨c, c0, hD, hN⟩ := h.parts
  rw [hD, hN] at e
  have : (r.top * E) * c = (M * r.bot) * c := by grind
  exact Int.eq_of_mul_eq_mul_right (by omega) this

/-- The parts are no greater than whatever the number was made of. -/
theorem Is.le {r : RatL} {N D : Int} (h : Is r N D) : val r.num ≤ N.natAbs ∧ r.bot ≤ D := by
  obtain ⟨c, c0, hD, hN⟩ := h.parts
  have hb := h.may.bot_pos h.lim
  have hv := (val_bd h.lim.1).1
  have ha := sg_abs r.neg hv
  constructor
  · rw [hN, Int.natAbs_mul]
    have h1 : (r.top.natAbs : Int) = val r.num := ha
    have h2 := Int.mul_le_mul_of_nonneg_left (show 1 ≤ c by omega) hv
    have h3 : ((r.top.natAbs * c.natAbs : Nat) : Int) = val r.num * c := by
      rw [Int.natCast_mul, h1]
      congr 1
      omega
    rw [h3]
    omega
  · rw [hD]
    have h2 := Int.mul_le_mul_of_nonneg_left (show 1 ≤ c by omega) (Int.le_of_lt hb)
    omega

/-- What a call on two numbers tells. -/
structure OpOut (ok tb : Prop) (N D : Int) (r : RatL) (k : Int) : Prop where
  arg : ¬ ok → k = 1 ∧ r = rat0
  big : ok → tb → k = 21 ∧ r = rat0
  fine : ok → ¬ tb → k = 0 ∧ Is r N D

theorem OpOut.one {ok tb : Prop} {N D : Int} {r s : RatL} {k l : Int} (h : OpOut ok tb N D r k) (h' : OpOut ok tb N D s l) : r = s ∧ k = l := by
  by_cases o : ok
  · by_cases b : tb
    · exact ⟨(h.big o b).2.trans (h'.big o b).2.symm, (h.big o b).1.trans (h'.big o b).1.symm⟩
    · exact ⟨(h.fine o b).2.one (h'.fine o b).2 rfl, (h.fine o b).1.trans (h'.fine o b).1.symm⟩
  · exact ⟨(h.arg o).2.trans (h'.arg o).2.symm, (h.arg o).1.trans (h'.arg o).1.symm⟩

/-- What Make tells. -/
structure MakeOut (neg : Bool) (xs ys : List Int) (r : RatL) (k : Int) : Prop where
  arg : ¬ (May xs ∧ May ys) → k = 1 ∧ r = rat0
  zero : May xs ∧ May ys → val ys = 0 → k = 30 ∧ r = rat0
  fine : May xs ∧ May ys → val ys ≠ 0 → k = 0 ∧ Is r (sg neg (val xs)) (val ys)

theorem MakeOut.one {neg : Bool} {xs ys : List Int} {r s : RatL} {k l : Int} (h : MakeOut neg xs ys r k) (h' : MakeOut neg xs ys s l) : r = s ∧ k = l := by
  by_cases o : May xs ∧ May ys
  · by_cases b : val ys = 0
    · exact ⟨(h.zero o b).2.trans (h'.zero o b).2.symm, (h.zero o b).1.trans (h'.zero o b).1.symm⟩
    · exact ⟨(h.fine o b).2.one (h'.fine o b).2 rfl, (h.fine o b).1.trans (h'.fine o b).1.symm⟩
  · exact ⟨(h.arg o).2.trans (h'.arg o).2.symm, (h.arg o).1.trans (h'.arg o).1.symm⟩

theorem Is.made {neg : Bool} {xs ys p q : List Int} (lx : Limbs xs) (ly : Limbs ys) (mx : May xs) (my : May ys) (hy : val ys ≠ 0) (hp : Num p (val xs / gcdI (val xs) (val ys))) (hq : Num q (val ys / gcdI (val xs) (val ys))) :
    Is ⟨neg && decide (0 < p.length), p, q⟩ (sg neg (val xs)) (val ys) := by
  have vx := (val_bd lx).1
  have vy := (val_bd ly).1
  have y0 : 0 < val ys := by omega
  obtain ⟨P, Q, hP, hQ, e1, e2, e3⟩ := gcdI_dvd (a := val ys) (b := val xs) y0 vx
  have hG := gcdI_pos (b := val xs) y0
  rw [gcdI_comm (val xs)] at hp hq
  have bx := May.lt lx mx
  have bY := May.lt ly my
  have dq : val ys / gcdI (val ys) (val xs) = P := by
    have := Int.mul_ediv_cancel_left P (show gcdI (val ys) (val xs) ≠ 0 by omega)
    rw [← e1] at this
    exact this
  have dp : val xs / gcdI (val ys) (val xs) = Q := by
    have := Int.mul_ediv_cancel_left Q (show gcdI (val ys) (val xs) ≠ 0 by omega)
    rw [← e2] at this
    exact this
  rw [dq] at hq
  rw [dp] at hp
  have hPl : P ≤ val ys := by
    have := Int.mul_le_mul_of_nonneg_right (show 1 ≤ gcdI (val ys) (val xs) by omega) (Int.le_of_lt hP)
    omega
  have hQl : Q ≤ val xs := by
    have := Int.mul_le_mul_of_nonneg_right (show 1 ≤ gcdI (val ys) (val xs) by omega) hQ
    omega
  have hlen : (0 < p.length) ↔ Q ≠ 0 := by
    have := num_len_zero hp
    omega
  refine ⟨⟨hp.may.2 (by omega), hq.may.2 (by omega), by rw [hq.val]; omega, by rw [hp.val, hq.val, gcdI_comm]; exact e3, fun h => ?_⟩, ⟨hp.limbs, hq.limbs⟩, y0, ?_⟩
  · rw [hp.val]
    simp only [Bool.and_eq_true, decide_eq_true_eq] at h
    exact hlen.1 h.2
  · show sg (neg && decide (0 < p.length)) (val p) * val ys = sg neg (val xs) * val q
    have hs : sg (neg && decide (0 < p.length)) (val p) = sg neg Q := by
      rw [hp.val]
      by_cases hz : Q = 0
      · subst hz
        unfold sg
        simp
      · rw [decide_eq_true (hlen.2 hz), Bool.and_true]
    rw [hs, hq.val, e2, Int.mul_comm (gcdI _ _) Q, sg_mul]
    have e4 : val ys = gcdI (val ys) (val xs) * P := e1
    generalize gcdI (val ys) (val xs) = G at *
    rw [e4]
    grind

theorem sg_not (neg : Bool) (v : Int) : sg (!neg) v = - sg neg v := by unfold sg; cases neg <;> simp

/-- A number with the other sign. -/
def RatL.flip (a : RatL) : RatL := ⟨if a.num.length = 0 then a.neg else !a.neg, a.num, a.den⟩
theorem MayR.zero_len {a : RatL} (h : MayR a) (l : LimR a) : a.num.length = 0 ↔ a.top = 0 := by
  rw [num_len_zero (num_self l.1 h.num)]
  exact (sg_zero a.neg).symm
theorem Is.flip {r : RatL} {N D : Int} (h : Is r N D) : Is r.flip (-N) D := by
  have hz := h.may.zero_len h.lim
  have ht : r.flip.top = - r.top := by
    show sg (if r.num.length = 0 then r.neg else !r.neg) (val r.num) = - sg r.neg (val r.num)
    by_cases h0 : r.num.length = 0
    · have h1 := hz.1 h0
      rw [if_pos h0]
      have h2 : sg r.neg (val r.num) = 0 := h1
      omega
    · rw [if_neg h0, sg_not]
  refine ⟨⟨h.may.num, h.may.den, h.may.pos, h.may.low, fun hs => ?_⟩, h.lim, h.pos, ?_⟩
  · show val r.num ≠ 0
    intro e
    have h0 : r.num.length = 0 := (num_len_zero (num_self h.lim.1 h.may.num)).2 e
    have h2 : r.flip.neg = r.neg := by show (if r.num.length = 0 then r.neg else !r.neg) = r.neg; rw [if_pos h0]
    rw [h2] at hs
    exact h.may.sign hs e
  · rw [ht, Int.neg_mul, h.eq, Int.neg_mul]
    rfl

/-- 1 by a number. -/
def RatL.inv (a : RatL) : RatL := ⟨a.neg, a.den, a.num⟩
theorem Is.inv {r : RatL} {N D : Int} (h : Is r N D) (hN : N ≠ 0) : Is r.inv (sg (decide (N < 0)) D) (N.natAbs) := by
  obtain ⟨c, c0, hD, hNc⟩ := h.parts
  have hb := h.may.bot_pos h.lim
  have hv := (val_bd h.lim.1).1
  have ht : r.top ≠ 0 := by
    intro e
    rw [e, Int.zero_mul] at hNc
    exact hN hNc
  have hnum : val r.num ≠ 0 := fun e => ht ((sg_zero r.neg).2 e)
  have hneg : decide (N < 0) = r.neg := by
    have ha := sg_abs r.neg hv
    rw [hNc]
    cases e : r.neg with
    | true =>
      have h1 : r.top = - val r.num := by unfold RatL.top sg; rw [e]; rfl
      have h2 := Int.mul_pos (show 0 < val r.num by omega) c0
      rw [h1, Int.neg_mul]
      exact decide_eq_true (by omega)
    | false =>
      have h1 : r.top = val r.num := by unfold RatL.top sg; rw [e]; rfl
      have h2 := Int.mul_pos (show 0 < val r.num by omega) c0
      rw [h1]
      exact decide_eq_false (by omega)
  refine ⟨⟨h.may.den, h.may.num, hnum, by show gcdI (val r.den) (val r.num) = 1; rw [gcdI_comm]; exact h.may.low, fun _ => h.may.pos⟩, ⟨h.lim.2, h.lim.1⟩, by omega, ?_⟩
  rw [hneg]
  show sg r.neg (val r.den) * (N.natAbs : Int) = sg r.neg D * val r.num
  have hab : (N.natAbs : Int) = val r.num * c := by
    have h1 : (r.top.natAbs : Int) = val r.num := sg_abs r.neg hv
    rw [hNc, Int.natAbs_mul, Int.natCast_mul, h1]
    congr 1
    omega
  have hD2 : D = val r.den * c := hD
  rw [hab, hD2, sg_mul]
  grind

end Go.Proofs.Ytnkjfandknndkaa

/-! quot.commonLimb and quot.common: what two have in common. -/
namespace Go.Proofs.Ytnkjfandknndkaa
open Go.RowKit

set_option maxHeartbeats 400000 in
theorem climb_any (a b : Int) (w : World) (ha : 0 ≤ a) (ha1 : a < BB) (hb : 0 ≤ b) (hb1 : b < BB) :
    Calls Try.prog 78 #[.int .u64 a, .int .u64 b] w fun e w' => e = .returned (.int .u64 (gcdI a b)) ∧ ∃ m, w' = w.drewN m := by
  obtain ⟨g, hg⟩ : ∃ g, gcdI a b = g := ⟨_, rfl⟩
  rw [hg]
  have HG : Hid (gcdI a b = g ∧ 0 ≤ a ∧ a < BB ∧ 0 ≤ b ∧ b < BB) := ⟨hg, ha, ha1, hb, hb1⟩
  clear hg ha1 hb1
  go_enter Try.func78, Try.ntmps78
  go_wp2_with fail
  go_loopg [0, 1] (b.toNat) (fun k s0 s1 wr => ∃ x y : Int, s0 = .int .u64 x ∧ s1 = .int .u64 y ∧ y.toNat ≤ k ∧ (gcdI x y = g ∧ 0 ≤ x ∧ x < BB ∧ 0 ≤ y ∧ y < BB) ∧ ∃ m, wr = w.drewN m)
  case atStart => exact ⟨a, b, rfl, rfl, Nat.le_refl _, HG.out, 0, rfl⟩
  case round =>
    clear HG ha hb a b
    obtain ⟨x, y, rfl, rfl, hk, hi, m, rfl⟩ := hrel
    have hx0 := hi.2.1
    have hy0 := hi.2.2.2.1
    have hy1 : y ≤ 18446744073709551615 := by have := hi.2.2.2.2; unfold BB at this; omega
    have HI : Hid _ := hi
    clear hi
    by_cases hy : 0 < y
    · have hyn : y ≠ 0 := by omega
      have ht : x.tmod y = x % y := Int.tmod_eq_emod_of_nonneg hx0
      have hm0 := Int.emod_nonneg x hyn
      have hm1 := Int.emod_lt_of_pos x hy
      have HJ : Hid (gcdI y (x % y) = g ∧ 0 ≤ y ∧ y < BB ∧ 0 ≤ x % y ∧ x % y < BB) := ⟨by rw [← gcdI_step hx0 hy0]; exact HI.out.1, hy0, HI.out.2.2.2.2, hm0, by have := HI.out.2.2.2.2; omega⟩
      go_wp2_with fail
      go_quiet (fail)
      go_wp2_with fail
      go_roundg ((x % y).toNat)
      case measure => omega
      case rel => exact ⟨y, x % y, rfl, rfl, Nat.le_refl _, HJ.out, m + nq, by rw [World.drewN_drewN]⟩
    · have HE : Hid (x = g) := by
        have h := HI.out.1
        rw [show y = 0 by omega, gcdI_zero hx0] at h
        exact h
      go_wp2_with fail
      go_ret
      exact ⟨ret_int HE.out, _, rfl⟩

theorem climb_g (a b g : Int) (w : World) (ha : 0 ≤ a) (ha1 : a < BB) (hb : 0 ≤ b) (hb1 : b < BB) (hg : gcdI a b = g) :
    Calls Try.prog 78 #[.int .u64 a, .int .u64 b] w fun e w' => e = .returned (.int .u64 g) ∧ Below w.heap.size w w' :=
  (climb_any a b w ha ha1 hb hb1).mono fun _ _ ⟨h1, m, h2⟩ => ⟨h1.trans (ret_int hg), h2 ▸ below_drewN (Below.refl _ _) m⟩

set_option maxRecDepth 100000 in
set_option maxHeartbeats 2000000 in
theorem common_any (ao bo : Option Addr) (na ca nb cb : Nat) (xs ys : List Int) (x0 y0 : Int) (w : World) (ha : RowAt w ao na ca xs) (hb : RowAt w bo nb cb ys) (hna : na ≤ 900) (hnb : nb ≤ 900) (nx : Num xs x0) (ny : Num ys y0) :
    Calls Try.prog 56 #[.slice ao na ca, .slice bo nb cb] w fun e w' => ∃ ro m cap r, e = .returned (.slice ro m cap) ∧ RowAt w' ro m cap r ∧ Num r (gcdI x0 y0) ∧ Below w.heap.size w w' := by
  obtain ⟨g, hg⟩ : ∃ g, gcdI x0 y0 = g := ⟨_, rfl⟩
  rw [hg]
  have H0 : Hid (RowAt w ao na ca xs ∧ RowAt w bo nb cb ys ∧ na ≤ 900 ∧ nb ≤ 900 ∧ Num xs x0 ∧ Num ys y0 ∧ gcdI x0 y0 = g ∧ Below w.heap.size w w) := ⟨ha, hb, hna, hnb, nx, ny, hg, Below.refl _ _⟩
  clear hg ha hb hna hnb nx ny
  go_enter Try.func56, Try.ntmps56
  go_wp2_with fail
  go_loopg [0, 1] (y0.toNat) (fun k s0 s1 wr => ∃ (ao bo : Option Addr) (na ca nb cb : Nat) (xs ys : List Int) (x y : Int), s0 = .slice ao na ca ∧ s1 = .slice bo nb cb ∧ y.toNat ≤ k ∧ (RowAt wr ao na ca xs ∧ RowAt wr bo nb cb ys ∧ na ≤ 900 ∧ nb ≤ 900 ∧ Num xs x ∧ Num ys y ∧ gcdI x y = g ∧ Below w.heap.size w wr))
  case atStart => exact ⟨ao, bo, na, ca, nb, cb, xs, ys, x0, y0, rfl, rfl, Nat.le_refl _, H0.out⟩
  case round =>
    clear H0 ao bo na ca nb cb xs ys x0 y0
    obtain ⟨ao, bo, na, ca, nb, cb, xs, ys, x, y, rfl, rfl, hk, ha, hb, hna, hnb, nx, ny, hg, hbel⟩ := hrel
    have hx0 := nx.nonneg
    have hy0 := ny.nonneg
    have HA : Hid (RowAt wr ao na ca xs) := ha
    have HB : Hid (RowAt wr bo nb cb ys) := hb
    have NX : Hid (Num xs x) := nx
    have NY : Hid (Num ys y) := ny
    have HG : Hid (gcdI x y = g) := hg
    have HBL : Hid (Below w.heap.size w wr) := hbel
    have ly := num_len_zero ny
    rw [hb.len] at ly
    clear ha hb nx ny hg hbel
    by_cases hz : nb = 0
    · have hyz : y = 0 := ly.1 hz
      have HE : Hid (x = g) := by
        have h := HG.out
        rw [hyz, gcdI_zero hx0] at h
        exact h
      have HY0 : Hid (y = 0) := hyz
      subst hz
      clear hyz ly
      go_wp2_with fail
      refine (trim_any _ _ _ xs _ HA.out (by omega)).mono ?_
      rintro e w1 ⟨ro, m, cap, r, rfl, t1, t2, t3, t4⟩
      have T1 : Hid _ := t1
      have T2 : Hid (Num r g) := by
        rw [NX.out.val, HE.out] at t2
        exact t2
      have T4 : Hid (Below wr.heap.size wr w1) := t4
      clear t1 t2 t3 t4
      go_wp2_with fail
      go_ret
      exact ⟨ro, m, cap, r, rfl, T1.out, T2.out, HBL.out.trans (T4.out.mono HBL.out.size)⟩
    · have hyp : 0 < y := by
        have : y ≠ 0 := fun e => hz (ly.2 e)
        omega
      have hbp : (0 : Int) < (nb : Int) := by omega
      clear ly
      by_cases h1 : na = 1 ∧ nb = 1
      · obtain ⟨h1, h2⟩ := h1
        have lx := HA.out.len
        have lY := HB.out.len
        obtain ⟨ab, aoff, rfl, halt, hac⟩ := HA.out.cells (by intro e; rw [e] at lx; simp at lx; omega)
        obtain ⟨bb, boff, rfl, hblt, hbc⟩ := HB.out.cells (by intro e; rw [e] at lY; simp at lY; omega)
        have ca0 := hac 0 (by omega)
        have cb0 := hbc 0 (by omega)
        rw [← lim_nat] at ca0 cb0
        have ex : lim xs 0 = x := by
          rw [← NX.out.val, ← pv_val xs 1 (by omega)]
          simp [pv]
        have ey : lim ys 0 = y := by
          rw [← NY.out.val, ← pv_val ys 1 (by omega)]
          simp [pv]
        have bx := lim_bd HA.out.limbs 0
        have bY := lim_bd HB.out.limbs 0
        rw [ex] at bx
        rw [ey] at bY
        rw [show ((0 : Nat) : Int) = 0 from rfl, ex, Nat.add_zero] at ca0
        rw [show ((0 : Nat) : Int) = 0 from rfl, ey, Nat.add_zero] at cb0
        have BX : Hid (0 ≤ x ∧ x < BB) := bx
        have BY : Hid (0 ≤ y ∧ y < BB) := bY
        have BG : Hid (0 ≤ g ∧ g < BB) := by
          rw [← HG.out]
          exact ⟨gcdI_nonneg _ _, gcdI_lt bx.1 bY.1 bx.2 bY.2⟩
        subst h1 h2
        clear hac hbc ex ey bx bY lx lY
        go_wp2_with fail
        go_region_held3 (fun w' => w'.cell? ⟨ab, aoff, none⟩ = some (.int .u64 x) ∧ w'.cell? ⟨bb, boff, none⟩ = some (.int .u64 y)) (first | go_keep | (refine ⟨?_, ?_⟩; (rw [bz.cell (p := ⟨ab, aoff, none⟩) halt]; assumption); (rw [bz.cell (p := ⟨bb, boff, none⟩) hblt]; assumption)))
          (first
            | (go_at_call 78; refine (climb_g x y g _ BX.out.1 BX.out.2 BY.out.1 BY.out.2 HG.out).mono ?_; rintro e w1 ⟨rfl, bq⟩; have bz := ((Below.refl wr.heap.size wr).drew.trans bq))
            | (go_at_call 37; refine (of_any g _ BG.out.1 BG.out.2).mono ?_; rintro e w2 ⟨ro, rm, rc, r, rfl, g1, g2, g3, g4⟩; have bz := bz.trans (g4.mono bz.size)))
        have T1 : Hid (RowAt w2 ro rm rc r) := g1
        have T2 : Hid (Num r g) := g2
        have T4 : Hid (Below wr.heap.size wr w2) := bz
        clear g1 g2 g3 g4 bz
        go_wp2_with fail
        go_ret
        exact ⟨ro, rm, rc, r, rfl, T1.out, T2.out, HBL.out.trans (T4.out.mono HBL.out.size)⟩
      · have hys : ys ≠ [] := by
          intro e
          have := HB.out.len
          rw [e] at this
          simp at this
          omega
        have HYS : Hid (ys ≠ []) := hys
        clear hys
        have hm0 := Int.emod_nonneg x (show y ≠ 0 by omega)
        have hm1 := Int.emod_lt_of_pos x hyp
        have HJ : Hid (gcdI y (x % y) = g) := by
          rw [← gcdI_step hx0 hy0]; exact HG.out
        by_cases hn1 : na = 1
        · have hn2 : nb ≠ 1 := fun e => h1 ⟨hn1, e⟩
          have hnb1 : ((nb : Int) == 1) = false := by rw [beq_eq_false_iff_ne]; omega
          subst hn1
          go_wp2_with fail
          refine (divide_any _ _ _ _ _ _ xs ys _ HA.out HB.out (by omega) (by omega) NX.out.trim NY.out.trim HYS.out).mono ?_
          rintro e w1 ⟨qo, qn, qc, qs, ro, rn, rc, rs, rfl, d1, d2, d3, d4, d5⟩
          rw [NX.out.val, NY.out.val] at d4
          have D2 : Hid (RowAt w1 ro rn rc rs) := d2
          have D4 : Hid (Num rs (x % y)) := d4
          have D5 : Hid (Below wr.heap.size wr w1) := d5
          have hrn : rn ≤ 900 := by
            have h1 := d2.len
            rcases Nat.lt_or_ge nb rn with hgt | hgt
            · obtain ⟨j, hj⟩ : ∃ j, rs.length = j + 1 := ⟨rs.length - 1, by omega⟩
              have h2 := val_ge d4.limbs d4.trim j hj
              rw [d4.val] at h2
              have h3 := (val_bd HB.out.limbs).2
              rw [NY.out.val, HB.out.len] at h3
              have h4 := pw_le (show nb ≤ j by omega)
              omega
            · omega
          clear d1 d2 d3 d4 d5
          go_wp2_with fail
          go_roundg ((x % y).toNat)
          case measure => omega
          case rel => exact ⟨bo, ro, nb, cb, rn, rc, ys, rs, y, x % y, rfl, rfl, Nat.le_refl _, HB.out.below D5.out, D2.out, hnb, hrn, NY.out, D4.out, HJ.out, HBL.out.trans (D5.out.mono HBL.out.size)⟩
        · have hnb1 : ((na : Int) == 1) = false := by rw [beq_eq_false_iff_ne]; omega
          go_wp2_with fail
          refine (divide_any _ _ _ _ _ _ xs ys _ HA.out HB.out (by omega) (by omega) NX.out.trim NY.out.trim HYS.out).mono ?_
          rintro e w1 ⟨qo, qn, qc, qs, ro, rn, rc, rs, rfl, d1, d2, d3, d4, d5⟩
          rw [NX.out.val, NY.out.val] at d4
          have D2 : Hid (RowAt w1 ro rn rc rs) := d2
          have D4 : Hid (Num rs (x % y)) := d4
          have D5 : Hid (Below wr.heap.size wr w1) := d5
          have hrn : rn ≤ 900 := by
            have h1 := d2.len
            rcases Nat.lt_or_ge nb rn with hgt | hgt
            · obtain ⟨j, hj⟩ : ∃ j, rs.length = j + 1 := ⟨rs.length - 1, by omega⟩
              have h2 := val_ge d4.limbs d4.trim j hj
              rw [d4.val] at h2
              have h3 := (val_bd HB.out.limbs).2
              rw [NY.out.val, HB.out.len] at h3
              have h4 := pw_le (show nb ≤ j by omega)
              omega
            · omega
          clear d1 d2 d3 d4 d5
          go_wp2_with fail
          go_roundg ((x % y).toNat)
          case measure => omega
          case rel => exact ⟨bo, ro, nb, cb, rn, rc, ys, rs, y, x % y, rfl, rfl, Nat.le_refl _, HB.out.below D5.out, D2.out, hnb, hrn, NY.out, D4.out, HJ.out, HBL.out.trans (D5.out.mono HBL.out.size)⟩

end Go.Proofs.Ytnkjfandknndkaa

/-! quot.Div, quot.Small, quot.Gcd, quot.Lcm. -/
namespace Go.Proofs.Ytnkjfandknndkaa
open Go.RowKit

theorem Out.to {ok ok' neg : Prop} {v v' : Int} {r : List Int} {k : Int} (h : Out ok neg v r k) (ho : ok) (ho' : ok') (hv : v = v') : Out ok' neg v' r k := by
  subst hv
  exact ⟨fun n => absurd ho' n, fun _ n => h.is_minus' ho n, fun _ n b => h.is_big' ho n b, fun _ n b => h.is_fine' ho n b⟩

theorem val_zero {xs : List Int} (hl : Limbs xs) (hm : May xs) {n : Nat} (h : xs.length = n) : n = 0 ↔ val xs = 0 := by
  rw [← h]; exact num_len_zero (num_self hl hm)

theorem quot_lt {a g B : Int} (ha : 0 ≤ a) (hA : a < B) : a / g < B ∨ g < 0 := by
  rcases Int.lt_or_le g 0 with h | h
  · exact .inr h
  · have := Int.ediv_le_self g ha
    exact .inl (by omega)

set_option maxHeartbeats 1000000 in
theorem qdiv_any (ao bo : Option Addr) (na ca nb cb : Nat) (xs ys : List Int) (w : World) (ha : RowAt w ao na ca xs) (hb : RowAt w bo nb cb ys) :
    Calls Try.prog 32 #[.slice ao na ca, .slice bo nb cb] w fun e w' => ∃ qo qn qc q ro rn rc r k, e = .returned (.tuple #[.slice qo qn qc, .slice ro rn rc, .int .i64 k]) ∧ RowAt w' qo qn qc q ∧ RowAt w' ro rn rc r ∧ DivOut xs ys q r k ∧ Below w.heap.size w w' := by
  have HA : Hid (RowAt w ao na ca xs) := ha
  have HB : Hid (RowAt w bo nb cb ys) := hb
  have la := ha.len
  have lb := hb.len
  clear ha hb
  by_cases hx : May xs
  · have hna : na ≤ 8 := by have := hx.1; omega
    have HX : Hid (May xs) := hx
    clear hx
    by_cases hy : May ys
    · have hnb : nb ≤ 8 := by have := hy.1; omega
      have HY : Hid (May ys) := hy
      have hz := val_zero HB.out.limbs hy lb
      have hzx := val_zero HA.out.limbs HX.out la
      clear hy la lb
      by_cases h0 : nb = 0
      · have HZ : Hid (val ys = 0) := hz.1 h0
        subst h0
        clear hz hzx
        go_enter Try.func32, Try.ntmps32
        go_wp2_with fail
        refine (may_val _ _ _ xs _ HA.out true (yes_iff HX.out)).mono ?_
        rintro e w1 ⟨rfl, rfl⟩
        go_wp2_with fail
        refine (may_val _ _ _ ys _ HB.out true (yes_iff HY.out)).mono ?_
        rintro e w1 ⟨rfl, rfl⟩
        go_wp2_with fail
        go_ret3
        exact ⟨none, 0, 0, [], none, 0, 0, [], 30, rfl, RowAt.nil _, RowAt.nil _, .zero ⟨HX.out, HY.out⟩ HZ.out, Below.refl _ _⟩
      · have HZ : Hid (val ys ≠ 0) := fun e => h0 (hz.2 e)
        have HYS : Hid (ys ≠ []) := fun e => by
          have h := HB.out.len
          rw [e] at h
          simp at h
          omega
        have hb0 : ((nb : Int) == 0) = false := by rw [beq_eq_false_iff_ne]; omega
        clear hz hzx
        go_enter Try.func32, Try.ntmps32
        go_wp2_with fail
        refine (may_val _ _ _ xs _ HA.out true (yes_iff HX.out)).mono ?_
        rintro e w1 ⟨rfl, rfl⟩
        go_wp2_with fail
        refine (may_val _ _ _ ys _ HB.out true (yes_iff HY.out)).mono ?_
        rintro e w1 ⟨rfl, rfl⟩
        go_wp2_with fail
        refine (divide_any _ _ _ _ _ _ xs ys _ HA.out HB.out (by omega) (by omega) HX.out.2 HY.out.2 HYS.out).mono ?_
        rintro e w1 ⟨qo, qn, qc, q, ro, rn, rc, r, rfl, d1, d2, d3, d4, d5⟩
        have D1 : Hid _ := d1
        have D2 : Hid _ := d2
        have D3 : Hid (Num q (val xs / val ys)) := d3
        have D4 : Hid (Num r (val xs % val ys)) := d4
        have D5 : Hid _ := d5
        clear d1 d2 d3 d4 d5
        go_wp2_with fail
        go_ret3
        exact ⟨qo, qn, qc, q, ro, rn, rc, r, 0, rfl, D1.out, D2.out, .fine ⟨HX.out, HY.out⟩ HZ.out D3.out D4.out, D5.out⟩
    · have HY : Hid (¬ May ys) := hy
      clear hy la lb
      go_enter Try.func32, Try.ntmps32
      go_wp2_with fail
      refine (may_val _ _ _ xs _ HA.out true (yes_iff HX.out)).mono ?_
      rintro e w1 ⟨rfl, rfl⟩
      go_wp2_with fail
      refine (may_val _ _ _ ys _ HB.out false (no_iff HY.out)).mono ?_
      rintro e w1 ⟨rfl, rfl⟩
      go_wp2_with fail
      go_ret3
      exact ⟨none, 0, 0, [], none, 0, 0, [], 1, rfl, RowAt.nil _, RowAt.nil _, .arg (fun h => HY.out h.2), Below.refl _ _⟩
  · have HX : Hid (¬ May xs) := hx
    clear hx la lb
    go_enter Try.func32, Try.ntmps32
    go_wp2_with fail
    refine (may_val _ _ _ xs _ HA.out false (no_iff HX.out)).mono ?_
    rintro e w1 ⟨rfl, rfl⟩
    go_wp2_with fail
    go_ret3
    exact ⟨none, 0, 0, [], none, 0, 0, [], 1, rfl, RowAt.nil _, RowAt.nil _, .arg (fun h => HX.out h.1), Below.refl _ _⟩

set_option maxHeartbeats 1000000 in
theorem qgcd_any (ao bo : Option Addr) (na ca nb cb : Nat) (xs ys : List Int) (w : World) (ha : RowAt w ao na ca xs) (hb : RowAt w bo nb cb ys) :
    Calls Try.prog 31 #[.slice ao na ca, .slice bo nb cb] w fun e w' => ∃ ro m cap r k, e = .returned (.tuple #[.slice ro m cap, .int .i64 k]) ∧ RowAt w' ro m cap r ∧ Out (May xs ∧ May ys) False (gcdI (val xs) (val ys)) r k ∧ Below w.heap.size w w' := by
  have HA : Hid (RowAt w ao na ca xs) := ha
  have HB : Hid (RowAt w bo nb cb ys) := hb
  have la := ha.len
  have lb := hb.len
  clear ha hb
  by_cases hx : May xs
  · have hna : na ≤ 8 := by have := hx.1; omega
    have HX : Hid (May xs) := hx
    clear hx
    by_cases hy : May ys
    · have hnb : nb ≤ 8 := by have := hy.1; omega
      have HY : Hid (May ys) := hy
      have hz := val_zero HB.out.limbs hy lb
      have hzx := val_zero HA.out.limbs HX.out la
      clear hy la lb
      clear hz hzx
      go_enter Try.func31, Try.ntmps31
      go_wp2_with fail
      refine (may_val _ _ _ xs _ HA.out true (yes_iff HX.out)).mono ?_
      rintro e w1 ⟨rfl, rfl⟩
      go_wp2_with fail
      refine (may_val _ _ _ ys _ HB.out true (yes_iff HY.out)).mono ?_
      rintro e w1 ⟨rfl, rfl⟩
      go_wp2_with fail
      refine (common_any _ _ _ _ _ _ xs ys _ _ _ HA.out HB.out (by omega) (by omega) (num_self HA.out.limbs HX.out) (num_self HB.out.limbs HY.out)).mono ?_
      rintro e w1 ⟨ro, rn, rc, r, rfl, d1, d2, d3⟩
      have D1 : Hid _ := d1
      have D2 : Hid (Num r (gcdI (val xs) (val ys))) := d2
      have D3 : Hid _ := d3
      clear d1 d2 d3
      go_wp2_with fail
      go_ret2
      exact ⟨ro, rn, rc, r, 0, rfl, D1.out, .fine r ⟨HX.out, HY.out⟩ (fun f => f) (gcdI_lt (val_bd HA.out.limbs).1 (val_bd HB.out.limbs).1 (HX.out.lt HA.out.limbs) (HY.out.lt HB.out.limbs)) D2.out, D3.out⟩
    · have HY : Hid (¬ May ys) := hy
      clear hy la lb
      go_enter Try.func31, Try.ntmps31
      go_wp2_with fail
      refine (may_val _ _ _ xs _ HA.out true (yes_iff HX.out)).mono ?_
      rintro e w1 ⟨rfl, rfl⟩
      go_wp2_with fail
      refine (may_val _ _ _ ys _ HB.out false (no_iff HY.out)).mono ?_
      rintro e w1 ⟨rfl, rfl⟩
      go_wp2_with fail
      go_ret2
      exact ⟨none, 0, 0, [], 1, rfl, RowAt.nil _, .arg (fun h => HY.out h.2), Below.refl _ _⟩
  · have HX : Hid (¬ May xs) := hx
    clear hx la lb
    go_enter Try.func31, Try.ntmps31
    go_wp2_with fail
    refine (may_val _ _ _ xs _ HA.out false (no_iff HX.out)).mono ?_
    rintro e w1 ⟨rfl, rfl⟩
    go_wp2_with fail
    go_ret2
    exact ⟨none, 0, 0, [], 1, rfl, RowAt.nil _, .arg (fun h => HX.out h.1), Below.refl _ _⟩

end Go.Proofs.Ytnkjfandknndkaa

/-! The reference's Sub. -/
namespace Go.Proofs.Ytnkjfandknndkaa
open Go.RowKit

theorem rsub_step {v c p q P x y s : Int} (h : v - c * P = p - q) (hs : s = x + HH - y - c) : v + (s % HH) * P - (1 - s / HH) * (P * HH) = (p + x * P) - (q + y * P) := by
  have h1 := Int.emod_add_mul_ediv s HH
  have h2 : (s % HH + HH * (s / HH)) * P = s * P := by rw [h1]
  rw [hs] at h2 ⊢
  grind

/-- What the loop of the reference's Sub holds. -/
structure RSubInv (w2 : World) (dx dy : List Int) (k g c : Nat) (cv : Int) (zs : List Int) (wr : World) : Prop where
  own : OwnR wr w2.heap.size g k c zs
  bel : Below w2.heap.size w2 wr
  halves : Halves zs
  len : zs.length = k
  c0 : 0 ≤ cv
  c1 : cv ≤ 1
  val : hval zs - cv * HH ^ k = hpv dx k - hpv dy k

theorem RSubInv.next {w2 : World} {dx dy : List Int} {k g c : Nat} {cv : Int} {zs : List Int} {wr wq : World} (h : RSubInv w2 dx dy k g c cv zs wr) (hx : Halves dx) (hy : Halves dy)
    {s : Int} (hs : s = lim dx k + 4294967296 - lim dy k - cv) (hq : Eqw wq wr) {gg cp : Nat} {w1 : World} (ho : OwnR w1 w2.heap.size gg (k + 1) cp (zs ++ [s % 4294967296])) (hg : (wq.alloc (Obj.cells #[.int .u64 (s % 4294967296)] 50)).grownBy w1 (some g)) :
    RSubInv w2 dx dy (k + 1) gg cp (1 - s / 4294967296) (zs ++ [s % 4294967296]) w1 := by
  have bx := half_bd hx k
  have bY := half_bd hy k
  have hgw := h.own.lt
  have c0 := h.c0
  have c1 := h.c1
  have hb := hq.below h.bel
  refine ⟨ho, (hb.alloc hb.size _).grown hg (by simp; have := hb.size; omega) (fun j hj => by cases hj; exact hgw.1), halves_snoc h.halves (by omega) (by unfold HH; omega), by simp [h.len], ?_, ?_, ?_⟩
  · unfold HH at bx bY; omega
  · unfold HH at bx bY; omega
  · rw [hval_snoc, h.len, hw_succ, hpv, hpv]
    exact rsub_step h.val hs

theorem Eqw.own {w' w : World} (h : Eqw w' w) {base g n cap : Nat} {zs : List Int} (ho : OwnR w base g n cap zs) : OwnR w' base g n cap zs := by
  unfold OwnR World.ownsRow at *
  rw [h.heap]
  exact ho

theorem rsub_end {dx dy zs : List Int} {L : Nat} {cv : Int} (hx : Halves dx) (hy : Halves dy) (hz : Halves zs) (lx : dx.length = L) (lz : zs.length = L) (hle : hval dy ≤ hval dx) (c0 : 0 ≤ cv) (c1 : cv ≤ 1) (h : hval zs - cv * HH ^ L = hpv dx L - hpv dy L) : hval zs = hval dx - hval dy := by
  have bx := hval_bd hx
  rw [lx] at bx
  have bz := hval_bd hz
  rw [lz] at bz
  have e1 : hpv dx L = hval dx := hpv_val dx L (by omega)
  have e2 : hpv dy L = hval dy := by
    rcases Nat.lt_or_ge dy.length L with h' | h'
    · exact hpv_val dy L (by omega)
    · have hm := (hpv_mono hy h').2
      rw [hpv_val dy dy.length (Nat.le_refl _)] at hm
      exact (hm (by omega)).symm
  rw [e1, e2] at h
  have hc : cv = 0 ∨ cv = 1 := by omega
  rcases hc with rfl | rfl
  · omega
  · omega

set_option maxRecDepth 100000 in
set_option maxHeartbeats 2000000 in
theorem rsub_ok (ao bo : Option Addr) (na ca nb cb : Nat) (xs ys : List Int) (w : World) (ha : RowAt w ao na ca xs) (hb : RowAt w bo nb cb ys) (hna : na ≤ 90000) (hnb : nb ≤ 90000) (hle : val ys ≤ val xs) :
    Calls Try.prog 62 #[.slice ao na ca, .slice bo nb cb] w fun e w' => ∃ ro m cap r, e = .returned (.tuple #[.slice ro m cap, .bool true]) ∧ RowAt w' ro m cap r ∧ Num r (val xs - val ys) ∧ Below w.heap.size w w' := by
  obtain ⟨i0, hi, hz0, hz1, hz2⟩ := info_parts Try.info50
  have HA : Hid (RowAt w ao na ca xs) := ha
  have HB : Hid (RowAt w bo nb cb ys) := hb
  have HX : Hid (Halves (hd xs) ∧ (hd xs).length = 2 * na ∧ hval (hd xs) = val xs) := ⟨hd_halves ha.limbs, by rw [hd_length, ha.len], hd_val xs⟩
  have HY : Hid (Halves (hd ys) ∧ (hd ys).length = 2 * nb ∧ hval (hd ys) = val ys) := ⟨hd_halves hb.limbs, by rw [hd_length, hb.len], hd_val ys⟩
  have HV : Hid (val ys ≤ val xs) := hle
  obtain ⟨cc, hcc⟩ : ∃ c, c = cmpI (val xs) (val ys) := ⟨_, rfl⟩
  have hc0 : ¬ cc < 0 := by rw [hcc, cmpI, if_neg (by omega)]; split <;> omega
  have HC : Hid (cc = cmpI (val xs) (val ys)) := hcc
  clear ha hb hle hcc
  go_enter Try.func62, Try.ntmps62
  go_wp2_with fail
  refine (rcmp_val _ _ _ _ _ _ xs ys _ HA.out HB.out (by omega) (by omega) cc HC.out).mono ?_
  rintro e w0 ⟨rfl, b0⟩
  have B0 : Hid (Below w.heap.size w w0) := b0
  clear b0
  go_wp2_with fail
  refine (digits_any _ _ _ xs _ (HA.out.below B0.out) (by omega)).mono ?_
  rintro e w1 ⟨xo, xc, rfl, hx1, b1⟩
  have X1 : Hid (RowAt w1 xo (2 * na) xc (hd xs)) := hx1
  have B1 : Hid (Below w.heap.size w w1) := chain B0.out b1
  clear hx1 b1 B0
  go_wp2_with fail
  refine (digits_any _ _ _ ys _ (HB.out.below B1.out) (by omega)).mono ?_
  rintro e w2 ⟨yo, yc, rfl, hy2, b2⟩
  have X2 : Hid (RowAt w2 xo (2 * na) xc (hd xs)) := X1.out.below b2
  have Y2 : Hid (RowAt w2 yo (2 * nb) yc (hd ys)) := hy2
  have B2 : Hid (Below w.heap.size w w2) := chain B1.out b2
  clear hy2 b2 X1 B1 HA HB HC hc0
  generalize hd xs = dx at *
  generalize hd ys = dy at *
  by_cases hn0 : na = 0
  · subst hn0
    have HR : Hid (RowAt (w2.alloc (Obj.cells #[] 50)) (some ⟨w2.heap.size, 0, none⟩) 0 0 []) := (OwnR.nil w2).row (by intro x hx; simp at hx)
    have hz : dx = [] := List.length_eq_zero_iff.1 HX.out.2.1
    have HE : Hid (val xs - val ys = 0) := by
      show val xs - val ys = 0
      have h1 := HX.out.2.2
      have h2 := (hval_bd HY.out.1).1
      have h3 := HV.out
      rw [hz] at h1
      simp [hval] at h1
      rw [HY.out.2.2] at h2
      omega
    clear hz
    go_wp2_with fail
    refine wp_loop_rounds 1 ?_
    rw [rounds_succ]
    go_wp2_with fail
    refine (whole_any _ _ _ [] _ HR.out (by intro x hx; simp at hx) (by omega)).mono ?_
    rintro e w3 ⟨ro, m, cp, r, rfl, h1, h2, h3, h4⟩
    go_wp2
    go_ret2
    refine ⟨ro, m, cp, r, rfl, h1, by rw [HE.out]; exact h2, chain B2.out (chain ((Below.refl _ _).alloc (Nat.le_refl _) _) h4)⟩
  · obtain ⟨b, off, rfl, hlt, hc⟩ := X2.out.cells (by intro e; have := HX.out.2.1; rw [e] at this; simp at this; omega)
    have HC : Hid (∀ j, j < 2 * na → w2.cell? ⟨b, off + j, none⟩ = some (.int .u64 (lim dx j))) := fun j hj => by rw [hc j (by rw [HX.out.2.1]; exact hj), lim_nat]
    clear hc
    go_wp2_with fail
    go_loopw [8, 9, 10, 11] (fun o cr i _ wr => ∃ (k g c : Nat) (cv : Int) (zs : List Int), k ≤ 2 * na ∧ i = .int .i64 k ∧ o = .slice (some ⟨g, 0, none⟩) k c ∧ cr = .int .u64 cv ∧ RSubInv w2 dx dy k g c cv zs wr) (fun _ _ i _ _ => 2 * na - (intOf i).toNat)
    case atStart => exact ⟨0, w2.heap.size, 0, 0, [], Nat.zero_le _, rfl, rfl, rfl, ⟨OwnR.nil w2, (Below.refl _ _).alloc (Nat.le_refl _) _, by intro x hx; simp at hx, rfl, Int.le_refl _, by omega, by simp [hval, hpv]⟩⟩
    case round =>
      obtain ⟨k, g, c, cv, zs, hkM, rfl, rfl, rfl, hinv⟩ := hrel
      have HI : Hid (RSubInv w2 dx dy k g c cv zs wr) := hinv
      have c0 := hinv.c0
      have c1 := hinv.c1
      have hsz : w2.heap.size ≤ wr.heap.size := hinv.bel.size
      by_cases hlt2 : k < 2 * na
      · have g1 : (0 : Int) ≤ (k : Int) := by omega
        have g2 : (k : Int) < ((2 * na : Nat) : Int) := by omega
        have hcx : wr.cell? ⟨b, off + k, none⟩ = some (.int .u64 (lim dx k)) := (hinv.bel.cell (p := ⟨b, off + k, none⟩) hlt).trans (HC.out k hlt2)
        have bx := half_bd HX.out.1 k
        have bY := half_bd HY.out.1 k
        obtain ⟨x, hx⟩ : ∃ x, x = lim dx k := ⟨_, rfl⟩
        rw [← hx] at bx hcx
        have EX : Hid (x = lim dx k) := hx
        unfold HH at bx bY
        have x0 := bx.1
        have x1 := bx.2
        have y0 := bY.1
        have y1 := bY.2
        have q1 : IntKind.u64.wrap (x + 4294967296) = x + 4294967296 := IntWalk.u64_in _ ⟨by omega, by omega⟩
        have q2 : IntKind.u64.wrap (x + 4294967296 - lim dy k) = x + 4294967296 - lim dy k := IntWalk.u64_in _ ⟨by omega, by omega⟩
        have q3 : IntKind.u64.wrap (x + 4294967296 - lim dy k - cv) = x + 4294967296 - lim dy k - cv := IntWalk.u64_in _ ⟨by omega, by omega⟩
        clear hinv hx bx bY
        go_wp2_with fail
        go_quiet ((go_at_call 51; exact Calls.quiet_of_same (rat_any _ _ _ dy k _ ((Y2.out.below HI.out.bel).drewN _))))
        obtain ⟨s, hs⟩ : ∃ s, s = x + 4294967296 - lim dy k - cv := ⟨_, rfl⟩
        have s0 : 0 ≤ s := by omega
        have s1 : s ≤ 8589934591 := by omega
        have HS : Hid (s = lim dx k + 4294967296 - lim dy k - cv) := by rw [hs, EX.out]; rfl
        rw [← hs]
        clear hs q1 q2 q3
        go_wp2_with (at_builtin; refine wpList_append_lies _ rfl (.tmp 38) (.tmp 41) 22 rfl w2.heap.size 50 i0 (.int .u64 0) 1 8 Try.underlying22 hi hz0 hz1 hz2 rfl (by decide) _ k (zs.map (Value.int .u64)) rfl ((((Eqw.refl wr).drewN nq).own HI.out.own).alloc _) ⟨wr.heap.size, 0, none⟩ 1 1 [.int .u64 (s % 4294967296)] rfl rfl (World.news_of_block (cs := #[.int .u64 (s % 4294967296)]) (t := 50) (fr := (0, 0)) (heap_alloc_new (wr.drewN nq) _)) (by simp [Value.oneCell']) (by omega) (by unfold maxLen; omega) (by omega) (by simp; omega) (wr.heap.size + 1) (by simp) ?_)
        intro gg cp w3 hown1 hgrow _ _
        have hr := HI.out.next HX.out.1 HY.out.1 HS.out ((Eqw.refl wr).drewN nq) (by unfold OwnR; rw [List.map_append]; exact hown1) hgrow
        have HR : Hid _ := hr
        clear hr hown1 hgrow
        go_wp2_with fail
        go_roundw
        case rel => exact ⟨k + 1, gg, cp, _, _, by omega, by go_num, rfl, rfl, HR.out⟩
        case measure => simp [intOf]; omega
      · have HR : Hid (RowAt wr (some ⟨g, 0, none⟩) k c zs) := HI.out.own.row HI.out.halves.limbs
        have HK : Hid (k = 2 * na) := by show k = 2 * na; omega
        clear hinv
        go_wp2_with fail
        refine (whole_any _ _ _ zs _ HR.out HI.out.halves (by omega)).mono ?_
        rintro e w3 ⟨ro, m, cp, r, rfl, h1, h2, h3, h4⟩
        go_wp2
        go_ret2
        refine ⟨ro, m, cp, r, rfl, h1, ?_, chain B2.out (chain HI.out.bel h4)⟩
        rw [rsub_end HX.out.1 HY.out.1 HI.out.halves (by rw [HK.out]; exact HX.out.2.1) HI.out.len (by rw [HX.out.2.2, HY.out.2.2]; exact HV.out) c0 c1 HI.out.val, HX.out.2.2, HY.out.2.2] at h2
        exact h2

set_option maxHeartbeats 400000 in
theorem rsub_no (ao bo : Option Addr) (na ca nb cb : Nat) (xs ys : List Int) (w : World) (ha : RowAt w ao na ca xs) (hb : RowAt w bo nb cb ys) (hna : na ≤ 90000) (hnb : nb ≤ 90000) (hlt : val xs < val ys) :
    Calls Try.prog 62 #[.slice ao na ca, .slice bo nb cb] w fun e w' => e = .returned (.tuple #[.slice none 0 0, .bool false]) ∧ Below w.heap.size w w' := by
  have HA : Hid (RowAt w ao na ca xs) := ha
  have HB : Hid (RowAt w bo nb cb ys) := hb
  have HC : Hid (-1 = cmpI (val xs) (val ys)) := by rw [cmpI, if_pos hlt]; rfl
  clear ha hb hlt
  go_enter Try.func62, Try.ntmps62
  go_wp2_with fail
  refine (rcmp_val _ _ _ _ _ _ xs ys _ HA.out HB.out (by omega) (by omega) (-1) HC.out).mono ?_
  rintro e w0 ⟨rfl, b0⟩
  go_wp2_with fail
  go_ret2
  exact ⟨rfl, b0⟩
end Go.Proofs.Ytnkjfandknndkaa

/-! The reference's Mul. -/
namespace Go.Proofs.Ytnkjfandknndkaa
open Go.RowKit

theorem hval_set (os : List Int) (j : Nat) (v : Int) (h : j < os.length) : hval (os.set j v) = hval os + (v - lim os j) * HH ^ j := by
  induction os generalizing j with
  | nil => simp at h
  | cons x xs ih =>
    cases j with
    | zero => simp [hval, lim]; omega
    | succ j =>
      have e : lim (x :: xs) ((j + 1 : Nat) : Int) = lim xs j := by rw [lim_nat, lim_nat]; simp
      rw [List.set_cons_succ, hval, hval, ih j (by simpa using h), e, hw_succ]
      grind

theorem hval_zeros (k : Nat) : hval (List.replicate k 0) = 0 := by
  induction k with
  | zero => rfl
  | succ k ih => rw [List.replicate_succ, hval, ih]; simp
theorem halves_zeros (k : Nat) : Halves (List.replicate k 0) := fun x hx => by rw [List.eq_of_mem_replicate hx]; exact ⟨Int.le_refl _, HH_pos⟩
theorem halves_set {os : List Int} (h : Halves os) (j : Nat) {v : Int} (h0 : 0 ≤ v) (h1 : v < HH) : Halves (os.set j v) := by
  intro x hx
  rcases List.mem_or_eq_of_mem_set hx with h' | h'
  · exact h x h'
  · rw [h']; exact ⟨h0, h1⟩

theorem half_mul {x y : Int} (hx : 0 ≤ x) (hy : 0 ≤ y) (hxB : x < HH) (hyB : y < HH) : 0 ≤ x * y ∧ x * y ≤ 18446744065119617025 := by
  refine ⟨Int.mul_nonneg hx hy, ?_⟩
  have := Int.mul_le_mul (show x ≤ 4294967295 by unfold HH at hxB; omega) (show y ≤ 4294967295 by unfold HH at hyB; omega) hy (by omega : (0 : Int) ≤ 4294967295)
  simpa using this

/-- What the inner loop of the reference's Mul holds. -/
structure RMulInv (w2 : World) (dx dy : List Int) (g c L i k : Nat) (cv : Int) (os : List Int) (wr : World) : Prop where
  own : OwnR wr w2.heap.size g L c os
  bel : Below w2.heap.size w2 wr
  halves : Halves os
  len : os.length = L
  c0 : 0 ≤ cv
  c1 : cv < HH
  val : hval os + cv * HH ^ (i + k) = hpv dx i * hval dy + lim dx i * HH ^ i * hpv dy k
  most : k ≤ dy.length + 1

theorem RMulInv.go {w2 : World} {dx dy : List Int} {g c L i k : Nat} {cv : Int} {os : List Int} {wr : World} (h : RMulInv w2 dx dy g c L i k cv os wr) (hx : Halves dx) (hy : Halves dy) (hgo : k < dy.length ∨ 0 < cv) : k ≤ dy.length := by
  rcases hgo with h' | h'
  · omega
  · rcases Nat.lt_or_ge dy.length k with hk | hk
    · exfalso
      have hv := h.val
      rw [hpv_val dy k (by omega)] at hv
      have e : hpv dx i * hval dy + lim dx i * HH ^ i * hval dy = hpv dx (i + 1) * hval dy := by rw [hpv]; grind
      rw [e] at hv
      have b1 := hpv_bd hx (i + 1)
      have b2 := hval_bd hy
      have b3 := (hval_bd h.halves).1
      have h1 : hpv dx (i + 1) * hval dy ≤ HH ^ (i + 1) * hval dy := Int.mul_le_mul_of_nonneg_right (Int.le_of_lt b1.2) b2.1
      have h2 : HH ^ (i + 1) * hval dy < HH ^ (i + 1) * HH ^ dy.length := Int.mul_lt_mul_of_pos_left b2.2 (hw_pos _)
      rw [← hw_add] at h2
      have h3 := hw_le (show i + 1 + dy.length ≤ i + k by omega)
      have h4 : (1 : Int) * HH ^ (i + k) ≤ cv * HH ^ (i + k) := Int.mul_le_mul_of_nonneg_right h' (Int.le_of_lt (hw_pos _))
      omega
    · exact hk

theorem rmul_step {v c x y P o s p q Hi K : Int} (h : v + c * P = p + x * Hi * q) (hP : P = Hi * K) (hs : s = o + x * y + c) : v + (s % HH - o) * P + s / HH * (P * HH) = p + x * Hi * (q + y * K) := by
  have h1 := Int.emod_add_mul_ediv s HH
  have h2 : (s % HH + HH * (s / HH)) * P = s * P := by rw [h1]
  have h3 : x * Hi * (y * K) = x * y * P := by rw [hP]; grind
  rw [hs] at h2 ⊢
  grind

theorem RMulInv.next {w2 : World} {dx dy : List Int} {g c L i k : Nat} {cv : Int} {os : List Int} {wr wq : World} (h : RMulInv w2 dx dy g c L i k cv os wr) (hx : Halves dx) (hy : Halves dy) (hgo : k ≤ dy.length) (hL : i + k < L)
    {s : Int} (hs : s = lim os ((i + k : Nat) : Int) + lim dx i * lim dy k + cv) (hq : Eqw wq wr) :
    RMulInv w2 dx dy g c L i (k + 1) (s / 4294967296) (os.set (i + k) (s % 4294967296)) (wq.setCell ⟨g, i + k, none⟩ (.int .u64 (s % 4294967296))) := by
  have bx := half_bd hx i
  have bY := half_bd hy k
  have bo := half_bd h.halves (i + k)
  have bm := half_mul bx.1 bY.1 bx.2 bY.2
  have hgw := h.own.lt
  have c0 := h.c0
  have c1 := h.c1
  have hb := hq.below h.bel
  have hst := World.ownsRow.stored (hq.own h.own) (i + k) (.int .u64 (s % 4294967296))
  refine ⟨?_, hb.setCell hgw.1 _, halves_set h.halves _ (by omega) (by unfold HH; omega), by simp [h.len], ?_, ?_, ?_, by omega⟩
  · unfold OwnR
    rw [List.map_set]
    exact hst.1
  · generalize lim dx i * lim dy k = P at *
    unfold HH at *; omega
  · generalize lim dx i * lim dy k = P at *
    unfold HH at *; omega
  · rw [hval_set os (i + k) _ (by rw [h.len]; exact hL), ← Nat.add_assoc, hw_succ, hpv]
    exact rmul_step h.val (hw_add i k) hs

/-- What the outer loop of the reference's Mul holds. -/
structure RMulOut (w2 : World) (g c L : Nat) (v : Int) (os : List Int) (wr : World) : Prop where
  own : OwnR wr w2.heap.size g L c os
  bel : Below w2.heap.size w2 wr
  halves : Halves os
  len : os.length = L
  val : hval os = v

set_option maxRecDepth 100000 in
set_option maxHeartbeats 4000000 in
theorem rmul_any (ao bo : Option Addr) (na ca nb cb : Nat) (xs ys : List Int) (w : World) (ha : RowAt w ao na ca xs) (hb : RowAt w bo nb cb ys) (hna : na ≤ 40000) (hnb : nb ≤ 40000) :
    Calls Try.prog 27 #[.slice ao na ca, .slice bo nb cb] w fun e w' => ∃ ro m cap r, e = .returned (.slice ro m cap) ∧ RowAt w' ro m cap r ∧ Num r (val xs * val ys) ∧ Below w.heap.size w w' := by
  obtain ⟨i0, hi, hz0, hz1, hz2⟩ := info_parts Try.info50
  have HA : Hid (RowAt w ao na ca xs) := ha
  have HB : Hid (RowAt w bo nb cb ys) := hb
  have HX : Hid (Halves (hd xs) ∧ (hd xs).length = 2 * na ∧ hval (hd xs) = val xs) := ⟨hd_halves ha.limbs, by rw [hd_length, ha.len], hd_val xs⟩
  have HY : Hid (Halves (hd ys) ∧ (hd ys).length = 2 * nb ∧ hval (hd ys) = val ys) := ⟨hd_halves hb.limbs, by rw [hd_length, hb.len], hd_val ys⟩
  clear ha hb
  go_enter Try.func27, Try.ntmps27
  go_wp2_with fail
  refine (digits_any _ _ _ xs _ HA.out (by omega)).mono ?_
  rintro e w1 ⟨xo, xc, rfl, hx1, b1⟩
  have X1 : Hid (RowAt w1 xo (2 * na) xc (hd xs)) := hx1
  have B1 : Hid (Below w.heap.size w w1) := b1
  clear hx1 b1
  go_wp2_with fail
  refine (digits_any _ _ _ ys _ (HB.out.below B1.out) (by omega)).mono ?_
  rintro e w2 ⟨yo, yc, rfl, hy2, b2⟩
  have X2 : Hid (RowAt w2 xo (2 * na) xc (hd xs)) := X1.out.below b2
  have Y2 : Hid (RowAt w2 yo (2 * nb) yc (hd ys)) := hy2
  have B2 : Hid (Below w.heap.size w w2) := chain B1.out b2
  clear hy2 b2 X1 B1 HA HB
  generalize hd xs = dx at *
  generalize hd ys = dy at *
  obtain ⟨L, hL⟩ : ∃ L, L = 2 * na + 2 * nb + 1 := ⟨_, rfl⟩
  have hL1 : L ≤ 2 * na + 2 * nb + 1 := by omega
  have hL2 : 2 * na + 2 * nb + 1 ≤ L := by omega
  clear hL
  cases xo with
  | none =>
    go_wp2_with fail
    go_loopw [7, 8] (fun o i wr => ∃ k g c : Nat, k ≤ L ∧ i = .int .i64 k ∧ o = .slice (some ⟨g, 0, none⟩) k c ∧ OwnR wr w2.heap.size g k c (List.replicate k 0) ∧ Below w2.heap.size w2 wr) (fun _ i _ => L - (intOf i).toNat)
    case atStart => exact ⟨0, w2.heap.size, 0, Nat.zero_le _, rfl, rfl, OwnR.nil w2, (Below.refl _ _).alloc (Nat.le_refl _) _⟩
    case round =>
      obtain ⟨k, g, c, hk, rfl, rfl, hown, hbel⟩ := hrel
      have HO : Hid (OwnR wr w2.heap.size g k c (List.replicate k 0)) := hown
      have HBB : Hid (Below w2.heap.size w2 wr) := hbel
      have hgw := hown.lt
      have hsz : w2.heap.size ≤ wr.heap.size := hbel.size
      clear hown hbel
      by_cases hlt1 : k < L
      · go_wp2_with (at_builtin; refine wpList_append_lies _ rfl (.tmp 28) (.tmp 29) 22 rfl w2.heap.size 50 i0 (.int .u64 0) 1 8 Try.underlying22 hi hz0 hz1 hz2 rfl (by decide) _ k ((List.replicate k (0 : Int)).map (Value.int .u64)) rfl (HO.out.alloc _) ⟨wr.heap.size, 0, none⟩ 1 1 [.int .u64 0] rfl rfl (World.news_of_block (cs := #[.int .u64 0]) (t := 50) (fr := (0, 0)) (heap_alloc_new wr _)) (by simp [Value.oneCell']) (by omega) (by unfold maxLen; omega) (by omega) (by simp; omega) (wr.heap.size + 1) (by simp) ?_)
        intro gg cp w3 hown1 hgrow _ _
        have HN : Hid (OwnR w3 w2.heap.size gg (k + 1) cp (List.replicate (k + 1) 0)) := by
          show OwnR w3 w2.heap.size gg (k + 1) cp (List.replicate (k + 1) 0)
          unfold OwnR
          rw [List.replicate_succ', List.map_append]
          simpa using hown1
        have HG : Hid (Below w2.heap.size w2 w3) := (HBB.out.alloc hsz _).grown hgrow (by simp; omega) (fun j hj => by cases hj; exact hgw.1)
        clear hown1 hgrow
        go_wp2_with fail
        go_roundw
        case rel => exact ⟨k + 1, gg, cp, by omega, by go_num, rfl, HN.out, HG.out⟩
        case measure => simp [intOf]; omega
      · have hkL : L = k := by omega
        have HO2 : Hid (OwnR wr w2.heap.size g (L) c (List.replicate (L) 0)) := by
          show OwnR wr w2.heap.size g (L) c (List.replicate (L) 0)
          rw [hkL]; exact HO.out
        subst hkL
        clear HO
        have OS0 : Hid (RMulOut w2 g c (L) (hpv dx 0 * hval dy) (List.replicate (L) 0) wr) := ⟨HO2.out, HBB.out, halves_zeros _, by simp, by rw [hval_zeros]; simp [hpv]⟩
        clear HO2 HBB
        go_wp2_with fail
        go_loopw [9, 10, 11, 12] (fun ii _ _ _ wr => ∃ (i : Nat) (os : List Int), i ≤ 2 * na ∧ ii = .int .i64 i ∧ RMulOut w2 g c (L) (hpv dx i * hval dy) os wr) (fun ii _ _ _ _ => 2 * na - (intOf ii).toNat)
        case atStart => exact ⟨0, _, Nat.zero_le _, rfl, OS0.out⟩
        case round =>
          obtain ⟨i, os, hiM, rfl, hos⟩ := hrel
          clear OS0 hgw hsz
          by_cases hlt2 : i < 2 * na
          · exfalso
            have h1 := X2.out.bare rfl
            have h2 := X2.out.fits
            omega
          · have OS : Hid (RMulOut w2 g c (L) (val xs * val ys) os wr) := by
              show RMulOut w2 g c (L) (val xs * val ys) os wr
              rw [hpv_val dx i (by have := HX.out.2.1; omega), HX.out.2.2, HY.out.2.2] at hos
              exact hos
            clear hos
            go_wp2_with fail
            refine (whole_any _ _ _ os _ (OS.out.own.row OS.out.halves.limbs) OS.out.halves (by omega)).mono ?_
            rintro e w4 ⟨ro, m, cp, r, rfl, h1, h2, h3, h4⟩
            go_wp2
            go_ret
            refine ⟨ro, m, cp, r, rfl, h1, ?_, chain B2.out (chain OS.out.bel h4)⟩
            rw [OS.out.val] at h2
            exact h2
  | some ad =>
    go_wp2_with fail
    go_loopw [7, 8] (fun o i wr => ∃ k g c : Nat, k ≤ L ∧ i = .int .i64 k ∧ o = .slice (some ⟨g, 0, none⟩) k c ∧ OwnR wr w2.heap.size g k c (List.replicate k 0) ∧ Below w2.heap.size w2 wr) (fun _ i _ => L - (intOf i).toNat)
    case atStart => exact ⟨0, w2.heap.size, 0, Nat.zero_le _, rfl, rfl, OwnR.nil w2, (Below.refl _ _).alloc (Nat.le_refl _) _⟩
    case round =>
      obtain ⟨k, g, c, hk, rfl, rfl, hown, hbel⟩ := hrel
      have HO : Hid (OwnR wr w2.heap.size g k c (List.replicate k 0)) := hown
      have HBB : Hid (Below w2.heap.size w2 wr) := hbel
      have hgw := hown.lt
      have hsz : w2.heap.size ≤ wr.heap.size := hbel.size
      clear hown hbel
      by_cases hlt1 : k < L
      · go_wp2_with (at_builtin; refine wpList_append_lies _ rfl (.tmp 28) (.tmp 29) 22 rfl w2.heap.size 50 i0 (.int .u64 0) 1 8 Try.underlying22 hi hz0 hz1 hz2 rfl (by decide) _ k ((List.replicate k (0 : Int)).map (Value.int .u64)) rfl (HO.out.alloc _) ⟨wr.heap.size, 0, none⟩ 1 1 [.int .u64 0] rfl rfl (World.news_of_block (cs := #[.int .u64 0]) (t := 50) (fr := (0, 0)) (heap_alloc_new wr _)) (by simp [Value.oneCell']) (by omega) (by unfold maxLen; omega) (by omega) (by simp; omega) (wr.heap.size + 1) (by simp) ?_)
        intro gg cp w3 hown1 hgrow _ _
        have HN : Hid (OwnR w3 w2.heap.size gg (k + 1) cp (List.replicate (k + 1) 0)) := by
          show OwnR w3 w2.heap.size gg (k + 1) cp (List.replicate (k + 1) 0)
          unfold OwnR
          rw [List.replicate_succ', List.map_append]
          simpa using hown1
        have HG : Hid (Below w2.heap.size w2 w3) := (HBB.out.alloc hsz _).grown hgrow (by simp; omega) (fun j hj => by cases hj; exact hgw.1)
        clear hown1 hgrow
        go_wp2_with fail
        go_roundw
        case rel => exact ⟨k + 1, gg, cp, by omega, by go_num, rfl, HN.out, HG.out⟩
        case measure => simp [intOf]; omega
      · have hkL : L = k := by omega
        have HO2 : Hid (OwnR wr w2.heap.size g (L) c (List.replicate (L) 0)) := by
          show OwnR wr w2.heap.size g (L) c (List.replicate (L) 0)
          rw [hkL]; exact HO.out
        subst hkL
        clear HO
        have OS0 : Hid (RMulOut w2 g c (L) (hpv dx 0 * hval dy) (List.replicate (L) 0) wr) := ⟨HO2.out, HBB.out, halves_zeros _, by simp, by rw [hval_zeros]; simp [hpv]⟩
        clear HO2 HBB
        go_wp2_with fail
        go_loopw [9, 10, 11, 12] (fun ii _ _ _ wr => ∃ (i : Nat) (os : List Int), i ≤ 2 * na ∧ ii = .int .i64 i ∧ RMulOut w2 g c (L) (hpv dx i * hval dy) os wr) (fun ii _ _ _ _ => 2 * na - (intOf ii).toNat)
        case atStart => exact ⟨0, _, Nat.zero_le _, rfl, OS0.out⟩
        case round =>
          obtain ⟨i, os, hiM, rfl, hos⟩ := hrel
          clear OS0 hgw hsz
          by_cases hlt2 : i < 2 * na
          · have OS : Hid (RMulOut w2 g c (L) (hpv dx i * hval dy) os wr) := hos
            clear hos
            obtain ⟨b, off, e, hlt, hc⟩ := X2.out.cells (by intro e; have := HX.out.2.1; rw [e] at this; simp at this; omega)
            cases e
            have HC : Hid (∀ j, j < 2 * na → w2.cell? ⟨b, off + j, none⟩ = some (.int .u64 (lim dx j))) := fun j hj => by rw [hc j (by rw [HX.out.2.1]; exact hj), lim_nat]
            clear hc
            have g3 : (0 : Int) ≤ (i : Int) := by omega
            have g4 : (i : Int) < 2 * (na : Int) := by omega
            go_wp2_with fail
            go_loopw [10, 11, 12] (fun cr kk _ wr => ∃ (k : Nat) (cv : Int) (os : List Int), kk = .int .i64 k ∧ cr = .int .u64 cv ∧ RMulInv w2 dx dy g c (L) i k cv os wr) (fun _ kk _ _ => 2 * nb + 2 - (intOf kk).toNat)
            case atStart => exact ⟨0, 0, os, rfl, rfl, ⟨OS.out.own, OS.out.bel, OS.out.halves, OS.out.len, Int.le_refl _, HH_pos, by rw [OS.out.val]; simp [hpv], Nat.zero_le _⟩⟩
            case round =>
              obtain ⟨k, cv, ps, rfl, rfl, hinv⟩ := hrel
              have HI : Hid (RMulInv w2 dx dy g c (L) i k cv ps wr) := hinv
              have hkM : k ≤ 2 * nb + 1 := by have := hinv.most; have := HY.out.2.1; omega
              have c0 := hinv.c0
              have c1 : cv ≤ 4294967295 := by have := hinv.c1; unfold HH at this; omega
              have hsz : w2.heap.size ≤ wr.heap.size := hinv.bel.size
              have round : (k < dy.length ∨ 0 < cv) → k ≤ 2 * nb ∧ wr.cell? ⟨g, i + k, none⟩ = some (.int .u64 (lim ps ((i + k : Nat) : Int))) ∧ wr.frozen? ⟨g, i + k, none⟩ = false ∧ wr.cell? ⟨b, off + i, none⟩ = some (.int .u64 (lim dx i)) := fun hgo => by
                have h1 := hinv.go HX.out.1 HY.out.1 hgo
                have h2 := HY.out.2.1
                refine ⟨by omega, ?_, World.ownsRow.frozenAt hinv.own _, (hinv.bel.cell (p := ⟨b, off + i, none⟩) hlt).trans (HC.out i hlt2)⟩
                rw [World.ownsRow.cellAt hinv.own (i + k) (by omega), lim_nat]
                have h3 : i + k < ps.length := by rw [hinv.len]; omega
                simp [h3]
              have RD : Hid _ := round
              have bx := half_bd HX.out.1 i
              have bY := half_bd HY.out.1 k
              have bo := half_bd hinv.halves (i + k)
              have bm := half_mul bx.1 bY.1 bx.2 bY.2
              obtain ⟨x, hx⟩ : ∃ x, x = lim dx i := ⟨_, rfl⟩
              obtain ⟨q, hq⟩ : ∃ q, q = lim ps ((i + k : Nat) : Int) := ⟨_, rfl⟩
              rw [← hx] at bm
              rw [← hq] at bo
              have EX : Hid (x = lim dx i) := hx
              have EQ : Hid (q = lim ps ((i + k : Nat) : Int)) := hq
              have q0 := bo.1
              have q1 : q ≤ 4294967295 := by have := bo.2; unfold HH at this; omega
              have m0 := bm.1
              have m1 := bm.2
              have hw0 : IntKind.i64.wrap ((i : Int) + (k : Int)) = ((i + k : Nat) : Int) := by rw [IntWalk.i64_in _ ⟨by omega, by omega⟩]; omega
              have hw1 : IntKind.u64.wrap (x * lim dy k) = x * lim dy k := IntWalk.u64_in _ ⟨by omega, by omega⟩
              have hw2 : IntKind.u64.wrap (q + x * lim dy k) = q + x * lim dy k := IntWalk.u64_in _ ⟨by omega, by omega⟩
              have hw3 : IntKind.u64.wrap (q + x * lim dy k + cv) = q + x * lim dy k + cv := IntWalk.u64_in _ ⟨by omega, by omega⟩
              clear hinv round hx hq bx bY bo bm
              by_cases t1 : (k : Int) < ((2 * nb : Nat) : Int)
              · obtain ⟨k1, hcg, hfg, hcx⟩ := RD.out (Or.inl (by have := HY.out.2.1; omega))
                rw [← EQ.out] at hcg
                rw [← EX.out] at hcx
                have g1 : (0 : Int) ≤ ((i + k : Nat) : Int) := by omega
                have g2 : ((i + k : Nat) : Int) < (L : Int) := by omega
                go_wp2_with fail
                go_quiet ((go_at_call 51; exact Calls.quiet_of_same (rat_any _ _ _ dy k _ ((Y2.out.below HI.out.bel).drewN _))))
                obtain ⟨s, hs⟩ : ∃ s, s = q + x * lim dy k + cv := ⟨_, rfl⟩
                have s0 : 0 ≤ s := by omega
                have s1 : s ≤ 18446744073709551615 := by omega
                have HS : Hid (s = lim ps ((i + k : Nat) : Int) + lim dx i * lim dy k + cv) := by rw [hs, EX.out, EQ.out]; rfl
                rw [← hs]
                clear hs hw0 hw1 hw2 hw3 m0 m1
                have NX : Hid _ := HI.out.next HX.out.1 HY.out.1 (by have := HY.out.2.1; omega) (by omega) HS.out ((Eqw.refl wr).drewN nq)
                go_wp2_with fail
                go_roundw
                case rel => exact ⟨k + 1, _, _, by go_num, rfl, NX.out⟩
                case measure => simp [intOf]; omega
              · by_cases t2 : 0 < cv
                · obtain ⟨k1, hcg, hfg, hcx⟩ := RD.out (Or.inr t2)
                  rw [← EQ.out] at hcg
                  rw [← EX.out] at hcx
                  have g1 : (0 : Int) ≤ ((i + k : Nat) : Int) := by omega
                  have g2 : ((i + k : Nat) : Int) < (L : Int) := by omega
                  go_wp2_with fail
                  go_quiet ((go_at_call 51; exact Calls.quiet_of_same (rat_any _ _ _ dy k _ ((Y2.out.below HI.out.bel).drewN _))))
                  obtain ⟨s, hs⟩ : ∃ s, s = q + x * lim dy k + cv := ⟨_, rfl⟩
                  have s0 : 0 ≤ s := by omega
                  have s1 : s ≤ 18446744073709551615 := by omega
                  have HS : Hid (s = lim ps ((i + k : Nat) : Int) + lim dx i * lim dy k + cv) := by rw [hs, EX.out, EQ.out]; rfl
                  rw [← hs]
                  clear hs hw0 hw1 hw2 hw3 m0 m1
                  have NX : Hid _ := HI.out.next HX.out.1 HY.out.1 (by have := HY.out.2.1; omega) (by omega) HS.out ((Eqw.refl wr).drewN nq)
                  go_wp2_with fail
                  go_roundw
                  case rel => exact ⟨k + 1, _, _, by go_num, rfl, NX.out⟩
                  case measure => simp [intOf]; omega
                · have NX : Hid (RMulOut w2 g c (L) (hpv dx (i + 1) * hval dy) ps wr) := by
                    have hv := HI.out.val
                    have e : hpv dx i * hval dy + lim dx i * HH ^ i * hval dy = hpv dx (i + 1) * hval dy := by rw [hpv]; grind
                    rw [show cv = 0 by omega, hpv_val dy k (by have := HY.out.2.1; omega), e] at hv
                    exact ⟨HI.out.own, HI.out.bel, HI.out.halves, HI.out.len, by simpa using hv⟩
                  clear hw0 hw1 hw2 hw3 m0 m1
                  go_wp2_with fail
                  go_roundw
                  case rel => exact ⟨i + 1, _, by omega, by go_num, NX.out⟩
                  case measure => simp [intOf]; omega
          · have OS : Hid (RMulOut w2 g c (L) (val xs * val ys) os wr) := by
              show RMulOut w2 g c (L) (val xs * val ys) os wr
              rw [hpv_val dx i (by have := HX.out.2.1; omega), HX.out.2.2, HY.out.2.2] at hos
              exact hos
            clear hos
            go_wp2_with fail
            refine (whole_any _ _ _ os _ (OS.out.own.row OS.out.halves.limbs) OS.out.halves (by omega)).mono ?_
            rintro e w4 ⟨ro, m, cp, r, rfl, h1, h2, h3, h4⟩
            go_wp2
            go_ret
            refine ⟨ro, m, cp, r, rfl, h1, ?_, chain B2.out (chain OS.out.bel h4)⟩
            rw [OS.out.val] at h2
            exact h2
end Go.Proofs.Ytnkjfandknndkaa

/-! The reference's division, half a limb at a time, as arithmetic: no program. -/
namespace Go.Proofs.Ytnkjfandknndkaa
open Go.RowKit

/-- What the reference's loop holds ahead of the place k - 1. -/
structure RInv (ds : List Int) (V : Int) (L k : Nat) (qs : List Int) (rv : Int) : Prop where
  len : qs.length = L
  halves : Halves qs
  r0 : 0 ≤ rv
  r1 : rv < V
  zeros : ∀ j : Nat, j < k → lim qs j = 0
  eq : hval ds = hval qs * V + rv * HH ^ k + hpv ds k

theorem rinv_start {ds : List Int} {V : Int} {L : Nat} (hV : 0 < V) (hL : ds.length = L) : RInv ds V L L (List.replicate L 0) 0 :=
  ⟨by simp, halves_zeros L, Int.le_refl _, hV, fun j _ => lim_zeros L j, by rw [hval_zeros, hpv_val ds L (by omega)]; simp⟩

theorem rinv_big {ds : List Int} {V : Int} {L k : Nat} {qs : List Int} {rv : Int} (h : RInv ds V L (k + 1) qs rv) (hd : Halves ds) : 0 ≤ rv * HH + lim ds k ∧ rv * HH + lim ds k < V * HH := by
  have hb := half_bd hd k
  have h0 := h.r0
  have h1 : rv + 1 ≤ V := h.r1
  have h2 := Int.mul_le_mul_of_nonneg_right h1 (Int.le_of_lt HH_pos)
  have h3 := Int.mul_nonneg h0 (Int.le_of_lt HH_pos)
  rw [Int.add_mul, Int.one_mul] at h2
  omega

theorem rinv_skip {ds : List Int} {V : Int} {L k : Nat} {qs : List Int} {rv tv : Int} (h : RInv ds V L (k + 1) qs rv) (hd : Halves ds) (ht : tv = rv * HH + lim ds k) (hlt : tv < V) : RInv ds V L k qs tv := by
  have hb := rinv_big h hd
  refine ⟨h.len, h.halves, by omega, hlt, fun j hj => h.zeros j (by omega), ?_⟩
  rw [h.eq, ht, hpv, hw_succ]
  grind

theorem rinv_next {ds : List Int} {V : Int} {L k : Nat} {qs : List Int} {rv tv d : Int} (h : RInv ds V L (k + 1) qs rv) (hd : Halves ds) (hk : k < L) (ht : tv = rv * HH + lim ds k) (hdd : d = tv / V) : RInv ds V L k (qs.set k d) (tv - V * d) := by
  have hb := rinv_big h hd
  have hV : 0 < V := by have := h.r0; have := h.r1; omega
  have h1 := Int.emod_add_mul_ediv tv V
  have h2 := Int.emod_lt_of_pos tv hV
  have h3 := Int.emod_nonneg tv (show V ≠ 0 by omega)
  rw [← hdd] at h1
  have d0 : 0 ≤ d := by rw [hdd]; exact Int.ediv_nonneg (by omega) (by omega)
  have d1 : d < HH := by rw [hdd]; exact Int.ediv_lt_of_lt_mul hV (by rw [Int.mul_comm]; omega)
  refine ⟨by simp [h.len], halves_set h.halves k d0 d1, by omega, by omega, fun j hj => ?_, ?_⟩
  · have := h.zeros j (by omega)
    rw [lim_nat] at this ⊢
    rw [List.getD_eq_getElem?_getD, List.getElem?_set_ne (by omega), ← List.getD_eq_getElem?_getD]
    exact this
  · rw [hval_set qs k d (by rw [h.len]; exact hk), h.zeros k (by omega), h.eq, hpv, hw_succ, ht]
    grind

theorem rinv_end {ds : List Int} {V : Int} {L : Nat} {qs : List Int} {rv : Int} (h : RInv ds V L 0 qs rv) : hval qs = hval ds / V ∧ rv = hval ds % V := by
  have e := h.eq
  simp only [hpv, Int.pow_zero, Int.mul_one, Int.add_zero] at e
  have h0 := h.r0
  have h1 := h.r1
  have e2 : hval ds = rv + V * hval qs := by rw [Int.mul_comm V]; omega
  refine ⟨?_, ?_⟩
  · rw [e2, Int.add_mul_ediv_left _ _ (by omega), Int.ediv_eq_zero_of_lt h0 h1]; omega
  · rw [e2, Int.add_mul_emod_self_left, Int.emod_eq_of_lt h0 h1]

theorem OwnR.below {w w' : World} {base g n cap : Nat} {zs : List Int} (h : OwnR w base g n cap zs) (hb : Below w.heap.size w w') : OwnR w' base g n cap zs := by
  refine ⟨h.1, ?_⟩
  rcases h.2 with ⟨e, h0⟩ | ⟨g', cap', cur, e, hg, hh, hr⟩
  · cases e
  · cases e
    exact .inr ⟨g, cap, cur, rfl, hg, (hb.block g (lt_of_block hh)).trans hh, hr⟩

/-- What the reference's loop of Div holds, with what lies in memory. -/
structure RDivRel (w1 : World) (g c L j : Nat) (ds : List Int) (V : Int) (ro : Option Addr) (nr cr : Nat) (rs qs : List Int) (rv : Int) (wr : World) : Prop where
  row : RowAt wr ro nr cr rs
  num : Num rs rv
  own : OwnR wr w1.heap.size g L c qs
  bel : Below w1.heap.size w1 wr
  inv : RInv ds V L j qs rv

theorem Num.few {r : List Int} {v V : Int} {n : Nat} (h : Num r v) (hv : v < V) (hV : V ≤ BB ^ n) : r.length ≤ n := by
  rcases Nat.lt_or_ge n r.length with hg | hg
  · obtain ⟨j, hj⟩ : ∃ j, r.length = j + 1 := ⟨r.length - 1, by omega⟩
    have h1 := val_ge h.limbs h.trim j hj
    rw [h.val] at h1
    have := pw_le (show n ≤ j by omega)
    omega
  · exact hg

/-- The digit is laid, and taken off. -/
theorem RDivRel.next {w1 : World} {g c L k : Nat} {ds : List Int} {V : Int} {ro so : Option Addr} {nr cr sm sc : Nat} {rs qs ss : List Int} {rv tv d : Int} {wr w3 w5 : World} (h : RDivRel w1 g c L (k + 1) ds V ro nr cr rs qs rv wr) (hd : Halves ds) (hk : k < L) (ht : tv = rv * HH + lim ds k) (hdd : d = tv / V)
    (hb : Below wr.heap.size wr w3) (hb5 : Below w3.heap.size (w3.setCell ⟨g, k, none⟩ (.int .u64 d)) w5) (hss : RowAt w5 so sm sc ss) (hn : Num ss (tv - V * d)) :
    RDivRel w1 g c L k ds V so sm sc ss (qs.set k d) (tv - V * d) w5 := by
  have ho := h.own.below hb
  have hst := World.ownsRow.stored ho k (.int .u64 d)
  have hbs : Below (w3.setCell ⟨g, k, none⟩ (.int .u64 d)).heap.size (w3.setCell ⟨g, k, none⟩ (.int .u64 d)) w5 := by
    have e : (w3.setCell ⟨g, k, none⟩ (.int .u64 d)).heap.size = w3.heap.size := by simp [World.setCell]
    rw [e]; exact hb5
  refine ⟨hss, hn, ?_, ?_, rinv_next h.inv hd hk ht hdd⟩
  · refine OwnR.below (w := w3.setCell ⟨g, k, none⟩ (.int .u64 d)) ?_ hbs
    unfold OwnR
    rw [List.map_set]
    exact hst.1
  · have h1 := h.bel.trans (hb.mono h.bel.size)
    exact (h1.setCell (p := ⟨g, k, none⟩) h.own.lt.1 _).trans (hb5.mono h1.size)

theorem RDivRel.skip {w1 : World} {g c L k : Nat} {ds : List Int} {V : Int} {ro so : Option Addr} {nr cr sm sc : Nat} {rs qs ss : List Int} {rv tv : Int} {wr w3 : World} (h : RDivRel w1 g c L (k + 1) ds V ro nr cr rs qs rv wr) (hd : Halves ds) (ht : tv = rv * HH + lim ds k) (hlt : tv < V)
    (hb : Below wr.heap.size wr w3) (hss : RowAt w3 so sm sc ss) (hn : Num ss tv) :
    RDivRel w1 g c L k ds V so sm sc ss qs tv w3 :=
  ⟨hss, hn, h.own.below hb, h.bel.trans (hb.mono h.bel.size), rinv_skip h.inv hd ht hlt⟩

end Go.Proofs.Ytnkjfandknndkaa

/-! The reference's times: the greatest number below 2^32 that, times b, is no more than r. -/
namespace Go.Proofs.Ytnkjfandknndkaa
open Go.RowKit

theorem cmpI_le {a b : Int} (h : a ≤ b) : cmpI a b ≤ 0 := by unfold cmpI; split; omega; split <;> omega
theorem cmpI_gt {a b : Int} (h : b < a) : cmpI a b = 1 := by unfold cmpI; rw [if_neg (by omega), if_neg (by omega)]
theorem cmpI_lt {a b : Int} (h : a < b) : cmpI a b = -1 := by unfold cmpI; rw [if_pos h]
theorem cmpI_ge {a b : Int} (h : b ≤ a) : 0 ≤ cmpI a b := by unfold cmpI; rw [if_neg (by omega)]; split <;> omega

set_option maxHeartbeats 1000000 in
theorem rtimes_any (ro bo : Option Addr) (nr cr nb cb : Nat) (rs bs : List Int) (w : World) (hr : RowAt w ro nr cr rs) (hb : RowAt w bo nb cb bs) (hnr : nr ≤ 1000) (hnb : nb ≤ 1000) (hp : 0 < val bs) (hlt : val rs < val bs * 4294967296) :
    Calls Try.prog 61 #[.slice ro nr cr, .slice bo nb cb] w fun e w' => e = .returned (.int .u64 (val rs / val bs)) ∧ Below w.heap.size w w' := by
  have HR : Hid (RowAt w ro nr cr rs) := hr
  have HB : Hid (RowAt w bo nb cb bs) := hb
  have HP : Hid (0 < val bs) := hp
  have h0 : Hid (val bs * 0 ≤ val rs) := by
    show val bs * 0 ≤ val rs
    rw [Int.mul_zero]; exact (val_bd hr.limbs).1
  have h1 : Hid (val rs < val bs * 4294967296) := hlt
  clear hr hb hp hlt
  go_enter Try.func61, Try.ntmps61
  go_wp2_with fail
  go_loopg [5, 6] 4294967296 (fun k s5 s6 wr => ∃ lo hi : Int, s5 = .int .u64 lo ∧ s6 = .int .u64 hi ∧ (hi - lo).toNat ≤ k ∧ 0 ≤ lo ∧ lo < hi ∧ hi ≤ 4294967296 ∧ val bs * lo ≤ val rs ∧ val rs < val bs * hi ∧ Below w.heap.size w wr)
  case atStart => exact ⟨0, 4294967296, rfl, rfl, by omega, by omega, by omega, by omega, h0.out, h1.out, Below.refl _ _⟩
  case round =>
    clear h0 h1
    obtain ⟨lo, hi, rfl, rfl, hk, l0, l1, l2, hlo, hhi, hbel⟩ := hrel
    have HLO : Hid (val bs * lo ≤ val rs) := hlo
    have HHI : Hid (val rs < val bs * hi) := hhi
    have HBL : Hid (Below w.heap.size w wr) := hbel
    have hsz : w.heap.size ≤ wr.heap.size := hbel.size
    clear hlo hhi hbel
    by_cases hgo : 1 < hi - lo
    · obtain ⟨m, hm⟩ : ∃ m, (lo + hi) / 2 = m := ⟨_, rfl⟩
      have hm0 : lo < m := by omega
      have hm1 : m < hi := by omega
      have ht : IntKind.u64.wrap ((lo + hi).tdiv 2) = m := by
        rw [Int.tdiv_eq_ediv_of_nonneg (by omega), hm, IntKind.wrap_u64]
        omega
      have H1 : Hid (RowAt (wr.alloc (Obj.cells #[.int .u64 m] 50)) (some ⟨wr.heap.size, 0, none⟩) 1 1 [m]) := one_row wr m (by omega) (by unfold BB; omega)
      have HBA : Hid (Below w.heap.size w (wr.alloc (Obj.cells #[.int .u64 m] 50))) := HBL.out.alloc hsz _
      go_wp2_with fail
      refine (rmul_any _ _ _ _ _ _ bs [m] _ (HB.out.below HBA.out) H1.out (by omega) (by omega)).mono ?_
      rintro e w1 ⟨po, pm, pc, p, rfl, p1, p2, p3⟩
      rw [show val [m] = m by simp [val]] at p2
      have P1 : Hid (RowAt w1 po pm pc p) := p1
      have P2 : Hid (Num p (val bs * m)) := p2
      have P3 : Hid (Below w.heap.size w w1) := chain HBA.out p3
      have hpm : pm ≤ 900000 := by
        have h1 := p1.len
        have h2 : val rs < val bs * 4294967296 := Int.lt_of_lt_of_le HHI.out (Int.mul_le_mul_of_nonneg_left l2 (Int.le_of_lt HP.out))
        rcases Nat.lt_or_ge 1002 p.length with hg | hg
        · obtain ⟨j, hj⟩ : ∃ j, p.length = j + 1 := ⟨p.length - 1, by omega⟩
          have h3 := val_ge p2.limbs p2.trim j hj
          rw [p2.val] at h3
          have h4 := (val_bd HB.out.limbs).2
          rw [HB.out.len] at h4
          have h5 := pw_le (show nb + 1 ≤ j by omega)
          rw [pw_succ] at h5
          have h6 := Int.mul_le_mul_of_nonneg_left (show m ≤ BB by unfold BB; omega) (Int.le_of_lt HP.out)
          have h7 := Int.mul_lt_mul_of_pos_right h4 BB_pos
          omega
        · omega
      clear p1 p2 p3
      by_cases hle : val bs * m ≤ val rs
      · have HLE : Hid (val bs * m ≤ val rs) := hle
        obtain ⟨c, hc⟩ : ∃ c, c = cmpI (val p) (val rs) := ⟨_, rfl⟩
        have hc0 : c ≤ 0 := by rw [hc, P2.out.val]; exact cmpI_le hle
        have HC : Hid (c = cmpI (val p) (val rs)) := hc
        clear hc hle
        go_wp2_with fail
        refine (rcmp_val _ _ _ _ _ _ p rs _ P1.out (HR.out.below P3.out) (by omega) (by omega) c HC.out).mono ?_
        rintro e w2 ⟨rfl, b2⟩
        have HB2 : Hid (Below w.heap.size w w2) := chain P3.out b2
        clear b2
        go_wp2_with fail
        go_roundg ((hi - m).toNat)
        case measure => omega
        case rel => exact ⟨m, hi, rfl, rfl, Nat.le_refl _, by omega, by omega, l2, HLE.out, HHI.out, HB2.out⟩
      · have HLE : Hid (val rs < val bs * m) := Int.not_le.1 hle
        have HC : Hid ((1 : Int) = cmpI (val p) (val rs)) := by
          show (1 : Int) = cmpI (val p) (val rs)
          rw [P2.out.val, cmpI_gt HLE.out]
        clear hle
        go_wp2_with fail
        refine (rcmp_val _ _ _ _ _ _ p rs _ P1.out (HR.out.below P3.out) (by omega) (by omega) 1 HC.out).mono ?_
        rintro e w2 ⟨rfl, b2⟩
        have HB2 : Hid (Below w.heap.size w w2) := chain P3.out b2
        clear b2
        go_wp2_with fail
        go_roundg ((m - lo).toNat)
        case measure => omega
        case rel => exact ⟨lo, m, rfl, rfl, Nat.le_refl _, by omega, by omega, by omega, HLO.out, HLE.out, HB2.out⟩
    · have HE : Hid (lo = val rs / val bs) := by
        have e : hi = lo + 1 := by omega
        have h1 : lo ≤ val rs / val bs := by rw [Int.le_ediv_iff_mul_le HP.out, Int.mul_comm]; exact HLO.out
        have h2 : val rs / val bs < lo + 1 := by rw [Int.ediv_lt_iff_lt_mul HP.out, Int.mul_comm, ← e]; exact HHI.out
        show lo = val rs / val bs
        omega
      go_wp2_with fail
      go_ret
      exact ⟨ret_int HE.out, HBL.out⟩

end Go.Proofs.Ytnkjfandknndkaa

/-! The reference's Add. -/
namespace Go.Proofs.Ytnkjfandknndkaa
open Go.RowKit

theorem radd_step {v c x y p q P : Int} (h : v + c * P = p + q) : v + ((x + y + c) % HH) * P + ((x + y + c) / HH) * (P * HH) = (p + x * P) + (q + y * P) := by
  have h1 := Int.emod_add_mul_ediv (x + y + c) HH
  have h2 : ((x + y + c) % HH + HH * ((x + y + c) / HH)) * P = (x + y + c) * P := by rw [h1]
  grind

/-- What the loop of the reference's Add holds. -/
structure RAddInv (w2 : World) (dx dy : List Int) (M k g c : Nat) (cv : Int) (zs : List Int) (wr : World) : Prop where
  own : OwnR wr w2.heap.size g k c zs
  bel : Below w2.heap.size w2 wr
  halves : Halves zs
  len : zs.length = k
  c0 : 0 ≤ cv
  c1 : cv ≤ 1
  val : hval zs + cv * HH ^ k = hpv dx k + hpv dy k
  most : k ≤ M + 1
  last : k = M + 1 → cv = 0

theorem RAddInv.next {w2 : World} {dx dy : List Int} {M k g c : Nat} {cv : Int} {zs : List Int} {wr : World} (h : RAddInv w2 dx dy M k g c cv zs wr) (hx : Halves dx) (hy : Halves dy) (lx : dx.length ≤ M) (ly : dy.length ≤ M) (hgo : k < M ∨ 0 < cv)
    {s : Int} (hs : s = lim dx k + lim dy k + cv) {gg cp : Nat} {w1 : World} (ho : OwnR w1 w2.heap.size gg (k + 1) cp (zs ++ [s % 4294967296])) (hg : (wr.alloc (Obj.cells #[.int .u64 (s % 4294967296)] 50)).grownBy w1 (some g)) :
    RAddInv w2 dx dy M (k + 1) gg cp (s / 4294967296) (zs ++ [s % 4294967296]) w1 := by
  have bx := half_bd hx k
  have bY := half_bd hy k
  have hgw := h.own.lt
  have c0 := h.c0
  have c1 := h.c1
  have hsz := h.bel.size
  have hM : k ≤ M := by
    rcases Nat.lt_or_ge M k with h' | h'
    · have := h.most
      have := h.last (by omega)
      omega
    · exact h'
  refine ⟨ho, (h.bel.alloc hsz _).grown hg (by simp; omega) (fun j hj => by cases hj; exact hgw.1), halves_snoc h.halves (by omega) (by unfold HH; omega), by simp [h.len], ?_, ?_, ?_, by omega, fun e => ?_⟩
  · unfold HH at bx bY; omega
  · unfold HH at bx bY; omega
  · rw [hval_snoc, h.len, hw_succ, hpv, hpv, hs]
    exact radd_step h.val
  · have e2 : k = M := by omega
    rw [lim_past dx k (by omega), lim_past dy k (by omega)] at hs
    omega

set_option maxRecDepth 100000 in
set_option maxHeartbeats 2000000 in
theorem radd_fresh (ao bo : Option Addr) (na ca nb cb : Nat) (xs ys : List Int) (w : World) (ha : RowAt w ao na ca xs) (hb : RowAt w bo nb cb ys) (hna : na ≤ 90000) (hnb : nb ≤ 90000) :
    Calls Try.prog 59 #[.slice ao na ca, .slice bo nb cb] w fun e w' => ∃ ro m cap r, e = .returned (.slice ro m cap) ∧ RowAt w' ro m cap r ∧ Num r (val xs + val ys) ∧ Fresh w.heap.size ro ∧ Below w.heap.size w w' := by
  obtain ⟨i0, hi, hz0, hz1, hz2⟩ := info_parts Try.info50
  have HA : Hid (RowAt w ao na ca xs) := ha
  have HB : Hid (RowAt w bo nb cb ys) := hb
  have HX : Hid (Halves (hd xs) ∧ (hd xs).length = 2 * na ∧ hval (hd xs) = val xs) := ⟨hd_halves ha.limbs, by rw [hd_length, ha.len], hd_val xs⟩
  have HY : Hid (Halves (hd ys) ∧ (hd ys).length = 2 * nb ∧ hval (hd ys) = val ys) := ⟨hd_halves hb.limbs, by rw [hd_length, hb.len], hd_val ys⟩
  clear ha hb
  go_enter Try.func59, Try.ntmps59
  go_wp2_with fail
  refine (digits_any _ _ _ xs _ HA.out (by omega)).mono ?_
  rintro e w1 ⟨xo, xc, rfl, hx1, b1⟩
  have X1 : Hid (RowAt w1 xo (2 * na) xc (hd xs)) := hx1
  have B1 : Hid (Below w.heap.size w w1) := b1
  clear hx1 b1
  go_wp2_with fail
  refine (digits_any _ _ _ ys _ (HB.out.below B1.out) (by omega)).mono ?_
  rintro e w2 ⟨yo, yc, rfl, hy2, b2⟩
  have X2 : Hid (RowAt w2 xo (2 * na) xc (hd xs)) := X1.out.below b2
  have Y2 : Hid (RowAt w2 yo (2 * nb) yc (hd ys)) := hy2
  have B2 : Hid (Below w.heap.size w w2) := chain B1.out b2
  clear hy2 b2 X1 B1 HA HB
  generalize hd xs = dx at *
  generalize hd ys = dy at *
  go_wp2_with fail
  go_loopw [7, 8, 9, 10] (fun o cr i _ wr => ∃ (k g c : Nat) (cv : Int) (zs : List Int), i = .int .i64 k ∧ o = .slice (some ⟨g, 0, none⟩) k c ∧ cr = .int .u64 cv ∧ RAddInv w2 dx dy (max (2 * na) (2 * nb)) k g c cv zs wr) (fun _ _ i _ _ => max (2 * na) (2 * nb) + 2 - (intOf i).toNat)
  case atStart => exact ⟨0, w2.heap.size, 0, 0, [], rfl, rfl, rfl, ⟨OwnR.nil w2, (Below.refl _ _).alloc (Nat.le_refl _) _, by intro x hx; simp at hx, rfl, Int.le_refl _, by omega, by simp [hval, hpv], by omega, fun _ => rfl⟩⟩
  case round =>
    obtain ⟨k, g, c, cv, zs, rfl, rfl, rfl, hinv⟩ := hrel
    have HI : Hid (RAddInv w2 dx dy (max (2 * na) (2 * nb)) k g c cv zs wr) := hinv
    have hkM := hinv.most
    have c0 := hinv.c0
    have c1 := hinv.c1
    have hsz : w2.heap.size ≤ wr.heap.size := hinv.bel.size
    have bx := half_bd HX.out.1 k
    have bY := half_bd HY.out.1 k
    obtain ⟨x, hx⟩ : ∃ x, x = lim dx k := ⟨_, rfl⟩
    obtain ⟨y, hy⟩ : ∃ y, y = lim dy k := ⟨_, rfl⟩
    rw [← hx] at bx
    rw [← hy] at bY
    have EX : Hid (x = lim dx k) := hx
    have EY : Hid (y = lim dy k) := hy
    unfold HH at bx bY
    have x0 := bx.1
    have x1 := bx.2
    have y0 := bY.1
    have y1 := bY.2
    clear hinv hx hy bx bY
    by_cases t1 : (k : Int) < ((2 * na : Nat) : Int)
    · go_wp2_with fail
      refine (rat_any _ _ _ dx k _ (X2.out.below HI.out.bel)).mono ?_
      rintro e w3 ⟨rfl, hw⟩
      rw [hw, ← EX.out]
      clear hw
      go_wp2_with fail
      refine (rat_any _ _ _ dy k _ (Y2.out.below HI.out.bel)).mono ?_
      rintro e w3 ⟨rfl, hw⟩
      rw [hw, ← EY.out]
      clear hw
      go_wp2_with (at_builtin; refine wpList_append_lies _ rfl (.tmp 41) (.tmp 44) 22 rfl w2.heap.size 50 i0 (.int .u64 0) 1 8 Try.underlying22 hi hz0 hz1 hz2 rfl (by decide) _ k (zs.map (Value.int .u64)) rfl (HI.out.own.alloc _) ⟨wr.heap.size, 0, none⟩ 1 1 [.int .u64 ((x + y + cv) % 4294967296)] rfl rfl (World.news_of_block (cs := #[.int .u64 ((x + y + cv) % 4294967296)]) (t := 50) (fr := (0, 0)) (heap_alloc_new wr _)) (by simp [Value.oneCell']) (by omega) (by unfold maxLen; omega) (by omega) (by simp; omega) (wr.heap.size + 1) (by simp) ?_)
      intro gg cp w3 hown1 hgrow _ _
      have hr := HI.out.next HX.out.1 HY.out.1 (by have := HX.out.2.1; omega) (by have := HY.out.2.1; omega) (by omega) (s := x + y + cv) (by rw [EX.out, EY.out]) (by unfold OwnR; rw [List.map_append]; exact hown1) hgrow
      have HR : Hid _ := hr
      clear hr hown1 hgrow
      go_wp2_with fail
      go_roundw
      case rel => exact ⟨k + 1, gg, cp, _, _, by go_num, rfl, rfl, HR.out⟩
      case measure => simp [intOf]; omega
    · by_cases t2 : (k : Int) < ((2 * nb : Nat) : Int)
      · go_wp2_with fail
        refine (rat_any _ _ _ dx k _ (X2.out.below HI.out.bel)).mono ?_
        rintro e w3 ⟨rfl, hw⟩
        rw [hw, ← EX.out]
        clear hw
        go_wp2_with fail
        refine (rat_any _ _ _ dy k _ (Y2.out.below HI.out.bel)).mono ?_
        rintro e w3 ⟨rfl, hw⟩
        rw [hw, ← EY.out]
        clear hw
        go_wp2_with (at_builtin; refine wpList_append_lies _ rfl (.tmp 41) (.tmp 44) 22 rfl w2.heap.size 50 i0 (.int .u64 0) 1 8 Try.underlying22 hi hz0 hz1 hz2 rfl (by decide) _ k (zs.map (Value.int .u64)) rfl (HI.out.own.alloc _) ⟨wr.heap.size, 0, none⟩ 1 1 [.int .u64 ((x + y + cv) % 4294967296)] rfl rfl (World.news_of_block (cs := #[.int .u64 ((x + y + cv) % 4294967296)]) (t := 50) (fr := (0, 0)) (heap_alloc_new wr _)) (by simp [Value.oneCell']) (by omega) (by unfold maxLen; omega) (by omega) (by simp; omega) (wr.heap.size + 1) (by simp) ?_)
        intro gg cp w3 hown1 hgrow _ _
        have hr := HI.out.next HX.out.1 HY.out.1 (by have := HX.out.2.1; omega) (by have := HY.out.2.1; omega) (by omega) (s := x + y + cv) (by rw [EX.out, EY.out]) (by unfold OwnR; rw [List.map_append]; exact hown1) hgrow
        have HR : Hid _ := hr
        clear hr hown1 hgrow
        go_wp2_with fail
        go_roundw
        case rel => exact ⟨k + 1, gg, cp, _, _, by go_num, rfl, rfl, HR.out⟩
        case measure => simp [intOf]; omega
      · by_cases t3 : 0 < cv
        · go_wp2_with fail
          refine (rat_any _ _ _ dx k _ (X2.out.below HI.out.bel)).mono ?_
          rintro e w3 ⟨rfl, hw⟩
          rw [hw, ← EX.out]
          clear hw
          go_wp2_with fail
          refine (rat_any _ _ _ dy k _ (Y2.out.below HI.out.bel)).mono ?_
          rintro e w3 ⟨rfl, hw⟩
          rw [hw, ← EY.out]
          clear hw
          go_wp2_with (at_builtin; refine wpList_append_lies _ rfl (.tmp 41) (.tmp 44) 22 rfl w2.heap.size 50 i0 (.int .u64 0) 1 8 Try.underlying22 hi hz0 hz1 hz2 rfl (by decide) _ k (zs.map (Value.int .u64)) rfl (HI.out.own.alloc _) ⟨wr.heap.size, 0, none⟩ 1 1 [.int .u64 ((x + y + cv) % 4294967296)] rfl rfl (World.news_of_block (cs := #[.int .u64 ((x + y + cv) % 4294967296)]) (t := 50) (fr := (0, 0)) (heap_alloc_new wr _)) (by simp [Value.oneCell']) (by omega) (by unfold maxLen; omega) (by omega) (by simp; omega) (wr.heap.size + 1) (by simp) ?_)
          intro gg cp w3 hown1 hgrow _ _
          have hr := HI.out.next HX.out.1 HY.out.1 (by have := HX.out.2.1; omega) (by have := HY.out.2.1; omega) (by omega) (s := x + y + cv) (by rw [EX.out, EY.out]) (by unfold OwnR; rw [List.map_append]; exact hown1) hgrow
          have HR : Hid _ := hr
          clear hr hown1 hgrow
          go_wp2_with fail
          go_roundw
          case rel => exact ⟨k + 1, gg, cp, _, _, by go_num, rfl, rfl, HR.out⟩
          case measure => simp [intOf]; omega
        · have HR : Hid (RowAt wr (some ⟨g, 0, none⟩) k c zs) := HI.out.own.row HI.out.halves.limbs
          go_wp2_with fail
          refine (whole_fresh _ _ _ zs _ HR.out HI.out.halves (by omega)).mono ?_
          rintro e w3 ⟨ro, m, cp, r, rfl, h1, h2, h3, hf, h4⟩
          have HFR : Hid (Fresh w.heap.size ro) := hf.mono (Nat.le_trans B2.out.size HI.out.bel.size)
          clear hf
          go_wp2
          go_ret
          refine ⟨ro, m, cp, r, rfl, h1, ?_, HFR.out, chain B2.out (chain HI.out.bel h4)⟩
          have hv := HI.out.val
          rw [show cv = 0 by omega, hpv_val dx k (by have := HX.out.2.1; omega), hpv_val dy k (by have := HY.out.2.1; omega), HX.out.2.2, HY.out.2.2] at hv
          rw [show hval zs = val xs + val ys by omega] at h2
          exact h2

theorem radd_any (ao bo : Option Addr) (na ca nb cb : Nat) (xs ys : List Int) (w : World) (ha : RowAt w ao na ca xs) (hb : RowAt w bo nb cb ys) (hna : na ≤ 90000) (hnb : nb ≤ 90000) :
    Calls Try.prog 59 #[.slice ao na ca, .slice bo nb cb] w fun e w' => ∃ ro m cap r, e = .returned (.slice ro m cap) ∧ RowAt w' ro m cap r ∧ Num r (val xs + val ys) ∧ Below w.heap.size w w' :=
  (radd_fresh ao bo na ca nb cb xs ys w ha hb hna hnb).mono fun _ _ ⟨ro, m, cp, r, h1, h2, h3, _, h6⟩ => ⟨ro, m, cp, r, h1, h2, h3, h6⟩
end Go.Proofs.Ytnkjfandknndkaa

/-! The reference's Div of layer 3: both of one limb. -/
namespace Go.Proofs.Ytnkjfandknndkaa
open Go.RowKit
attribute [local go_sem ↓] Go.wp_at_zero Go.wp_at_succ

set_option maxRecDepth 100000 in
set_option maxHeartbeats 4000000 in
theorem rqdiv_one (ao bo : Option Addr) (na ca nb cb : Nat) (xs ys : List Int) (w : World) (ha : RowAt w ao na ca xs) (hb : RowAt w bo nb cb ys) (hx : May xs) (hy : May ys) (hz : val ys ≠ 0) (h1 : na = 1) (h2 : nb = 1) :
    Calls Try.prog 34 #[.slice ao na ca, .slice bo nb cb] w fun e w' => ∃ qo qn qc q ro rn rc r k, e = .returned (.tuple #[.slice qo qn qc, .slice ro rn rc, .int .i64 k]) ∧ RowAt w' qo qn qc q ∧ RowAt w' ro rn rc r ∧ DivOut xs ys q r k ∧ Below w.heap.size w w' := by
  subst h1 h2
  have HA : Hid (RowAt w ao 1 ca xs) := ha
  have HB : Hid (RowAt w bo 1 cb ys) := hb
  have HX : Hid (May xs) := hx
  have HY : Hid (May ys) := hy
  have HZ : Hid (val ys ≠ 0) := hz
  clear ha hb hx hy hz
  have lx := HA.out.len
  have lY := HB.out.len
  obtain ⟨ab, aoff, rfl, halt, hac⟩ := HA.out.cells (by intro e; rw [e] at lx; simp at lx)
  obtain ⟨bb, boff, rfl, hblt, hbc⟩ := HB.out.cells (by intro e; rw [e] at lY; simp at lY)
  have ca0 := hac 0 (by omega)
  have cb0 := hbc 0 (by omega)
  rw [← lim_nat] at ca0 cb0
  have ex : lim xs 0 = val xs := by
    rw [← pv_val xs 1 (by omega)]
    simp [pv]
  have ey : lim ys 0 = val ys := by
    rw [← pv_val ys 1 (by omega)]
    simp [pv]
  have bx := lim_bd HA.out.limbs 0
  have bY := lim_bd HB.out.limbs 0
  rw [ex] at bx
  rw [ey] at bY
  rw [show ((0 : Nat) : Int) = 0 from rfl, ex, Nat.add_zero] at ca0
  rw [show ((0 : Nat) : Int) = 0 from rfl, ey, Nat.add_zero] at cb0
  obtain ⟨x, hx⟩ : ∃ x, x = val xs := ⟨_, rfl⟩
  obtain ⟨y, hy⟩ : ∃ y, y = val ys := ⟨_, rfl⟩
  rw [← hx] at ca0 bx
  rw [← hy] at cb0 bY
  have hyn : y ≠ 0 := by rw [hy]; exact HZ.out
  obtain ⟨xq, hxq⟩ : ∃ v, x / y = v := ⟨_, rfl⟩
  obtain ⟨xr, hxr⟩ : ∃ v, x % y = v := ⟨_, rfl⟩
  have q0 : 0 ≤ xq := by rw [← hxq]; exact Int.ediv_nonneg bx.1 bY.1
  have q1 : xq < BB := by have h := Int.ediv_le_self y bx.1; have := bx.2; omega
  have r0 : 0 ≤ xr := by rw [← hxr]; exact Int.emod_nonneg x hyn
  have r1 : xr < BB := by
    have h := Int.emod_lt_of_pos x (show 0 < y by have := bY.1; omega)
    have := bY.2
    omega
  have ht1 : IntKind.u64.wrap (x.tdiv y) = xq := by
    rw [Int.tdiv_eq_ediv_of_nonneg bx.1, hxq, IntKind.wrap_u64]
    unfold BB at q1
    omega
  have ht2 : x.tmod y = xr := by rw [Int.tmod_eq_emod_of_nonneg bx.1, hxr]
  have x0 := bx.1
  have y0 := bY.1
  have x9 : x ≤ 18446744073709551615 := by have := bx.2; unfold BB at this; omega
  have y9 : y ≤ 18446744073709551615 := by have := bY.2; unfold BB at this; omega
  have QB : Hid ((0 ≤ xq ∧ xq < BB) ∧ (0 ≤ xr ∧ xr < BB)) := ⟨⟨q0, q1⟩, r0, r1⟩
  have HQR : Hid (xq = val xs / val ys ∧ xr = val xs % val ys) := by rw [← hxq, ← hxr, hx, hy]; exact ⟨rfl, rfl⟩
  clear hac hbc ex ey bx bY lx lY hxq hxr hx hy q1 r1
  go_enter Try.func34, Try.ntmps34
  go_wp2_with fail
  refine (rmay_val _ _ _ xs _ HA.out true (yes_iff HX.out)).mono ?_
  rintro e w1 ⟨rfl, rfl⟩
  go_wp2_with fail
  refine (rmay_val _ _ _ ys _ HB.out true (yes_iff HY.out)).mono ?_
  rintro e w1 ⟨rfl, rfl⟩
  go_wp2_with fail
  go_region_held3 (fun w' => w'.cell? ⟨ab, aoff, none⟩ = some (.int .u64 x) ∧ w'.cell? ⟨bb, boff, none⟩ = some (.int .u64 y)) (first | go_keep | (refine ⟨?_, ?_⟩; (rw [bz.cell (p := ⟨ab, aoff, none⟩) halt]; assumption); (rw [bz.cell (p := ⟨bb, boff, none⟩) hblt]; assumption)))
    (first
      | (go_at_call_of 38 (Value.int IntKind.u64 xq); refine (rof_any xq _ QB.out.1.1 QB.out.1.2).mono ?_; rintro e w2 ⟨qo, qm, qc, q, rfl, g1, g2, g3, g4⟩; have bz := (Below.refl w.heap.size w).drew.trans g4)
      | (go_at_call 38; refine (rof_any xr _ QB.out.2.1 QB.out.2.2).mono ?_; rintro e w3 ⟨ro, rm, rc, r, rfl, k1, k2, k3, k4⟩; have by1 := g1.below k4; have bz := bz.trans (k4.mono bz.size)))
  have T1 : Hid (RowAt w3 qo qm qc q) := by1
  have T2 : Hid (RowAt w3 ro rm rc r) := k1
  have T3 : Hid (Num q (val xs / val ys)) := by
    rw [HQR.out.1] at g2
    exact g2
  have T4 : Hid (Num r (val xs % val ys)) := by
    rw [HQR.out.2] at k2
    exact k2
  have T5 : Hid (Below w.heap.size w w3) := bz
  clear by1 g1 g2 g3 g4 k1 k2 k3 k4 bz
  go_wp2_with fail
  go_ret3
  exact ⟨qo, qm, qc, q, ro, rm, rc, r, 0, rfl, T1.out, T2.out, .fine ⟨HX.out, HY.out⟩ HZ.out T3.out T4.out, T5.out⟩

end Go.Proofs.Ytnkjfandknndkaa

/-! The reference's Div of layer 3: a divisor of several limbs. -/
namespace Go.Proofs.Ytnkjfandknndkaa
open Go.RowKit
attribute [local go_sem ↓] Go.wp_at_zero Go.wp_at_succ

theorem big10b {rs : List Int} {rv V : Int} (hn : Num rs rv) (h1 : rv < V) (h2 : V ≤ BB ^ 8) : val rs * val [(4294967296 : Int)] < BB ^ 10 := by
  rw [hn.val, show val [(4294967296 : Int)] = 4294967296 by simp [val], show (10 : Nat) = 8 + 1 + 1 from rfl, pw_succ, pw_succ]
  have h3 : rv * 4294967296 ≤ BB ^ 8 * 4294967296 := by omega
  have h4 := Int.mul_le_mul_of_nonneg_left (show (4294967296 : Int) ≤ BB by unfold BB; omega) (Int.le_of_lt (pw_pos 8))
  have h5 := Int.mul_lt_mul_of_pos_left (show (1 : Int) < BB by unfold BB; omega) (Int.mul_pos (pw_pos 8) BB_pos)
  omega
theorem few10b {ms rs : List Int} {mm : Nat} {rv V : Int} (hl : ms.length = mm) (hm : Num ms (val rs * val [(4294967296 : Int)])) (hn : Num rs rv) (h1 : rv < V) (h2 : V ≤ BB ^ 8) : mm ≤ 10 := by
  rw [← hl]; exact hm.few (big10b hn h1 h2) (Int.le_refl _)

set_option maxRecDepth 100000 in
set_option maxHeartbeats 4000000 in
theorem rqdiv_b (ao bo : Option Addr) (na ca nb cb : Nat) (xs ys : List Int) (w : World) (ha : RowAt w ao na ca xs) (hb : RowAt w bo nb cb ys) (hx : May xs) (hy : May ys) (hz : val ys ≠ 0) (h1 : na = 1) (h2 : nb ≠ 1) :
    Calls Try.prog 34 #[.slice ao na ca, .slice bo nb cb] w fun e w' => ∃ qo qn qc q ro rn rc r k, e = .returned (.tuple #[.slice qo qn qc, .slice ro rn rc, .int .i64 k]) ∧ RowAt w' qo qn qc q ∧ RowAt w' ro rn rc r ∧ DivOut xs ys q r k ∧ Below w.heap.size w w' := by
  obtain ⟨i0, hi, hz0, hz1, hz2⟩ := info_parts Try.info50
  have HA : Hid (RowAt w ao na ca xs) := ha
  have HB : Hid (RowAt w bo nb cb ys) := hb
  have HX : Hid (May xs) := hx
  have HY : Hid (May ys) := hy
  have hna : na ≤ 8 := by have := hx.1; have := ha.len; omega
  have hnb : nb ≤ 8 := by have := hy.1; have := hb.len; omega
  have HZ : Hid (val ys ≠ 0) := hz
  have h0 : nb ≠ 0 := fun e => hz ((val_zero hb.limbs hy hb.len).1 e)
  have hb0 : ((nb : Int) == 0) = false := by rw [beq_eq_false_iff_ne]; omega
  clear ha hb hx hy hz
  have h1b : ((na : Int) == 1) = true := by simp [h1]
  have h2b : ((nb : Int) == 1) = false := by rw [beq_eq_false_iff_ne]; omega
  clear h1
  go_enter Try.func34, Try.ntmps34
  go_wp2_with fail
  refine (rmay_val _ _ _ xs _ HA.out true (yes_iff HX.out)).mono ?_
  rintro e w1 ⟨rfl, rfl⟩
  go_wp2_with fail
  refine (rmay_val _ _ _ ys _ HB.out true (yes_iff HY.out)).mono ?_
  rintro e w1 ⟨rfl, rfl⟩
  go_wp2_with fail
  refine (digits_any _ _ _ xs _ HA.out (by omega)).mono ?_
  rintro e w1 ⟨xo, xc, rfl, x1, b1⟩
  have X1 : Hid (RowAt w1 xo (2 * na) xc (hd xs)) := x1
  have B1 : Hid (Below w.heap.size w w1) := b1
  clear x1 b1
  go_wp2_with fail
  go_loopg [8, 9] (2 * na) (fun k s8 s9 wr => ∃ j g c : Nat, j ≤ 2 * na ∧ 2 * na - j ≤ k ∧ s9 = .int .i64 j ∧ s8 = .slice (some ⟨g, 0, none⟩) j c ∧ OwnR wr w1.heap.size g j c (List.replicate j 0) ∧ Below w1.heap.size w1 wr)
  case atStart => exact ⟨0, w1.heap.size, 0, Nat.zero_le _, by omega, rfl, rfl, OwnR.nil w1, (Below.refl _ _).alloc (Nat.le_refl _) _⟩
  case round =>
    obtain ⟨j, g, c, hj, hjk, rfl, rfl, hown, hbel⟩ := hrel
    have HO : Hid (OwnR wr w1.heap.size g j c (List.replicate j 0)) := hown
    have HBL : Hid (Below w1.heap.size w1 wr) := hbel
    have hgw := hown.lt
    have hsz : w1.heap.size ≤ wr.heap.size := hbel.size
    clear hown hbel
    by_cases hlt1 : j < 2 * na
    · have hlt2 : (j : Int) < 2 * (na : Int) := by omega
      go_wp2_with (at_builtin; refine wpList_append_lies _ rfl (.tmp 58) (.tmp 59) 22 rfl w1.heap.size 50 i0 (.int .u64 0) 1 8 Try.underlying22 hi hz0 hz1 hz2 rfl (by decide) _ j ((List.replicate j (0 : Int)).map (Value.int .u64)) rfl (HO.out.alloc _) ⟨wr.heap.size, 0, none⟩ 1 1 [.int .u64 0] rfl rfl (World.news_of_block (cs := #[.int .u64 0]) (t := 50) (fr := (0, 0)) (heap_alloc_new wr _)) (by simp [Value.oneCell']) (by omega) (by unfold maxLen; omega) (by omega) (by simp; omega) (wr.heap.size + 1) (by simp) ?_)
      intro gg cp w3 hown1 hgrow _ _
      have HN : Hid (OwnR w3 w1.heap.size gg (j + 1) cp (List.replicate (j + 1) 0)) := by
        show OwnR w3 w1.heap.size gg (j + 1) cp (List.replicate (j + 1) 0)
        unfold OwnR
        rw [List.replicate_succ', List.map_append]
        simpa using hown1
      have HG : Hid (Below w1.heap.size w1 w3) := (HBL.out.alloc hsz _).grown hgrow (by simp; omega) (fun j hj => by cases hj; exact hgw.1)
      clear hown1 hgrow
      go_wp2_with fail
      go_roundg (gk - 1)
      case measure => omega
      case rel => exact ⟨j + 1, gg, cp, by omega, by omega, by go_num, rfl, HN.out, HG.out⟩
    · have hlt2 : ¬ (j : Int) < 2 * (na : Int) := by omega
      obtain ⟨L, hL⟩ : ∃ L, L = 2 * na := ⟨_, rfl⟩
      have hjL : j = L := by omega
      have HL : Hid (L = 2 * na) := hL
      have hLi : (2 : Int) * (na : Int) = (L : Int) := by omega
      have hLm : L ≤ 16 := by omega
      have hds : (hd xs).length = L := by rw [hd_length, HA.out.len, hL]
      have HDS : Hid ((hd xs).length = L ∧ Halves (hd xs) ∧ hval (hd xs) = val xs) := ⟨hds, hd_halves HA.out.limbs, hd_val xs⟩
      have X2 : Hid (RowAt w1 xo L xc (hd xs)) := by
        have h := X1.out
        rw [← hL] at h
        exact h
      obtain ⟨V, hV⟩ : ∃ V, V = val ys := ⟨_, rfl⟩
      have hVp : 0 < V := by
        have h1 := (val_bd HB.out.limbs).1
        have h2 := HZ.out
        omega
      have hVB : V ≤ BB ^ 8 := by rw [hV]; exact Int.le_of_lt (HY.out.lt HB.out.limbs)
      have HV : Hid (V = val ys ∧ 0 < V ∧ V ≤ BB ^ 8) := ⟨hV, hVp, hVB⟩
      have HR0 : Hid (RDivRel w1 g c L L (hd xs) V (some ⟨wr.heap.size, 0, none⟩) 0 0 [] (List.replicate L 0) 0 (wr.alloc (Obj.cells #[] 50))) :=
        ⟨(OwnR.nil wr).row (by intro x hx; simp at hx), Num.nil, by rw [← hjL]; exact HO.out.alloc _, HBL.out.alloc hsz _, rinv_start hVp hds⟩
      clear hL hds hV hVp hVB HO X1
      go_wp2_with fail
      go_loopg [10, 11] L (fun k s10 s11 wr => ∃ (j : Nat) (i : Int) (ro : Option Addr) (nr cr : Nat) (rs qs : List Int) (rv : Int), j ≤ L ∧ j ≤ k ∧ i = (j : Int) - 1 ∧ s11 = .int .i64 i ∧ s10 = .slice ro nr cr ∧ RDivRel w1 g c L j (hd xs) V ro nr cr rs qs rv wr)
      case atStart => exact ⟨L, (L : Int) - 1, _, _, _, _, _, _, Nat.le_refl _, Nat.le_refl _, rfl, by go_num, rfl, HR0.out⟩
      case round =>
        clear HR0
        obtain ⟨i1, i2, ro, nr, cr, rs, qs, rv, hjm, hjg, hij, rfl, rfl, hrel⟩ := hrel
        have HREL : Hid (RDivRel w1 g c L i1 (hd xs) V ro nr cr rs qs rv wr) := hrel
        have hnr : nr ≤ 8 := by
          have h1 := hrel.num.few hrel.inv.r1 HV.out.2.2
          have h2 := hrel.row.len
          omega
        have hsz2 : w1.heap.size ≤ wr.heap.size := hrel.bel.size
        have hgl := hrel.own.lt
        clear hrel
        cases i1 with
        | zero =>
          obtain rfl : i2 = -1 := by omega
          clear hij
          have hen := rinv_end HREL.out.inv
          rw [HDS.out.2.2, HV.out.1] at hen
          have HEN : Hid (hval qs = val xs / val ys ∧ rv = val xs % val ys) := hen
          have HQ : Hid (RowAt wr (some ⟨g, 0, none⟩) L c qs) := HREL.out.own.row HREL.out.inv.halves.limbs
          clear hen
          go_wp2_with fail
          refine (whole_any _ _ _ qs _ HQ.out HREL.out.inv.halves (by omega)).mono ?_
          rintro e w9 ⟨qo, qn, qc, q2, rfl, t1, t2, t3, t4⟩
          have T1 : Hid (RowAt w9 qo qn qc q2) := t1
          have T2 : Hid (Num q2 (val xs / val ys)) := by
            rw [HEN.out.1] at t2
            exact t2
          have T4 : Hid (Below wr.heap.size wr w9) := t4
          have T5 : Hid (Num rs (val xs % val ys)) := by
            have h := HREL.out.num
            rw [HEN.out.2] at h
            exact h
          clear t1 t2 t3 t4
          go_wp2_with fail
          go_ret3
          exact ⟨qo, qn, qc, q2, ro, nr, cr, rs, 0, rfl, T1.out, HREL.out.row.below T4.out, .fine ⟨HX.out, HY.out⟩ HZ.out T2.out T5.out, chain B1.out (HREL.out.bel.trans (T4.out.mono hsz2))⟩
        | succ k =>
          obtain rfl : i2 = (k : Int) := by omega
          clear hij
          obtain ⟨xb, xoff, rfl, hxlt, hxc⟩ := X2.out.cells (by intro e; have h := HDS.out.1; rw [e] at h; simp at h; omega)
          have hxk := hxc k (by rw [HDS.out.1]; omega)
          rw [← lim_nat] at hxk
          obtain ⟨xk, hxk'⟩ : ∃ v, v = lim (hd xs) k := ⟨_, rfl⟩
          rw [← hxk'] at hxk
          have hxr : wr.cell? ⟨xb, xoff + k, none⟩ = some (.int .u64 xk) := (HREL.out.bel.cell (p := ⟨xb, xoff + k, none⟩) hxlt).trans hxk
          have hxb : xb < wr.heap.size := Nat.lt_of_lt_of_le hxlt hsz2
          have hbx := half_bd HDS.out.2.1 k
          rw [← hxk'] at hbx
          have HXK : Hid (xk = lim (hd xs) k) := hxk'
          have x0 := hbx.1
          have x1 : xk < BB := by have := hbx.2; unfold HH at this; unfold BB; omega
          have X1' : Hid (0 ≤ xk ∧ xk < BB) := ⟨x0, x1⟩
          have hkL : (k : Int) < (L : Int) := by omega
          obtain ⟨tv, htv⟩ : ∃ v, v = rv * HH + lim (hd xs) k := ⟨_, rfl⟩
          have HTV : Hid (tv = rv * HH + lim (hd xs) k) := htv
          have htb := rinv_big HREL.out.inv HDS.out.2.1
          rw [← htv] at htb
          have HTB : Hid (0 ≤ tv ∧ tv < V * HH) := htb
          clear hxc hxk hxk' hbx htv htb x1
          go_upto_region 17 with fail
          go_cut [10] from 65 to 100 (fun s10 wx => ∃ (ro : Option Addr) (tn tc : Nat) (ts : List Int), s10 = .slice ro tn tc ∧ RowAt wx ro tn tc ts ∧ Num ts tv ∧ Fresh wr.heap.size ro ∧ Below wr.heap.size wr wx)
          case first =>
            have d0 : Below wr.heap.size wr wr.drew := (Below.refl _ _).drew
            have dP : Below wr.heap.size wr (wr.drew.alloc (Obj.cells #[.int .u64 4294967296] 50)) := d0.alloc (by simp) _
            have dX : Below wr.heap.size wr (wr.drew.alloc (Obj.cells #[.int .u64 xk] 50)) := d0.alloc (by simp) _
            have dPX : Below wr.heap.size wr ((wr.drew.alloc (Obj.cells #[.int .u64 4294967296] 50)).alloc (Obj.cells #[.int .u64 xk] 50)) := dP.alloc (by simp) _
            have dXP : Below wr.heap.size wr ((wr.drew.alloc (Obj.cells #[.int .u64 xk] 50)).alloc (Obj.cells #[.int .u64 4294967296] 50)) := dX.alloc (by simp) _
            have DP : Hid _ := dP
            have DX : Hid _ := dX
            have DPX : Hid _ := dPX
            have DXP : Hid _ := dXP
            have PB : Hid ((0 : Int) ≤ 4294967296 ∧ (4294967296 : Int) < BB) := by unfold BB; exact ⟨by omega, by omega⟩
            have o1 : RowAt (wr.drew.alloc (Obj.cells #[.int .u64 4294967296] 50)) (some ⟨wr.heap.size, 0, none⟩) 1 1 [4294967296] := one_row wr.drew _ PB.out.1 PB.out.2
            have o2 : RowAt (wr.drew.alloc (Obj.cells #[.int .u64 xk] 50)) (some ⟨wr.heap.size, 0, none⟩) 1 1 [xk] := one_row wr.drew _ X1'.out.1 X1'.out.2
            have P1 : Hid _ := o1
            have P2 : Hid (RowAt ((wr.drew.alloc (Obj.cells #[.int .u64 4294967296] 50)).alloc (Obj.cells #[.int .u64 xk] 50)) (some ⟨wr.heap.size, 0, none⟩) 1 1 [4294967296]) := o1.below ((Below.refl _ _).alloc (Nat.le_refl _) _)
            have P3 : Hid (RowAt ((wr.drew.alloc (Obj.cells #[.int .u64 xk] 50)).alloc (Obj.cells #[.int .u64 4294967296] 50)) (some ⟨wr.heap.size + 1, 0, none⟩) 1 1 [4294967296]) := by
              show RowAt ((wr.drew.alloc (Obj.cells #[.int .u64 xk] 50)).alloc (Obj.cells #[.int .u64 4294967296] 50)) (some ⟨wr.heap.size + 1, 0, none⟩) 1 1 [4294967296]
              have h := one_row (wr.drew.alloc (Obj.cells #[.int .u64 xk] 50)) 4294967296 PB.out.1 PB.out.2
              simpa using h
            have Y2 : Hid (RowAt ((wr.drew.alloc (Obj.cells #[.int .u64 4294967296] 50)).alloc (Obj.cells #[.int .u64 xk] 50)) (some ⟨wr.heap.size + 1, 0, none⟩) 1 1 [xk]) := by
              show RowAt ((wr.drew.alloc (Obj.cells #[.int .u64 4294967296] 50)).alloc (Obj.cells #[.int .u64 xk] 50)) (some ⟨wr.heap.size + 1, 0, none⟩) 1 1 [xk]
              have h := one_row (wr.drew.alloc (Obj.cells #[.int .u64 4294967296] 50)) xk X1'.out.1 X1'.out.2
              simpa using h
            have Y3 : Hid (RowAt ((wr.drew.alloc (Obj.cells #[.int .u64 xk] 50)).alloc (Obj.cells #[.int .u64 4294967296] 50)) (some ⟨wr.heap.size, 0, none⟩) 1 1 [xk]) := o2.below ((Below.refl _ _).alloc (Nat.le_refl _) _)
            clear d0 dP dX dPX dXP o1 o2
            go_region_held3 (fun w' => w'.cell? ⟨xb, xoff + k, none⟩ = some (.int .u64 xk)) (first | go_keep | (rw [bz.cell (p := ⟨xb, xoff + k, none⟩) hxb]; assumption))
              (first
                | (go_at_call 27; refine (rmul_any _ _ _ _ _ _ rs [4294967296] _ ?_ ?_ ?_ ?_).mono ?_; (first | exact HREL.out.row.below DP.out | exact HREL.out.row.below DPX.out | exact HREL.out.row.below DXP.out); (first | exact P1.out | exact P2.out | exact P3.out); omega; omega; rintro e wm ⟨mo, mm, mc, ms, rfl, m1, m2, m3⟩; (first | have bz := DP.out.trans (m3.mono DP.out.size) | have bz := DPX.out.trans (m3.mono DPX.out.size) | have bz := DXP.out.trans (m3.mono DXP.out.size)); have mf := few10b m1.len m2 HREL.out.num HREL.out.inv.r1 HV.out.2.2)
                | (go_at_call 59; refine (radd_fresh _ _ _ _ _ _ ms [xk] _ ?_ ?_ ?_ ?_).mono ?_; (first | exact m1 | exact m1.below ((Below.refl _ _).alloc (Nat.le_refl _) _)); (first | exact Y2.out.below m3 | exact Y3.out.below m3 | exact one_row wm xk X1'.out.1 X1'.out.2); omega; omega; rintro e wa ⟨no, nn, nc, ns, rfl, a1, a2, a3, a4⟩; (first | have fz := a3.mono bz.size | have fz := a3.mono (bz.alloc bz.size (Obj.cells #[.int .u64 xk] 50)).size); (first | have bz := bz.trans (a4.mono bz.size) | have bz := (bz.alloc bz.size (Obj.cells #[.int .u64 xk] 50)).trans (a4.mono (bz.alloc bz.size (Obj.cells #[.int .u64 xk] 50)).size))))
            all_goals
              have R1 : Hid (RowAt wa no nn nc ns) := a1
              have R2 : Hid (Num ns tv) := by
                rw [m2.val, HREL.out.num.val, show val [(4294967296 : Int)] = HH by simp [val, HH], show val [xk] = xk by simp [val], HXK.out, ← HTV.out] at a2
                exact a2
              have R3 : Hid (Fresh wr.heap.size no) := fz
              have R4 : Hid (Below wr.heap.size wr wa) := bz
              clear m1 m2 m3 mf a1 a2 a3 a4 fz bz P1 P2 P3 Y2 Y3 DP DX DPX DXP
              go_wp2_with fail
              go_meet
              exact ⟨no, nn, nc, ns, rfl, R1.out, R2.out, R3.out, R4.out⟩
          case rest =>
            rename World => wx
            obtain ⟨tao, tn, tc, ts, rfl, c1, c2, c3, c4⟩ := hcut
            have C1 : Hid (RowAt wx tao tn tc ts) := c1
            have C2 : Hid (Num ts tv) := c2
            have C3 : Hid (Fresh wr.heap.size tao) := c3
            have C4 : Hid (Below wr.heap.size wr wx) := c4
            have htn : tn ≤ 9 := by
              have h1 := c1.len
              have h2 := c2.few (V := BB ^ 9) (n := 9) ?_ (Int.le_refl _)
              omega
              have h3 := HTB.out.2
              have h4 := HV.out.2.2
              have h5 := Int.mul_le_mul_of_nonneg_right h4 (Int.le_of_lt HH_pos)
              have h6 := Int.mul_le_mul_of_nonneg_left (show HH ≤ BB by unfold HH BB; omega) (Int.le_of_lt (pw_pos 8))
              rw [show (9 : Nat) = 8 + 1 from rfl, pw_succ]
              omega
            have WB : Hid (Below w.heap.size w wx) := B1.out.trans ((HREL.out.bel.trans (c4.mono hsz2)).mono B1.out.size)
            have HBX : Hid (RowAt wx bo nb cb ys) := HB.out.below WB.out
            clear c1 c2 c3 c4
            by_cases hge : V ≤ tv
            · obtain ⟨cv, hcv⟩ : ∃ c, c = cmpI (val ts) (val ys) := ⟨_, rfl⟩
              have hc0 : 0 ≤ cv := by rw [hcv, C2.out.val, ← HV.out.1]; exact cmpI_ge hge
              have HC : Hid (cv = cmpI (val ts) (val ys)) := hcv
              obtain ⟨d, hd⟩ : ∃ d, d = tv / V := ⟨_, rfl⟩
              have HDD : Hid (d = tv / V) := hd
              have hd0 : 0 ≤ d := by rw [hd]; exact Int.ediv_nonneg HTB.out.1 (Int.le_of_lt HV.out.2.1)
              have hd1 : d < 4294967296 := by
                rw [hd]
                exact Int.ediv_lt_of_lt_mul HV.out.2.1 (by have h := HTB.out.2; unfold HH at h; rw [Int.mul_comm]; exact h)
              have HVD : Hid (V * d ≤ tv) := by
                have h := Int.mul_ediv_self_le (x := tv) (k := V) (by have := HV.out.2.1; omega)
                rw [← hd] at h
                exact h
              clear hcv hd hge
              go_wp2_with fail
              refine (rcmp_val _ _ _ _ _ _ ts ys _ C1.out HBX.out (by omega) (by omega) cv HC.out).mono ?_
              rintro e w2 ⟨rfl, b2⟩
              have E2 : Hid (Below wx.heap.size wx w2) := b2
              clear b2
              go_wp2_with fail
              refine (rtimes_any _ _ _ _ _ _ ts ys _ (C1.out.below E2.out) (HBX.out.below E2.out) (by omega) (by omega) (by rw [← HV.out.1]; exact HV.out.2.1) (by rw [C2.out.val, ← HV.out.1]; exact HTB.out.2)).mono ?_
              rintro e w3 ⟨rfl, b3⟩
              rw [C2.out.val, ← HV.out.1, ← HDD.out]
              have E3 : Hid (Below wr.heap.size wr w3) := C4.out.trans ((chain E2.out b3).mono C4.out.size)
              have hgw3 : g < w3.heap.size := Nat.lt_of_lt_of_le hgl.2 E3.out.size
              have hown3 := HREL.out.own.below E3.out
              have hq3 : w3.cell? ⟨g, k, none⟩ = some (.int .u64 (lim qs k)) := by
                rw [World.ownsRow.cellAt hown3 k (by omega), lim_nat]
                simp [show k < qs.length by rw [HREL.out.inv.len]; omega]
              have hf3 : w3.frozen? ⟨g, k, none⟩ = false := World.ownsRow.frozenAt hown3 k
              have T3 : Hid (RowAt w3 tao tn tc ts) := C1.out.below (chain E2.out b3)
              have hszr : wr.heap.size ≤ w3.heap.size := E3.out.size
              have TS : Hid (RowAt (w3.setCell ⟨g, k, none⟩ (.int .u64 d)) tao tn tc ts) := T3.out.far C3.out hgl.2 _ _
              have S4 : Hid (Below w.heap.size w (w3.setCell ⟨g, k, none⟩ (.int .u64 d))) := (WB.out.trans ((chain E2.out b3).mono WB.out.size)).setCell (Nat.le_trans B1.out.size hgl.1) _
              have hs4 : (w3.setCell ⟨g, k, none⟩ (.int .u64 d)).heap.size = w3.heap.size := by simp [World.setCell]
              have A4 : Hid (RowAt ((w3.setCell ⟨g, k, none⟩ (.int .u64 d)).alloc (Obj.cells #[.int .u64 d] 50)) (some ⟨w3.heap.size, 0, none⟩) 1 1 [d]) := by
                have h := one_row (w3.setCell ⟨g, k, none⟩ (.int .u64 d)) d hd0 (by unfold BB; omega)
                rw [hs4] at h
                exact h
              have L4 : Hid (Below w3.heap.size (w3.setCell ⟨g, k, none⟩ (.int .u64 d)) ((w3.setCell ⟨g, k, none⟩ (.int .u64 d)).alloc (Obj.cells #[.int .u64 d] 50))) := (Below.refl _ _).alloc (by rw [hs4]; exact Nat.le_refl _) _
              clear b3 hown3 E2
              go_wp2_with fail
              have W5 : Hid (Below w.heap.size w ((w3.setCell ⟨g, k, none⟩ (.int .u64 d)).alloc (Obj.cells #[.int .u64 d] 50))) := S4.out.trans (L4.out.mono (by have := S4.out.size; rw [hs4] at this; exact this))
              refine (rmul_any _ _ _ _ _ _ ys [d] _ (HB.out.below W5.out) A4.out (by omega) (by omega)).mono ?_
              rintro e w6 ⟨po, pm, pc, p, rfl, p1, p2, p3⟩
              rw [show val [d] = d by simp [val]] at p2
              have P1 : Hid (RowAt w6 po pm pc p) := p1
              have P2 : Hid (Num p (V * d)) := by
                rw [← HV.out.1] at p2
                exact p2
              have hpm : pm ≤ 9 := by
                have h1 := p1.len
                have h2 := P2.out.few (V := BB ^ 9) (n := 9) ?_ (Int.le_refl _)
                omega
                have h3 := HTB.out.2
                have h4 := HV.out.2.2
                have h5 := Int.mul_le_mul_of_nonneg_right h4 (Int.le_of_lt HH_pos)
                have h6 := Int.mul_le_mul_of_nonneg_left (show HH ≤ BB by unfold HH BB; omega) (Int.le_of_lt (pw_pos 8))
                have h7 := HVD.out
                rw [show (9 : Nat) = 8 + 1 from rfl, pw_succ]
                omega
              have hsa : w3.heap.size ≤ ((w3.setCell ⟨g, k, none⟩ (.int .u64 d)).alloc (Obj.cells #[.int .u64 d] 50)).heap.size := by
                have := L4.out.size
                rw [hs4] at this
                exact this
              have L6 : Hid (Below w3.heap.size (w3.setCell ⟨g, k, none⟩ (.int .u64 d)) w6) := L4.out.trans (p3.mono hsa)
              have TS6 : Hid (RowAt w6 tao tn tc ts) := TS.out.below (by rw [hs4]; exact L6.out)
              clear p1 p2 p3 hsa W5
              go_wp2_with fail
              refine (rsub_ok _ _ _ _ _ _ ts p _ TS6.out P1.out (by omega) (by omega) (by rw [P2.out.val, C2.out.val]; exact HVD.out)).mono ?_
              rintro e w7 ⟨so, sm, sc, ss, rfl, q1, q2, q3⟩
              rw [P2.out.val, C2.out.val] at q2
              have Q1 : Hid (RowAt w7 so sm sc ss) := q1
              have Q2 : Hid (Num ss (tv - V * d)) := q2
              have L7 : Hid (Below w3.heap.size (w3.setCell ⟨g, k, none⟩ (.int .u64 d)) w7) := L6.out.trans (q3.mono (by have := L6.out.size; rw [hs4] at this; exact this))
              clear q1 q2 q3
              go_wp2_with fail
              go_roundg k
              case measure => omega
              case rel => exact ⟨k, _, so, sm, sc, ss, _, _, by omega, Nat.le_refl _, rfl, rfl, rfl, HREL.out.next HDS.out.2.1 (by omega) HTV.out HDD.out E3.out L7.out Q1.out Q2.out⟩
            · have HLT : Hid (tv < V) := Int.not_le.1 hge
              have HC : Hid ((-1 : Int) = cmpI (val ts) (val ys)) := by
                show (-1 : Int) = cmpI (val ts) (val ys)
                rw [C2.out.val, ← HV.out.1, cmpI_lt HLT.out]
              clear hge
              go_wp2_with fail
              refine (rcmp_val _ _ _ _ _ _ ts ys _ C1.out HBX.out (by omega) (by omega) (-1) HC.out).mono ?_
              rintro e w2 ⟨rfl, b2⟩
              have E2 : Hid (Below wr.heap.size wr w2) := C4.out.trans (b2.mono C4.out.size)
              have E3 : Hid (RowAt w2 tao tn tc ts) := C1.out.below b2
              clear b2
              go_wp2_with fail
              go_roundg k
              case measure => omega
              case rel => exact ⟨k, _, tao, tn, tc, ts, qs, tv, by omega, Nat.le_refl _, rfl, rfl, rfl, HREL.out.skip HDS.out.2.1 HTV.out HLT.out E2.out E3.out C2.out⟩

end Go.Proofs.Ytnkjfandknndkaa

/-! The reference's Div of layer 3: what is divided has several limbs, or none. -/
namespace Go.Proofs.Ytnkjfandknndkaa
open Go.RowKit
attribute [local go_sem ↓] Go.wp_at_zero Go.wp_at_succ

theorem big10 {rs : List Int} {rv V : Int} (hn : Num rs rv) (h1 : rv < V) (h2 : V ≤ BB ^ 8) : val rs * val [(4294967296 : Int)] < BB ^ 10 := by
  rw [hn.val, show val [(4294967296 : Int)] = 4294967296 by simp [val], show (10 : Nat) = 8 + 1 + 1 from rfl, pw_succ, pw_succ]
  have h3 : rv * 4294967296 ≤ BB ^ 8 * 4294967296 := by omega
  have h4 := Int.mul_le_mul_of_nonneg_left (show (4294967296 : Int) ≤ BB by unfold BB; omega) (Int.le_of_lt (pw_pos 8))
  have h5 := Int.mul_lt_mul_of_pos_left (show (1 : Int) < BB by unfold BB; omega) (Int.mul_pos (pw_pos 8) BB_pos)
  omega
theorem few10 {ms rs : List Int} {mm : Nat} {rv V : Int} (hl : ms.length = mm) (hm : Num ms (val rs * val [(4294967296 : Int)])) (hn : Num rs rv) (h1 : rv < V) (h2 : V ≤ BB ^ 8) : mm ≤ 10 := by
  rw [← hl]; exact hm.few (big10 hn h1 h2) (Int.le_refl _)

set_option maxRecDepth 100000 in
set_option maxHeartbeats 4000000 in
theorem rqdiv_c (ao bo : Option Addr) (na ca nb cb : Nat) (xs ys : List Int) (w : World) (ha : RowAt w ao na ca xs) (hb : RowAt w bo nb cb ys) (hx : May xs) (hy : May ys) (hz : val ys ≠ 0) (h1 : na ≠ 1) :
    Calls Try.prog 34 #[.slice ao na ca, .slice bo nb cb] w fun e w' => ∃ qo qn qc q ro rn rc r k, e = .returned (.tuple #[.slice qo qn qc, .slice ro rn rc, .int .i64 k]) ∧ RowAt w' qo qn qc q ∧ RowAt w' ro rn rc r ∧ DivOut xs ys q r k ∧ Below w.heap.size w w' := by
  obtain ⟨i0, hi, hz0, hz1, hz2⟩ := info_parts Try.info50
  have HA : Hid (RowAt w ao na ca xs) := ha
  have HB : Hid (RowAt w bo nb cb ys) := hb
  have HX : Hid (May xs) := hx
  have HY : Hid (May ys) := hy
  have hna : na ≤ 8 := by have := hx.1; have := ha.len; omega
  have hnb : nb ≤ 8 := by have := hy.1; have := hb.len; omega
  have HZ : Hid (val ys ≠ 0) := hz
  have h0 : nb ≠ 0 := fun e => hz ((val_zero hb.limbs hy hb.len).1 e)
  have hb0 : ((nb : Int) == 0) = false := by rw [beq_eq_false_iff_ne]; omega
  clear ha hb hx hy hz
  have h1b : ((na : Int) == 1) = false := by rw [beq_eq_false_iff_ne]; omega
  go_enter Try.func34, Try.ntmps34
  go_wp2_with fail
  refine (rmay_val _ _ _ xs _ HA.out true (yes_iff HX.out)).mono ?_
  rintro e w1 ⟨rfl, rfl⟩
  go_wp2_with fail
  refine (rmay_val _ _ _ ys _ HB.out true (yes_iff HY.out)).mono ?_
  rintro e w1 ⟨rfl, rfl⟩
  go_wp2_with fail
  refine (digits_any _ _ _ xs _ HA.out (by omega)).mono ?_
  rintro e w1 ⟨xo, xc, rfl, x1, b1⟩
  have X1 : Hid (RowAt w1 xo (2 * na) xc (hd xs)) := x1
  have B1 : Hid (Below w.heap.size w w1) := b1
  clear x1 b1
  go_wp2_with fail
  go_loopg [8, 9] (2 * na) (fun k s8 s9 wr => ∃ j g c : Nat, j ≤ 2 * na ∧ 2 * na - j ≤ k ∧ s9 = .int .i64 j ∧ s8 = .slice (some ⟨g, 0, none⟩) j c ∧ OwnR wr w1.heap.size g j c (List.replicate j 0) ∧ Below w1.heap.size w1 wr)
  case atStart => exact ⟨0, w1.heap.size, 0, Nat.zero_le _, by omega, rfl, rfl, OwnR.nil w1, (Below.refl _ _).alloc (Nat.le_refl _) _⟩
  case round =>
    obtain ⟨j, g, c, hj, hjk, rfl, rfl, hown, hbel⟩ := hrel
    have HO : Hid (OwnR wr w1.heap.size g j c (List.replicate j 0)) := hown
    have HBL : Hid (Below w1.heap.size w1 wr) := hbel
    have hgw := hown.lt
    have hsz : w1.heap.size ≤ wr.heap.size := hbel.size
    clear hown hbel
    by_cases hlt1 : j < 2 * na
    · have hlt2 : (j : Int) < 2 * (na : Int) := by omega
      go_wp2_with (at_builtin; refine wpList_append_lies _ rfl (.tmp 58) (.tmp 59) 22 rfl w1.heap.size 50 i0 (.int .u64 0) 1 8 Try.underlying22 hi hz0 hz1 hz2 rfl (by decide) _ j ((List.replicate j (0 : Int)).map (Value.int .u64)) rfl (HO.out.alloc _) ⟨wr.heap.size, 0, none⟩ 1 1 [.int .u64 0] rfl rfl (World.news_of_block (cs := #[.int .u64 0]) (t := 50) (fr := (0, 0)) (heap_alloc_new wr _)) (by simp [Value.oneCell']) (by omega) (by unfold maxLen; omega) (by omega) (by simp; omega) (wr.heap.size + 1) (by simp) ?_)
      intro gg cp w3 hown1 hgrow _ _
      have HN : Hid (OwnR w3 w1.heap.size gg (j + 1) cp (List.replicate (j + 1) 0)) := by
        show OwnR w3 w1.heap.size gg (j + 1) cp (List.replicate (j + 1) 0)
        unfold OwnR
        rw [List.replicate_succ', List.map_append]
        simpa using hown1
      have HG : Hid (Below w1.heap.size w1 w3) := (HBL.out.alloc hsz _).grown hgrow (by simp; omega) (fun j hj => by cases hj; exact hgw.1)
      clear hown1 hgrow
      go_wp2_with fail
      go_roundg (gk - 1)
      case measure => omega
      case rel => exact ⟨j + 1, gg, cp, by omega, by omega, by go_num, rfl, HN.out, HG.out⟩
    · have hlt2 : ¬ (j : Int) < 2 * (na : Int) := by omega
      obtain ⟨L, hL⟩ : ∃ L, L = 2 * na := ⟨_, rfl⟩
      have hjL : j = L := by omega
      have HL : Hid (L = 2 * na) := hL
      have hLi : (2 : Int) * (na : Int) = (L : Int) := by omega
      have hLm : L ≤ 16 := by omega
      have hds : (hd xs).length = L := by rw [hd_length, HA.out.len, hL]
      have HDS : Hid ((hd xs).length = L ∧ Halves (hd xs) ∧ hval (hd xs) = val xs) := ⟨hds, hd_halves HA.out.limbs, hd_val xs⟩
      have X2 : Hid (RowAt w1 xo L xc (hd xs)) := by
        have h := X1.out
        rw [← hL] at h
        exact h
      obtain ⟨V, hV⟩ : ∃ V, V = val ys := ⟨_, rfl⟩
      have hVp : 0 < V := by
        have h1 := (val_bd HB.out.limbs).1
        have h2 := HZ.out
        omega
      have hVB : V ≤ BB ^ 8 := by rw [hV]; exact Int.le_of_lt (HY.out.lt HB.out.limbs)
      have HV : Hid (V = val ys ∧ 0 < V ∧ V ≤ BB ^ 8) := ⟨hV, hVp, hVB⟩
      have HR0 : Hid (RDivRel w1 g c L L (hd xs) V (some ⟨wr.heap.size, 0, none⟩) 0 0 [] (List.replicate L 0) 0 (wr.alloc (Obj.cells #[] 50))) :=
        ⟨(OwnR.nil wr).row (by intro x hx; simp at hx), Num.nil, by rw [← hjL]; exact HO.out.alloc _, HBL.out.alloc hsz _, rinv_start hVp hds⟩
      clear hL hds hV hVp hVB HO X1
      go_wp2_with fail
      go_loopg [10, 11] L (fun k s10 s11 wr => ∃ (j : Nat) (i : Int) (ro : Option Addr) (nr cr : Nat) (rs qs : List Int) (rv : Int), j ≤ L ∧ j ≤ k ∧ i = (j : Int) - 1 ∧ s11 = .int .i64 i ∧ s10 = .slice ro nr cr ∧ RDivRel w1 g c L j (hd xs) V ro nr cr rs qs rv wr)
      case atStart => exact ⟨L, (L : Int) - 1, _, _, _, _, _, _, Nat.le_refl _, Nat.le_refl _, rfl, by go_num, rfl, HR0.out⟩
      case round =>
        clear HR0
        obtain ⟨i1, i2, ro, nr, cr, rs, qs, rv, hjm, hjg, hij, rfl, rfl, hrel⟩ := hrel
        have HREL : Hid (RDivRel w1 g c L i1 (hd xs) V ro nr cr rs qs rv wr) := hrel
        have hnr : nr ≤ 8 := by
          have h1 := hrel.num.few hrel.inv.r1 HV.out.2.2
          have h2 := hrel.row.len
          omega
        have hsz2 : w1.heap.size ≤ wr.heap.size := hrel.bel.size
        have hgl := hrel.own.lt
        clear hrel
        cases i1 with
        | zero =>
          obtain rfl : i2 = -1 := by omega
          clear hij
          have hen := rinv_end HREL.out.inv
          rw [HDS.out.2.2, HV.out.1] at hen
          have HEN : Hid (hval qs = val xs / val ys ∧ rv = val xs % val ys) := hen
          have HQ : Hid (RowAt wr (some ⟨g, 0, none⟩) L c qs) := HREL.out.own.row HREL.out.inv.halves.limbs
          clear hen
          go_wp2_with fail
          refine (whole_any _ _ _ qs _ HQ.out HREL.out.inv.halves (by omega)).mono ?_
          rintro e w9 ⟨qo, qn, qc, q2, rfl, t1, t2, t3, t4⟩
          have T1 : Hid (RowAt w9 qo qn qc q2) := t1
          have T2 : Hid (Num q2 (val xs / val ys)) := by
            rw [HEN.out.1] at t2
            exact t2
          have T4 : Hid (Below wr.heap.size wr w9) := t4
          have T5 : Hid (Num rs (val xs % val ys)) := by
            have h := HREL.out.num
            rw [HEN.out.2] at h
            exact h
          clear t1 t2 t3 t4
          go_wp2_with fail
          go_ret3
          exact ⟨qo, qn, qc, q2, ro, nr, cr, rs, 0, rfl, T1.out, HREL.out.row.below T4.out, .fine ⟨HX.out, HY.out⟩ HZ.out T2.out T5.out, chain B1.out (HREL.out.bel.trans (T4.out.mono hsz2))⟩
        | succ k =>
          obtain rfl : i2 = (k : Int) := by omega
          clear hij
          obtain ⟨xb, xoff, rfl, hxlt, hxc⟩ := X2.out.cells (by intro e; have h := HDS.out.1; rw [e] at h; simp at h; omega)
          have hxk := hxc k (by rw [HDS.out.1]; omega)
          rw [← lim_nat] at hxk
          obtain ⟨xk, hxk'⟩ : ∃ v, v = lim (hd xs) k := ⟨_, rfl⟩
          rw [← hxk'] at hxk
          have hxr : wr.cell? ⟨xb, xoff + k, none⟩ = some (.int .u64 xk) := (HREL.out.bel.cell (p := ⟨xb, xoff + k, none⟩) hxlt).trans hxk
          have hxb : xb < wr.heap.size := Nat.lt_of_lt_of_le hxlt hsz2
          have hbx := half_bd HDS.out.2.1 k
          rw [← hxk'] at hbx
          have HXK : Hid (xk = lim (hd xs) k) := hxk'
          have x0 := hbx.1
          have x1 : xk < BB := by have := hbx.2; unfold HH at this; unfold BB; omega
          have X1' : Hid (0 ≤ xk ∧ xk < BB) := ⟨x0, x1⟩
          have hkL : (k : Int) < (L : Int) := by omega
          obtain ⟨tv, htv⟩ : ∃ v, v = rv * HH + lim (hd xs) k := ⟨_, rfl⟩
          have HTV : Hid (tv = rv * HH + lim (hd xs) k) := htv
          have htb := rinv_big HREL.out.inv HDS.out.2.1
          rw [← htv] at htb
          have HTB : Hid (0 ≤ tv ∧ tv < V * HH) := htb
          clear hxc hxk hxk' hbx htv htb x1
          go_upto_region 17 with fail
          go_cut [10] from 65 to 100 (fun s10 wx => ∃ (ro : Option Addr) (tn tc : Nat) (ts : List Int), s10 = .slice ro tn tc ∧ RowAt wx ro tn tc ts ∧ Num ts tv ∧ Fresh wr.heap.size ro ∧ Below wr.heap.size wr wx)
          case first =>
            have d0 : Below wr.heap.size wr wr.drew := (Below.refl _ _).drew
            have dP : Below wr.heap.size wr (wr.drew.alloc (Obj.cells #[.int .u64 4294967296] 50)) := d0.alloc (by simp) _
            have dX : Below wr.heap.size wr (wr.drew.alloc (Obj.cells #[.int .u64 xk] 50)) := d0.alloc (by simp) _
            have dPX : Below wr.heap.size wr ((wr.drew.alloc (Obj.cells #[.int .u64 4294967296] 50)).alloc (Obj.cells #[.int .u64 xk] 50)) := dP.alloc (by simp) _
            have dXP : Below wr.heap.size wr ((wr.drew.alloc (Obj.cells #[.int .u64 xk] 50)).alloc (Obj.cells #[.int .u64 4294967296] 50)) := dX.alloc (by simp) _
            have DP : Hid _ := dP
            have DX : Hid _ := dX
            have DPX : Hid _ := dPX
            have DXP : Hid _ := dXP
            have PB : Hid ((0 : Int) ≤ 4294967296 ∧ (4294967296 : Int) < BB) := by unfold BB; exact ⟨by omega, by omega⟩
            have o1 : RowAt (wr.drew.alloc (Obj.cells #[.int .u64 4294967296] 50)) (some ⟨wr.heap.size, 0, none⟩) 1 1 [4294967296] := one_row wr.drew _ PB.out.1 PB.out.2
            have o2 : RowAt (wr.drew.alloc (Obj.cells #[.int .u64 xk] 50)) (some ⟨wr.heap.size, 0, none⟩) 1 1 [xk] := one_row wr.drew _ X1'.out.1 X1'.out.2
            have P1 : Hid _ := o1
            have P2 : Hid (RowAt ((wr.drew.alloc (Obj.cells #[.int .u64 4294967296] 50)).alloc (Obj.cells #[.int .u64 xk] 50)) (some ⟨wr.heap.size, 0, none⟩) 1 1 [4294967296]) := o1.below ((Below.refl _ _).alloc (Nat.le_refl _) _)
            have P3 : Hid (RowAt ((wr.drew.alloc (Obj.cells #[.int .u64 xk] 50)).alloc (Obj.cells #[.int .u64 4294967296] 50)) (some ⟨wr.heap.size + 1, 0, none⟩) 1 1 [4294967296]) := by
              show RowAt ((wr.drew.alloc (Obj.cells #[.int .u64 xk] 50)).alloc (Obj.cells #[.int .u64 4294967296] 50)) (some ⟨wr.heap.size + 1, 0, none⟩) 1 1 [4294967296]
              have h := one_row (wr.drew.alloc (Obj.cells #[.int .u64 xk] 50)) 4294967296 PB.out.1 PB.out.2
              simpa using h
            have Y2 : Hid (RowAt ((wr.drew.alloc (Obj.cells #[.int .u64 4294967296] 50)).alloc (Obj.cells #[.int .u64 xk] 50)) (some ⟨wr.heap.size + 1, 0, none⟩) 1 1 [xk]) := by
              show RowAt ((wr.drew.alloc (Obj.cells #[.int .u64 4294967296] 50)).alloc (Obj.cells #[.int .u64 xk] 50)) (some ⟨wr.heap.size + 1, 0, none⟩) 1 1 [xk]
              have h := one_row (wr.drew.alloc (Obj.cells #[.int .u64 4294967296] 50)) xk X1'.out.1 X1'.out.2
              simpa using h
            have Y3 : Hid (RowAt ((wr.drew.alloc (Obj.cells #[.int .u64 xk] 50)).alloc (Obj.cells #[.int .u64 4294967296] 50)) (some ⟨wr.heap.size, 0, none⟩) 1 1 [xk]) := o2.below ((Below.refl _ _).alloc (Nat.le_refl _) _)
            clear d0 dP dX dPX dXP o1 o2
            go_region_held3 (fun w' => w'.cell? ⟨xb, xoff + k, none⟩ = some (.int .u64 xk)) (first | go_keep | (rw [bz.cell (p := ⟨xb, xoff + k, none⟩) hxb]; assumption))
              (first
                | (go_at_call 27; refine (rmul_any _ _ _ _ _ _ rs [4294967296] _ ?_ ?_ ?_ ?_).mono ?_; (first | exact HREL.out.row.below DP.out | exact HREL.out.row.below DPX.out | exact HREL.out.row.below DXP.out); (first | exact P1.out | exact P2.out | exact P3.out); omega; omega; rintro e wm ⟨mo, mm, mc, ms, rfl, m1, m2, m3⟩; (first | have bz := DP.out.trans (m3.mono DP.out.size) | have bz := DPX.out.trans (m3.mono DPX.out.size) | have bz := DXP.out.trans (m3.mono DXP.out.size)); have mf := few10 m1.len m2 HREL.out.num HREL.out.inv.r1 HV.out.2.2)
                | (go_at_call 59; refine (radd_fresh _ _ _ _ _ _ ms [xk] _ ?_ ?_ ?_ ?_).mono ?_; (first | exact m1 | exact m1.below ((Below.refl _ _).alloc (Nat.le_refl _) _)); (first | exact Y2.out.below m3 | exact Y3.out.below m3 | exact one_row wm xk X1'.out.1 X1'.out.2); omega; omega; rintro e wa ⟨no, nn, nc, ns, rfl, a1, a2, a3, a4⟩; (first | have fz := a3.mono bz.size | have fz := a3.mono (bz.alloc bz.size (Obj.cells #[.int .u64 xk] 50)).size); (first | have bz := bz.trans (a4.mono bz.size) | have bz := (bz.alloc bz.size (Obj.cells #[.int .u64 xk] 50)).trans (a4.mono (bz.alloc bz.size (Obj.cells #[.int .u64 xk] 50)).size))))
            all_goals
              have R1 : Hid (RowAt wa no nn nc ns) := a1
              have R2 : Hid (Num ns tv) := by
                rw [m2.val, HREL.out.num.val, show val [(4294967296 : Int)] = HH by simp [val, HH], show val [xk] = xk by simp [val], HXK.out, ← HTV.out] at a2
                exact a2
              have R3 : Hid (Fresh wr.heap.size no) := fz
              have R4 : Hid (Below wr.heap.size wr wa) := bz
              clear m1 m2 m3 mf a1 a2 a3 a4 fz bz P1 P2 P3 Y2 Y3 DP DX DPX DXP
              go_wp2_with fail
              go_meet
              exact ⟨no, nn, nc, ns, rfl, R1.out, R2.out, R3.out, R4.out⟩
          case rest =>
            rename World => wx
            obtain ⟨tao, tn, tc, ts, rfl, c1, c2, c3, c4⟩ := hcut
            have C1 : Hid (RowAt wx tao tn tc ts) := c1
            have C2 : Hid (Num ts tv) := c2
            have C3 : Hid (Fresh wr.heap.size tao) := c3
            have C4 : Hid (Below wr.heap.size wr wx) := c4
            have htn : tn ≤ 9 := by
              have h1 := c1.len
              have h2 := c2.few (V := BB ^ 9) (n := 9) ?_ (Int.le_refl _)
              omega
              have h3 := HTB.out.2
              have h4 := HV.out.2.2
              have h5 := Int.mul_le_mul_of_nonneg_right h4 (Int.le_of_lt HH_pos)
              have h6 := Int.mul_le_mul_of_nonneg_left (show HH ≤ BB by unfold HH BB; omega) (Int.le_of_lt (pw_pos 8))
              rw [show (9 : Nat) = 8 + 1 from rfl, pw_succ]
              omega
            have WB : Hid (Below w.heap.size w wx) := B1.out.trans ((HREL.out.bel.trans (c4.mono hsz2)).mono B1.out.size)
            have HBX : Hid (RowAt wx bo nb cb ys) := HB.out.below WB.out
            clear c1 c2 c3 c4
            by_cases hge : V ≤ tv
            · obtain ⟨cv, hcv⟩ : ∃ c, c = cmpI (val ts) (val ys) := ⟨_, rfl⟩
              have hc0 : 0 ≤ cv := by rw [hcv, C2.out.val, ← HV.out.1]; exact cmpI_ge hge
              have HC : Hid (cv = cmpI (val ts) (val ys)) := hcv
              obtain ⟨d, hd⟩ : ∃ d, d = tv / V := ⟨_, rfl⟩
              have HDD : Hid (d = tv / V) := hd
              have hd0 : 0 ≤ d := by rw [hd]; exact Int.ediv_nonneg HTB.out.1 (Int.le_of_lt HV.out.2.1)
              have hd1 : d < 4294967296 := by
                rw [hd]
                exact Int.ediv_lt_of_lt_mul HV.out.2.1 (by have h := HTB.out.2; unfold HH at h; rw [Int.mul_comm]; exact h)
              have HVD : Hid (V * d ≤ tv) := by
                have h := Int.mul_ediv_self_le (x := tv) (k := V) (by have := HV.out.2.1; omega)
                rw [← hd] at h
                exact h
              clear hcv hd hge
              go_wp2_with fail
              refine (rcmp_val _ _ _ _ _ _ ts ys _ C1.out HBX.out (by omega) (by omega) cv HC.out).mono ?_
              rintro e w2 ⟨rfl, b2⟩
              have E2 : Hid (Below wx.heap.size wx w2) := b2
              clear b2
              go_wp2_with fail
              refine (rtimes_any _ _ _ _ _ _ ts ys _ (C1.out.below E2.out) (HBX.out.below E2.out) (by omega) (by omega) (by rw [← HV.out.1]; exact HV.out.2.1) (by rw [C2.out.val, ← HV.out.1]; exact HTB.out.2)).mono ?_
              rintro e w3 ⟨rfl, b3⟩
              rw [C2.out.val, ← HV.out.1, ← HDD.out]
              have E3 : Hid (Below wr.heap.size wr w3) := C4.out.trans ((chain E2.out b3).mono C4.out.size)
              have hgw3 : g < w3.heap.size := Nat.lt_of_lt_of_le hgl.2 E3.out.size
              have hown3 := HREL.out.own.below E3.out
              have hq3 : w3.cell? ⟨g, k, none⟩ = some (.int .u64 (lim qs k)) := by
                rw [World.ownsRow.cellAt hown3 k (by omega), lim_nat]
                simp [show k < qs.length by rw [HREL.out.inv.len]; omega]
              have hf3 : w3.frozen? ⟨g, k, none⟩ = false := World.ownsRow.frozenAt hown3 k
              have T3 : Hid (RowAt w3 tao tn tc ts) := C1.out.below (chain E2.out b3)
              have hszr : wr.heap.size ≤ w3.heap.size := E3.out.size
              have TS : Hid (RowAt (w3.setCell ⟨g, k, none⟩ (.int .u64 d)) tao tn tc ts) := T3.out.far C3.out hgl.2 _ _
              have S4 : Hid (Below w.heap.size w (w3.setCell ⟨g, k, none⟩ (.int .u64 d))) := (WB.out.trans ((chain E2.out b3).mono WB.out.size)).setCell (Nat.le_trans B1.out.size hgl.1) _
              have hs4 : (w3.setCell ⟨g, k, none⟩ (.int .u64 d)).heap.size = w3.heap.size := by simp [World.setCell]
              have A4 : Hid (RowAt ((w3.setCell ⟨g, k, none⟩ (.int .u64 d)).alloc (Obj.cells #[.int .u64 d] 50)) (some ⟨w3.heap.size, 0, none⟩) 1 1 [d]) := by
                have h := one_row (w3.setCell ⟨g, k, none⟩ (.int .u64 d)) d hd0 (by unfold BB; omega)
                rw [hs4] at h
                exact h
              have L4 : Hid (Below w3.heap.size (w3.setCell ⟨g, k, none⟩ (.int .u64 d)) ((w3.setCell ⟨g, k, none⟩ (.int .u64 d)).alloc (Obj.cells #[.int .u64 d] 50))) := (Below.refl _ _).alloc (by rw [hs4]; exact Nat.le_refl _) _
              clear b3 hown3 E2
              go_wp2_with fail
              have W5 : Hid (Below w.heap.size w ((w3.setCell ⟨g, k, none⟩ (.int .u64 d)).alloc (Obj.cells #[.int .u64 d] 50))) := S4.out.trans (L4.out.mono (by have := S4.out.size; rw [hs4] at this; exact this))
              refine (rmul_any _ _ _ _ _ _ ys [d] _ (HB.out.below W5.out) A4.out (by omega) (by omega)).mono ?_
              rintro e w6 ⟨po, pm, pc, p, rfl, p1, p2, p3⟩
              rw [show val [d] = d by simp [val]] at p2
              have P1 : Hid (RowAt w6 po pm pc p) := p1
              have P2 : Hid (Num p (V * d)) := by
                rw [← HV.out.1] at p2
                exact p2
              have hpm : pm ≤ 9 := by
                have h1 := p1.len
                have h2 := P2.out.few (V := BB ^ 9) (n := 9) ?_ (Int.le_refl _)
                omega
                have h3 := HTB.out.2
                have h4 := HV.out.2.2
                have h5 := Int.mul_le_mul_of_nonneg_right h4 (Int.le_of_lt HH_pos)
                have h6 := Int.mul_le_mul_of_nonneg_left (show HH ≤ BB by unfold HH BB; omega) (Int.le_of_lt (pw_pos 8))
                have h7 := HVD.out
                rw [show (9 : Nat) = 8 + 1 from rfl, pw_succ]
                omega
              have hsa : w3.heap.size ≤ ((w3.setCell ⟨g, k, none⟩ (.int .u64 d)).alloc (Obj.cells #[.int .u64 d] 50)).heap.size := by
                have := L4.out.size
                rw [hs4] at this
                exact this
              have L6 : Hid (Below w3.heap.size (w3.setCell ⟨g, k, none⟩ (.int .u64 d)) w6) := L4.out.trans (p3.mono hsa)
              have TS6 : Hid (RowAt w6 tao tn tc ts) := TS.out.below (by rw [hs4]; exact L6.out)
              clear p1 p2 p3 hsa W5
              go_wp2_with fail
              refine (rsub_ok _ _ _ _ _ _ ts p _ TS6.out P1.out (by omega) (by omega) (by rw [P2.out.val, C2.out.val]; exact HVD.out)).mono ?_
              rintro e w7 ⟨so, sm, sc, ss, rfl, q1, q2, q3⟩
              rw [P2.out.val, C2.out.val] at q2
              have Q1 : Hid (RowAt w7 so sm sc ss) := q1
              have Q2 : Hid (Num ss (tv - V * d)) := q2
              have L7 : Hid (Below w3.heap.size (w3.setCell ⟨g, k, none⟩ (.int .u64 d)) w7) := L6.out.trans (q3.mono (by have := L6.out.size; rw [hs4] at this; exact this))
              clear q1 q2 q3
              go_wp2_with fail
              go_roundg k
              case measure => omega
              case rel => exact ⟨k, _, so, sm, sc, ss, _, _, by omega, Nat.le_refl _, rfl, rfl, rfl, HREL.out.next HDS.out.2.1 (by omega) HTV.out HDD.out E3.out L7.out Q1.out Q2.out⟩
            · have HLT : Hid (tv < V) := Int.not_le.1 hge
              have HC : Hid ((-1 : Int) = cmpI (val ts) (val ys)) := by
                show (-1 : Int) = cmpI (val ts) (val ys)
                rw [C2.out.val, ← HV.out.1, cmpI_lt HLT.out]
              clear hge
              go_wp2_with fail
              refine (rcmp_val _ _ _ _ _ _ ts ys _ C1.out HBX.out (by omega) (by omega) (-1) HC.out).mono ?_
              rintro e w2 ⟨rfl, b2⟩
              have E2 : Hid (Below wr.heap.size wr w2) := C4.out.trans (b2.mono C4.out.size)
              have E3 : Hid (RowAt w2 tao tn tc ts) := C1.out.below b2
              clear b2
              go_wp2_with fail
              go_roundg k
              case measure => omega
              case rel => exact ⟨k, _, tao, tn, tc, ts, qs, tv, by omega, Nat.le_refl _, rfl, rfl, rfl, HREL.out.skip HDS.out.2.1 HTV.out HLT.out E2.out E3.out C2.out⟩

end Go.Proofs.Ytnkjfandknndkaa

/-! The reference's Div of layer 3: all of it. -/
namespace Go.Proofs.Ytnkjfandknndkaa
open Go.RowKit
attribute [local go_sem ↓] Go.wp_at_zero Go.wp_at_succ

set_option maxHeartbeats 1000000 in
theorem rqdiv_any (ao bo : Option Addr) (na ca nb cb : Nat) (xs ys : List Int) (w : World) (ha : RowAt w ao na ca xs) (hb : RowAt w bo nb cb ys) :
    Calls Try.prog 34 #[.slice ao na ca, .slice bo nb cb] w fun e w' => ∃ qo qn qc q ro rn rc r k, e = .returned (.tuple #[.slice qo qn qc, .slice ro rn rc, .int .i64 k]) ∧ RowAt w' qo qn qc q ∧ RowAt w' ro rn rc r ∧ DivOut xs ys q r k ∧ Below w.heap.size w w' := by
  by_cases hx : May xs
  · by_cases hy : May ys
    · by_cases hz : val ys = 0
      · have h0 : nb = 0 := (val_zero hb.limbs hy hb.len).2 hz
        have HA : Hid (RowAt w ao na ca xs) := ha
        have HB : Hid (RowAt w bo nb cb ys) := hb
        have HX : Hid (May xs) := hx
        have HY : Hid (May ys) := hy
        have HZ : Hid (val ys = 0) := hz
        have hna : na ≤ 8 := by have := hx.1; have := ha.len; omega
        subst h0
        clear ha hb hx hy hz
        go_enter Try.func34, Try.ntmps34
        go_wp2_with fail
        refine (rmay_val _ _ _ xs _ HA.out true (yes_iff HX.out)).mono ?_
        rintro e w1 ⟨rfl, rfl⟩
        go_wp2_with fail
        refine (rmay_val _ _ _ ys _ HB.out true (yes_iff HY.out)).mono ?_
        rintro e w1 ⟨rfl, rfl⟩
        go_wp2_with fail
        go_ret3
        exact ⟨none, 0, 0, [], none, 0, 0, [], 30, rfl, RowAt.nil _, RowAt.nil _, .zero ⟨HX.out, HY.out⟩ HZ.out, Below.refl _ _⟩
      · by_cases h1 : na = 1
        · by_cases h2 : nb = 1
          · exact rqdiv_one ao bo na ca nb cb xs ys w ha hb hx hy hz h1 h2
          · exact rqdiv_b ao bo na ca nb cb xs ys w ha hb hx hy hz h1 h2
        · exact rqdiv_c ao bo na ca nb cb xs ys w ha hb hx hy hz h1
    · have HA : Hid (RowAt w ao na ca xs) := ha
      have HB : Hid (RowAt w bo nb cb ys) := hb
      have HX : Hid (May xs) := hx
      have HY : Hid (¬ May ys) := hy
      clear ha hb hx hy
      go_enter Try.func34, Try.ntmps34
      go_wp2_with fail
      refine (rmay_val _ _ _ xs _ HA.out true (yes_iff HX.out)).mono ?_
      rintro e w1 ⟨rfl, rfl⟩
      go_wp2_with fail
      refine (rmay_val _ _ _ ys _ HB.out false (no_iff HY.out)).mono ?_
      rintro e w1 ⟨rfl, rfl⟩
      go_wp2_with fail
      go_ret3
      exact ⟨none, 0, 0, [], none, 0, 0, [], 1, rfl, RowAt.nil _, RowAt.nil _, .arg (fun h => HY.out h.2), Below.refl _ _⟩
  · have HA : Hid (RowAt w ao na ca xs) := ha
    have HX : Hid (¬ May xs) := hx
    clear ha hb hx
    go_enter Try.func34, Try.ntmps34
    go_wp2_with fail
    refine (rmay_val _ _ _ xs _ HA.out false (no_iff HX.out)).mono ?_
    rintro e w1 ⟨rfl, rfl⟩
    go_wp2_with fail
    go_ret3
    exact ⟨none, 0, 0, [], none, 0, 0, [], 1, rfl, RowAt.nil _, RowAt.nil _, .arg (fun h => HX.out h.1), Below.refl _ _⟩

end Go.Proofs.Ytnkjfandknndkaa

/-! The reference's Add, Sub, Mul of layer 2. -/
namespace Go.Proofs.Ytnkjfandknndkaa
open Go.RowKit

set_option maxHeartbeats 1000000 in
theorem rnmul_any (ao bo : Option Addr) (na ca nb cb : Nat) (xs ys : List Int) (w : World) (ha : RowAt w ao na ca xs) (hb : RowAt w bo nb cb ys) :
    Calls Try.prog 64 #[.slice ao na ca, .slice bo nb cb] w fun e w' => ∃ ro m cap r k, e = .returned (.tuple #[.slice ro m cap, .int .i64 k]) ∧ RowAt w' ro m cap r ∧ Out (May xs ∧ May ys) (False) (val xs * val ys) r k ∧ Below w.heap.size w w' := by
  have HA : Hid _ := ha
  have HB : Hid _ := hb
  have la := ha.len
  have lb := hb.len
  clear ha hb
  by_cases hx : May xs
  · have hna : na ≤ 8 := by have := hx.1; omega
    have HX : Hid (May xs) := hx
    clear hx
    by_cases hy : May ys
    · have hnb : nb ≤ 8 := by have := hy.1; omega
      have HY : Hid (May ys) := hy
      clear hy la lb
      go_enter Try.func64, Try.ntmps64
      go_wp2_with fail
      refine (rmay_val _ _ _ xs _ HA.out true (yes_iff HX.out)).mono ?_
      rintro e w1 ⟨rfl, rfl⟩
      go_wp2_with fail
      refine (rmay_val _ _ _ ys _ HB.out true (yes_iff HY.out)).mono ?_
      rintro e w1 ⟨rfl, rfl⟩
      go_wp2_with fail
      refine (rmul_any _ _ _ _ _ _ xs ys _ HA.out HB.out (by omega) (by omega)).mono ?_
      rintro e w1 ⟨ro, m, cap, r, rfl, h1, h2, h3⟩
      have H1 : Hid _ := h1
      have H2 : Hid (Num r (val xs * val ys)) := h2
      have H3 : Hid _ := h3
      clear h1 h2 h3
      go_wp2_with fail
      refine (held_any _ _ _ r _ _ H1.out H2.out (May xs ∧ May ys) ⟨HX.out, HY.out⟩).mono ?_
      rintro e w2 ⟨⟨ro, m, cap, s, k, rfl, g1, g2⟩, rfl⟩
      have G1 : Hid _ := g1
      have G2 : Hid (Out (May xs ∧ May ys) False (val xs * val ys) s k) := g2
      clear g1 g2
      go_wp2
      go_ret2
      exact ⟨ro, m, cap, s, k, rfl, G1.out, G2.out, H3.out⟩
    · have HY : Hid (¬ May ys) := hy
      clear hy la lb
      go_enter Try.func64, Try.ntmps64
      go_wp2_with fail
      refine (rmay_val _ _ _ xs _ HA.out true (yes_iff HX.out)).mono ?_
      rintro e w1 ⟨rfl, rfl⟩
      go_wp2_with fail
      refine (rmay_val _ _ _ ys _ HB.out false (no_iff HY.out)).mono ?_
      rintro e w1 ⟨rfl, rfl⟩
      go_wp2
      go_ret2
      exact ⟨none, 0, 0, [], 1, rfl, RowAt.nil _, .arg (fun h => HY.out h.2), Below.refl _ _⟩
  · have HX : Hid (¬ May xs) := hx
    clear hx la lb
    go_enter Try.func64, Try.ntmps64
    go_wp2_with fail
    refine (rmay_val _ _ _ xs _ HA.out false (no_iff HX.out)).mono ?_
    rintro e w1 ⟨rfl, rfl⟩
    go_wp2
    go_ret2
    exact ⟨none, 0, 0, [], 1, rfl, RowAt.nil _, .arg (fun h => HX.out h.1), Below.refl _ _⟩

end Go.Proofs.Ytnkjfandknndkaa

/-! The reference's Small, Gcd and Lcm of layer 3; the statements' held and shown. -/
namespace Go.Proofs.Ytnkjfandknndkaa
open Go.RowKit

set_option maxRecDepth 100000 in
set_option maxHeartbeats 2000000 in
theorem rqgcd_any (ao bo : Option Addr) (na ca nb cb : Nat) (xs ys : List Int) (w : World) (ha : RowAt w ao na ca xs) (hb : RowAt w bo nb cb ys) :
    Calls Try.prog 33 #[.slice ao na ca, .slice bo nb cb] w fun e w' => ∃ ro m cap r k, e = .returned (.tuple #[.slice ro m cap, .int .i64 k]) ∧ RowAt w' ro m cap r ∧ Out (May xs ∧ May ys) False (gcdI (val xs) (val ys)) r k ∧ Below w.heap.size w w' := by
  have HA : Hid (RowAt w ao na ca xs) := ha
  have HB : Hid (RowAt w bo nb cb ys) := hb
  have la := ha.len
  have lb := hb.len
  clear ha hb
  by_cases hx : May xs
  · have HX : Hid (May xs) := hx
    clear hx
    by_cases hy : May ys
    · have HY : Hid (May ys) := hy
      clear hy la lb
      obtain ⟨g, hg⟩ : ∃ g, gcdI (val xs) (val ys) = g := ⟨_, rfl⟩
      rw [hg]
      have hgB : g < Big := by rw [← hg]; exact gcdI_lt (val_bd HA.out.limbs).1 (val_bd HB.out.limbs).1 (HX.out.lt HA.out.limbs) (HY.out.lt HB.out.limbs)
      have HGB : Hid (g < Big) := hgB
      have H0 : Hid (RowAt w ao na ca xs ∧ RowAt w bo nb cb ys ∧ May xs ∧ May ys ∧ gcdI (val xs) (val ys) = g ∧ Below w.heap.size w w) := ⟨HA.out, HB.out, HX.out, HY.out, hg, Below.refl _ _⟩
      clear hg hgB
      go_enter Try.func33, Try.ntmps33
      go_wp2_with fail
      refine (rmay_val _ _ _ xs _ HA.out true (yes_iff HX.out)).mono ?_
      rintro e w1 ⟨rfl, rfl⟩
      go_wp2_with fail
      refine (rmay_val _ _ _ ys _ HB.out true (yes_iff HY.out)).mono ?_
      rintro e w1 ⟨rfl, rfl⟩
      go_wp2_with fail
      obtain ⟨P, hP⟩ : ∃ P : Prop, P = (May xs ∧ May ys) := ⟨_, rfl⟩
      have HP : Hid P := by rw [hP]; exact ⟨HX.out, HY.out⟩
      have HPE : Hid (P = (May xs ∧ May ys)) := hP
      clear hP HX HY HA HB
      go_loopg [0, 1] ((val ys).toNat) (fun k s0 s1 wr => ∃ (ao bo : Option Addr) (na ca nb cb : Nat) (xs ys : List Int), s0 = .slice ao na ca ∧ s1 = .slice bo nb cb ∧ (val ys).toNat ≤ k ∧ (RowAt wr ao na ca xs ∧ RowAt wr bo nb cb ys ∧ May xs ∧ May ys ∧ gcdI (val xs) (val ys) = g ∧ Below w.heap.size w wr))
      case atStart => exact ⟨ao, bo, na, ca, nb, cb, xs, ys, rfl, rfl, Nat.le_refl _, H0.out⟩
      case round =>
        clear H0
        obtain ⟨co, do_, nc, cc, nd, cd, us, vs, rfl, rfl, hk, ha, hb, hx, hy, hg, hbel⟩ := hrel
        have HA : Hid (RowAt wr co nc cc us) := ha
        have HB : Hid (RowAt wr do_ nd cd vs) := hb
        have HX : Hid (May us) := hx
        have HY : Hid (May vs) := hy
        have HG : Hid (gcdI (val us) (val vs) = g) := hg
        have HBL : Hid (Below w.heap.size w wr) := hbel
        have hu0 := (val_bd ha.limbs).1
        have hv0 := (val_bd hb.limbs).1
        have lv := val_zero hb.limbs hy hb.len
        have HK : Hid ((val vs).toNat ≤ gk) := hk
        have HUV : Hid (0 ≤ val us ∧ 0 ≤ val vs) := ⟨hu0, hv0⟩
        have hnd8 : nd ≤ 8 := by have := hy.1; have := hb.len; omega
        clear ha hb hx hy hg hbel hk hu0 hv0
        by_cases hz : nd = 0
        · have HE : Hid (val us = g) := by
            have h := HG.out
            rw [lv.1 hz, gcdI_zero HUV.out.1] at h
            exact h
          subst hz
          clear lv
          go_wp2_with fail
          go_ret2
          refine ⟨co, nc, cc, us, 0, rfl, HA.out, ?_, HBL.out⟩
          rw [← HPE.out]
          exact .fine us HP.out (fun f => f) HGB.out (by rw [← HE.out]; exact num_self HA.out.limbs HX.out)
        · have HVP : Hid (0 < val vs) := by
            have h := HUV.out.2
            have : val vs ≠ 0 := fun e => hz (lv.2 e)
            show 0 < val vs
            omega
          have hdp : (0 : Int) < (nd : Int) := by omega
          clear lv
          go_wp2_with fail
          refine (rqdiv_any _ _ _ _ _ _ us vs _ HA.out HB.out).mono ?_
          rintro e w2 ⟨qo, qn, qc, q, ro, rn, rc, r, k, rfl, f1, f2, f3, f4⟩
          have f5 := f3.is_fine ⟨HX.out, HY.out⟩ (by have := HVP.out; omega)
          have F2 : Hid (RowAt w2 ro rn rc r) := f2
          have hm0 := Int.emod_nonneg (val us) (show val vs ≠ 0 by have := HVP.out; omega)
          have hm1 := Int.emod_lt_of_pos (val us) HVP.out
          have F5 : Hid (Num r (val us % val vs)) := f5.2.2
          have F6 : Hid (May r) := f5.2.2.may.2 (by have := HY.out.lt HB.out.limbs; omega)
          have F4 : Hid (Below wr.heap.size wr w2) := f4
          have FJ : Hid (gcdI (val vs) (val r) = g) := by
            show gcdI (val vs) (val r) = g
            rw [f5.2.2.val, ← gcdI_step HUV.out.1 HUV.out.2]; exact HG.out
          have FM : Hid ((val r).toNat < gk) := by
            have := HK.out
            have := HVP.out
            show (val r).toNat < gk
            rw [f5.2.2.val]
            omega
          clear f1 f2 f3 f4 f5 hm0 hm1
          go_wp2_with fail
          go_roundg ((val r).toNat)
          case measure => exact FM.out
          case rel => exact ⟨do_, ro, nd, cd, rn, rc, vs, r, rfl, rfl, Nat.le_refl _, HB.out.below F4.out, F2.out, HY.out, F6.out, FJ.out, HBL.out.trans (F4.out.mono HBL.out.size)⟩
    · have HY : Hid (¬ May ys) := hy
      clear hy la lb
      go_enter Try.func33, Try.ntmps33
      go_wp2_with fail
      refine (rmay_val _ _ _ xs _ HA.out true (yes_iff HX.out)).mono ?_
      rintro e w1 ⟨rfl, rfl⟩
      go_wp2_with fail
      refine (rmay_val _ _ _ ys _ HB.out false (no_iff HY.out)).mono ?_
      rintro e w1 ⟨rfl, rfl⟩
      go_wp2_with fail
      go_ret2
      exact ⟨none, 0, 0, [], 1, rfl, RowAt.nil _, .arg (fun h => HY.out h.2), Below.refl _ _⟩
  · have HX : Hid (¬ May xs) := hx
    clear hx la lb
    go_enter Try.func33, Try.ntmps33
    go_wp2_with fail
    refine (rmay_val _ _ _ xs _ HA.out false (no_iff HX.out)).mono ?_
    rintro e w1 ⟨rfl, rfl⟩
    go_wp2_with fail
    go_ret2
    exact ⟨none, 0, 0, [], 1, rfl, RowAt.nil _, .arg (fun h => HX.out h.1), Below.refl _ _⟩

theorem num1 {x : Int} (h0 : 0 < x) (h1 : x < BB) : Num [x] x := by
  refine ⟨?_, ?_, by simp [val]⟩
  · intro y hy
    simp at hy
    subst hy
    exact ⟨by omega, h1⟩
  · intro n hn
    simp at hn
    subst hn
    simp
    omega

theorem seven {q r : List Int} {k : Int} (h : DivOut [7] [2] q r k) : k = 0 ∧ q = [3] ∧ r = [1] := by
  have hB : BB = 18446744073709551616 := rfl
  have hb := Big_BB
  have n7 : Num [7] 7 := num1 (by omega) (by omega)
  have n2 : Num [2] 2 := num1 (by omega) (by omega)
  have f := h.is_fine ⟨n7.may.2 (by omega), n2.may.2 (by omega)⟩ (by rw [n2.val]; omega)
  rw [n7.val, n2.val] at f
  exact ⟨f.1, f.2.1.one (num1 (by omega) (by omega)), f.2.2.one (num1 (by omega) (by omega))⟩

end Go.Proofs.Ytnkjfandknndkaa

/-! Numbers in memory; ratio's Zero, isOne, May. -/
namespace Go.Proofs.Ytnkjfandknndkaa
open Go.RowKit

/-- A number's rows in memory. -/
structure RatAt (w : World) (no : Option Addr) (nn nc : Nat) (eo : Option Addr) (en ec : Nat) (r : RatL) : Prop where
  num : RowAt w no nn nc r.num
  den : RowAt w eo en ec r.den

theorem RatAt.below {w w' : World} {no : Option Addr} {nn nc : Nat} {eo : Option Addr} {en ec : Nat} {r : RatL} (h : RatAt w no nn nc eo en ec r) (hb : Below w.heap.size w w') : RatAt w' no nn nc eo en ec r := ⟨h.num.below hb, h.den.below hb⟩
theorem RatAt.lim {w : World} {no : Option Addr} {nn nc : Nat} {eo : Option Addr} {en ec : Nat} {r : RatL} (h : RatAt w no nn nc eo en ec r) : LimR r := ⟨h.num.limbs, h.den.limbs⟩
theorem RatAt.zero (w : World) : RatAt w none 0 0 none 0 0 rat0 := ⟨RowAt.nil _, RowAt.nil _⟩

/-- A number's variable in memory. -/
def RBox (W : World) (B : Nat) (neg : Bool) (no : Option Addr) (nn nc : Nat) (eo : Option Addr) (en ec : Nat) : Prop := W.heap[B]? = some (.cells #[.bool neg, .slice no nn nc, .slice eo en ec] 28 (0, 0))

theorem RBox.lt {W : World} {B : Nat} {neg : Bool} {no : Option Addr} {nn nc : Nat} {eo : Option Addr} {en ec : Nat} (h : RBox W B neg no nn nc eo en ec) : B < W.heap.size := (Array.getElem?_eq_some_iff.1 h).1
theorem RBox.c0 {W : World} {B : Nat} {neg : Bool} {no : Option Addr} {nn nc : Nat} {eo : Option Addr} {en ec : Nat} (h : RBox W B neg no nn nc eo en ec) : W.cell? ⟨B, 0, none⟩ = some (.bool neg) := by simp [World.cell?, show W.heap[B]? = _ from h]
theorem RBox.c1 {W : World} {B : Nat} {neg : Bool} {no : Option Addr} {nn nc : Nat} {eo : Option Addr} {en ec : Nat} (h : RBox W B neg no nn nc eo en ec) : W.cell? ⟨B, 1, none⟩ = some (.slice no nn nc) := by simp [World.cell?, show W.heap[B]? = _ from h]
theorem RBox.c2 {W : World} {B : Nat} {neg : Bool} {no : Option Addr} {nn nc : Nat} {eo : Option Addr} {en ec : Nat} (h : RBox W B neg no nn nc eo en ec) : W.cell? ⟨B, 2, none⟩ = some (.slice eo en ec) := by simp [World.cell?, show W.heap[B]? = _ from h]
theorem RBox.f {W : World} {B : Nat} {neg : Bool} {no : Option Addr} {nn nc : Nat} {eo : Option Addr} {en ec : Nat} (h : RBox W B neg no nn nc eo en ec) (k : Nat) : W.frozen? ⟨B, k, none⟩ = false := by simp [World.frozen?, show W.heap[B]? = _ from h]
theorem RBox.new (W : World) (neg : Bool) (no : Option Addr) (nn nc : Nat) (eo : Option Addr) (en ec : Nat) : RBox (W.alloc (.cells #[.bool neg, .slice no nn nc, .slice eo en ec] 28)) W.heap.size neg no nn nc eo en ec := heap_alloc_new W _
theorem RBox.below {W W' : World} {B : Nat} {neg : Bool} {no : Option Addr} {nn nc : Nat} {eo : Option Addr} {en ec : Nat} (h : RBox W B neg no nn nc eo en ec) (hb : Below W.heap.size W W') : RBox W' B neg no nn nc eo en ec := (hb.block B h.lt).trans h
theorem RBox.alloc {W : World} {B : Nat} {neg : Bool} {no : Option Addr} {nn nc : Nat} {eo : Option Addr} {en ec : Nat} (h : RBox W B neg no nn nc eo en ec) (o : Obj) : RBox (W.alloc o) B neg no nn nc eo en ec := h.below ((Below.refl _ _).alloc (Nat.le_refl _) o)

theorem set_cells {W : World} {B : Nat} {cs : Array Value} {t : TypeId} (h : W.heap[B]? = some (.cells cs t (0, 0))) (k : Nat) (v : Value) : (W.setCell ⟨B, k, none⟩ v).heap[B]? = some (.cells (cs.setIfInBounds k v) t (0, 0)) := by
  obtain ⟨hlt, hk⟩ := Array.getElem?_eq_some_iff.1 h
  show (W.heap.modify B _)[B]? = _
  rw [Array.getElem?_eq_getElem (by rw [Array.size_modify]; exact hlt), Array.getElem_modify_self, hk]
  rfl
/-- A number is stored into its variable. -/
theorem RBox.set {W : World} {B : Nat} {neg : Bool} {no : Option Addr} {nn nc : Nat} {eo : Option Addr} {en ec : Nat} (h : RBox W B neg no nn nc eo en ec) (neg' : Bool) (no' : Option Addr) (nn' nc' : Nat) (eo' : Option Addr) (en' ec' : Nat) :
    RBox (((W.setCell ⟨B, 0, none⟩ (.bool neg')).setCell ⟨B, 1, none⟩ (.slice no' nn' nc')).setCell ⟨B, 2, none⟩ (.slice eo' en' ec')) B neg' no' nn' nc' eo' en' ec' :=
  set_cells (set_cells (set_cells h 0 (.bool neg')) 1 (.slice no' nn' nc')) 2 (.slice eo' en' ec')
theorem below_set {n₀ : Nat} {a W : World} (h : Below n₀ a W) {B : Nat} (hB : n₀ ≤ B) (u v x : Value) : Below n₀ a (((W.setCell ⟨B, 0, none⟩ u).setCell ⟨B, 1, none⟩ v).setCell ⟨B, 2, none⟩ x) := ((h.setCell hB u).setCell hB v).setCell hB x
/-- Rows of limbs lie elsewhere than a number's variable. -/
theorem RowAt.setR {W : World} {B : Nat} {neg : Bool} {no : Option Addr} {nn nc : Nat} {eo : Option Addr} {en ec : Nat} {ao : Option Addr} {n cap : Nat} {xs : List Int} (h : RowAt W ao n cap xs) (hB : RBox W B neg no nn nc eo en ec) (u v x : Value) : RowAt (((W.setCell ⟨B, 0, none⟩ u).setCell ⟨B, 1, none⟩ v).setCell ⟨B, 2, none⟩ x) ao n cap xs := by
  refine ⟨h.len, h.limbs, h.fits, h.most, h.bare, fun hne => ?_⟩
  obtain ⟨b, off, rfl, hlt, hc⟩ := h.cells hne
  have hbB : b ≠ B := by
    rintro rfl
    have h0 := hc 0 (List.length_pos_iff.2 hne)
    unfold World.cell? at h0
    rw [show W.heap[(⟨b, off + 0, none⟩ : Addr).block]? = _ from hB] at h0
    simp only [Nat.add_zero] at h0
    match off with
    | 0 => simp at h0
    | 1 => simp at h0
    | 2 => simp at h0
    | k + 3 => simp at h0
  have e1 : ∀ (V : World) (k : Nat) (y : Value), (V.setCell ⟨B, k, none⟩ y).heap[b]? = V.heap[b]? := fun V k y => Below.heap_setCell V ⟨B, k, none⟩ y b hbB
  have hb := ((e1 _ 2 x).trans (e1 _ 1 v)).trans (e1 W 0 u)
  have s1 : ∀ (V : World) (k : Nat) (y : Value), (V.setCell ⟨B, k, none⟩ y).heap.size = V.heap.size := fun V k y => by simp [World.setCell]
  exact ⟨b, off, rfl, by rw [s1, s1, s1]; exact hlt, fun j hj => (World.cell?_of_block (a := ⟨b, off + j, none⟩) hb).trans (hc j hj)⟩
theorem RatAt.setR {W : World} {B : Nat} {neg : Bool} {no : Option Addr} {nn nc : Nat} {eo : Option Addr} {en ec : Nat} {po : Option Addr} {pn pc : Nat} {qo : Option Addr} {qn qc : Nat} {r : RatL} (h : RatAt W po pn pc qo qn qc r) (hB : RBox W B neg no nn nc eo en ec) (u v x : Value) : RatAt (((W.setCell ⟨B, 0, none⟩ u).setCell ⟨B, 1, none⟩ v).setCell ⟨B, 2, none⟩ x) po pn pc qo qn qc r := ⟨h.num.setR hB u v x, h.den.setR hB u v x⟩

theorem load_r {w : World} {B : Nat} {neg : Bool} {no : Option Addr} {nn nc : Nat} {eo : Option Addr} {en ec : Nat} (h : RBox w B neg no nn nc eo en ec) : (loadVar 28 ⟨B, 0, none⟩).run Try.prog w = .ok (.agg #[.bool neg, .slice no nn nc, .slice eo en ec]) w :=
  run_loadVar_row w B 28 28 _ (0, 0) _ h Try.underlying28 rfl (by kernel_rfl)

theorem results_r2 {fn : Func} {t u : Tmp} (hf : fn.results = #[.cell t 28, .tmp u]) (tmps : Array Value) {w : World} {B : Nat} {neg : Bool} {no : Option Addr} {nn nc : Nat} {eo : Option Addr} {en ec : Nat} (h : RBox w B neg no nn nc eo en ec) (ht : tmps[t]?.getD undef = .pointer (some ⟨B, 0, none⟩)) (v : Value) (hv : tmps[u]?.getD undef = v) :
    (results fn tmps).run Try.prog w = .ok (.tuple #[.agg #[.bool neg, .slice no nn nc, .slice eo en ec], v]) w := by
  simp only [results, hf]
  simp [Result.andThen, asAddr, ht, hv, load_r h]

theorem results_r1 {fn : Func} {t : Tmp} (hf : fn.results = #[.cell t 28]) (tmps : Array Value) {w : World} {B : Nat} {neg : Bool} {no : Option Addr} {nn nc : Nat} {eo : Option Addr} {en ec : Nat} (h : RBox w B neg no nn nc eo en ec) (ht : tmps[t]?.getD undef = .pointer (some ⟨B, 0, none⟩)) :
    (results fn tmps).run Try.prog w = .ok (.agg #[.bool neg, .slice no nn nc, .slice eo en ec]) w := by
  simp only [results, hf]
  simp [asAddr, ht, load_r h]

theorem nn_most {w : World} {ao : Option Addr} {n cap : Nat} {xs : List Int} (h : RowAt w ao n cap xs) : (n : Int) ≤ 9223372036854775807 := by have := h.fits; have := h.most; unfold maxLen at this; omega

set_option maxHeartbeats 400000 in
theorem zero_any (neg : Bool) (no : Option Addr) (nn nc : Nat) (eo : Option Addr) (en ec : Nat) (w : World) (hn : (nn : Int) ≤ 9223372036854775807) :
    Calls Try.prog 25 #[.agg #[.bool neg, .slice no nn nc, .slice eo en ec]] w fun e w' => e = .returned (.bool (decide (nn = 0))) ∧ Below w.heap.size w w' := by
  go_enter Try.func25, Try.ntmps25
  go_wp2
  go_ret
  refine ⟨ret_bool ?_, (Below.refl _ _).alloc (Nat.le_refl _) _⟩
  by_cases h : nn = 0
  · subst h; rfl
  · have : ((nn : Int) == 0) = false := by rw [beq_eq_false_iff_ne]; omega
    rw [this]
    simp [h]

set_option maxHeartbeats 400000 in
theorem isOne_val (ao : Option Addr) (n cap : Nat) (xs : List Int) (v : Int) (w : World) (h : RowAt w ao n cap xs) (hv : Num xs v) (b : Bool) (hb : b = true ↔ v = 1) :
    Calls Try.prog 53 #[.slice ao n cap] w fun e w' => e = .returned (.bool b) ∧ Below w.heap.size w w' := by
  have hn := nn_most h
  have hone : xs = [1] ↔ v = 1 := ⟨fun e => by rw [← hv.val, e]; simp [val], fun e => by subst e; exact hv.one (num1 (by omega) (by unfold BB; omega))⟩
  have hl := h.len
  by_cases h1 : n = 1
  · subst h1
    obtain ⟨b1, off, rfl, hlt, hc⟩ := h.cells (by intro e; rw [e] at hl; simp at hl)
    have hc0 := hc 0 (by omega)
    rw [Nat.add_zero] at hc0
    obtain ⟨x, hx⟩ : ∃ x, x = xs.getD 0 0 := ⟨_, rfl⟩
    rw [← hx] at hc0
    have hxe : xs = [x] := by
      match xs, hl with
      | [y], _ => rw [hx]; rfl
    have HB : Hid (b = (x == 1)) := by
      have h9 : b = (x == 1) := by
        rw [Bool.eq_iff_iff, hb, ← hone, hxe]
        simp
      exact h9
    clear hc hx hxe hl hone hb hv h
    go_enter Try.func53, Try.ntmps53
    go_wp2
    go_ret
    exact ⟨ret_bool HB.out.symm, Below.refl _ _⟩
  · have hbf : b = false := by
      cases e : b with
      | false => rfl
      | true =>
        have := hone.2 (hb.1 e)
        rw [this] at hl
        exact absurd hl.symm h1
    have h1b : ((n : Int) == 1) = false := by rw [beq_eq_false_iff_ne]; omega
    subst hbf
    clear hl hone hb hv h h1
    go_enter Try.func53, Try.ntmps53
    go_wp2
    go_ret
    exact ⟨rfl, Below.refl _ _⟩

set_option maxHeartbeats 1000000 in
theorem rmay_r (neg : Bool) (no : Option Addr) (nn nc : Nat) (eo : Option Addr) (en ec : Nat) (r : RatL) (w : World) (h : RatAt w no nn nc eo en ec r) (hg : r.neg = neg) (b : Bool) (hb : b = true ↔ MayR r) :
    Calls Try.prog 29 #[.agg #[.bool neg, .slice no nn nc, .slice eo en ec]] w fun e w' => e = .returned (.bool b) ∧ Below w.heap.size w w' := by
  have hnn := nn_most h.num
  have hen := nn_most h.den
  have bx := RBox.new w neg no nn nc eo en ec
  have hB0 : Below w.heap.size w (w.alloc (.cells #[.bool neg, .slice no nn nc, .slice eo en ec] 28)) := (Below.refl _ _).alloc (Nat.le_refl _) _
  have H : Hid (RatAt (w.alloc (.cells #[.bool neg, .slice no nn nc, .slice eo en ec] 28)) no nn nc eo en ec r ∧ RBox (w.alloc (.cells #[.bool neg, .slice no nn nc, .slice eo en ec] 28)) w.heap.size neg no nn nc eo en ec ∧ Below w.heap.size w (w.alloc (.cells #[.bool neg, .slice no nn nc, .slice eo en ec] 28)) ∧ r.neg = neg ∧ (b = true ↔ MayR r)) := ⟨h.below hB0, bx, hB0, hg, hb⟩
  have hlen := h.den.len
  have hlen2 := h.num.len
  have HL : Hid (r.den.length = en ∧ r.num.length = nn ∧ LimR r) := ⟨hlen, hlen2, h.lim⟩
  clear bx hB0 h hg hb hlen hlen2
  go_enter Try.func29, Try.ntmps29
  go_wp2_with fail
  refine (qgcd_any _ _ _ _ _ _ r.num r.den _ H.out.1.num H.out.1.den).mono ?_
  rintro e w1 ⟨go, gn, gc, g, k, rfl, g1, g2, g3⟩
  have bx1 := H.out.2.1.below g3
  have c0 := bx1.c0
  have c1 := bx1.c1
  have c2 := bx1.c2
  have HG : Hid (RowAt w1 go gn gc g ∧ Out (May r.num ∧ May r.den) False (gcdI (val r.num) (val r.den)) g k ∧ Below w.heap.size w w1 ∧ RBox w1 w.heap.size neg no nn nc eo en ec) := ⟨g1, g2, chain H.out.2.2.1 g3, bx1⟩
  clear g1 g2 g3 bx1
  by_cases hm : May r.num ∧ May r.den
  · have hlt := gcdI_lt (val_bd HL.out.2.2.1).1 (val_bd HL.out.2.2.2).1 (hm.1.lt HL.out.2.2.1) (hm.2.lt HL.out.2.2.2)
    obtain ⟨hk0, hnum⟩ := HG.out.2.1.ok_num hm (fun f => f) hlt
    subst hk0
    have HM : Hid ((May r.num ∧ May r.den) ∧ Num g (gcdI (val r.num) (val r.den))) := ⟨hm, hnum⟩
    clear hm hlt hnum
    by_cases h1 : gcdI (val r.num) (val r.den) = 1
    · have HO : Hid (gcdI (val r.num) (val r.den) = 1) := h1
      clear h1
      go_wp2_with fail
      refine (isOne_val _ _ _ g _ _ HG.out.1 HM.out.2 true (yes_iff HO.out)).mono ?_
      rintro e w2 ⟨rfl, b2⟩
      have bx2 := HG.out.2.2.2.below b2
      have d0 := bx2.c0
      have d1 := bx2.c1
      have d2 := bx2.c2
      have H2 : Hid (Below w.heap.size w w2) := chain HG.out.2.2.1 b2
      clear b2 bx2 c0 c1 c2
      by_cases he : en = 0
      · subst he
        have hbf : b = false := by
          cases e : b with
          | false => rfl
          | true => exact absurd ((val_zero HL.out.2.2.2 (H.out.2.2.2.2.1 e).den HL.out.1).1 rfl) (H.out.2.2.2.2.1 e).pos
        subst hbf
        go_wp2
        go_ret
        exact ⟨rfl, H2.out⟩
      · have he' : (0 : Int) < (en : Int) := by omega
        have HE : Hid (val r.den ≠ 0) := fun e => he ((val_zero HL.out.2.2.2 HM.out.1.2 HL.out.1).2 e)
        clear he
        cases neg with
        | false =>
          have hbt : b = true := H.out.2.2.2.2.2 ⟨HM.out.1.1, HM.out.1.2, HE.out, HO.out, fun h => by rw [H.out.2.2.2.1] at h; cases h⟩
          subst hbt
          go_wp2
          go_ret
          exact ⟨rfl, H2.out⟩
        | true =>
          go_wp2_with fail
          refine (zero_any true no nn nc eo en ec _ hnn).mono ?_
          rintro e w3 ⟨rfl, b3⟩
          have H3 : Hid (Below w.heap.size w w3) := chain H2.out b3
          have HB : Hid ((!decide (nn = 0)) = b) := by
            have h9 : (!decide (nn = 0)) = b := by
              rw [Bool.eq_iff_iff, H.out.2.2.2.2]
              simp
              constructor
              · intro hz
                exact ⟨HM.out.1.1, HM.out.1.2, HE.out, HO.out, fun _ e => hz ((val_zero HL.out.2.2.1 HM.out.1.1 HL.out.2.1).2 e)⟩
              · intro hmr hz
                exact hmr.sign H.out.2.2.2.1 ((val_zero HL.out.2.2.1 HM.out.1.1 HL.out.2.1).1 hz)
            exact h9
          clear b3
          go_wp2
          go_ret
          exact ⟨ret_bool (by simpa using HB.out), H3.out⟩
    · have HO : Hid (¬ gcdI (val r.num) (val r.den) = 1) := h1
      clear h1
      go_wp2_with fail
      refine (isOne_val _ _ _ g _ _ HG.out.1 HM.out.2 false (no_iff HO.out)).mono ?_
      rintro e w2 ⟨rfl, b2⟩
      have H2 : Hid (Below w.heap.size w w2) := chain HG.out.2.2.1 b2
      have hbf : b = false := by
        cases e : b with
        | false => rfl
        | true => exact absurd (H.out.2.2.2.2.1 e).low HO.out
      subst hbf
      clear b2
      go_wp2
      go_ret
      exact ⟨rfl, H2.out⟩
  · obtain ⟨hk, _⟩ := HG.out.2.1.is_arg hm
    subst hk
    have hbf : b = false := by
      cases e : b with
      | false => rfl
      | true => exact absurd ⟨(H.out.2.2.2.2.1 e).num, (H.out.2.2.2.2.1 e).den⟩ hm
    subst hbf
    clear hm
    go_wp2
    go_ret
    exact ⟨rfl, HG.out.2.2.1⟩

end Go.Proofs.Ytnkjfandknndkaa
