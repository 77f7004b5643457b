/-
  Numbers in lowest terms, as arithmetic: no program.
-/
import Derived.Test.YtnkjfandknndkaaQuotMath
namespace Go.Proofs.Ytnkjfandknndkaa

/-- A number, by its parts. -/
structure RatL where
  neg : Bool
  num : List Int
  den : List Int

def rat0 : RatL := ⟨false, [], []⟩

/-- A number with a sign. -/
def sg (neg : Bool) (v : Int) : Int := if neg then -v else v
def RatL.top (a : RatL) : Int := sg a.neg (val a.num)
def RatL.bot (a : RatL) : Int := val a.den
/-- Its parts are limbs. -/
def LimR (a : RatL) : Prop := Limbs a.num ∧ Limbs a.den

/-- It is the one way to write its number. -/
structure MayR (a : RatL) : Prop where
  num : May a.num
  den : May a.den
  pos : val a.den ≠ 0
  low : gcdI (val a.num) (val a.den) = 1
  sign : a.neg = true → val a.num ≠ 0

theorem sg_abs (neg : Bool) {v : Int} (h : 0 ≤ v) : ((sg neg v).natAbs : Int) = v := by
  unfold sg; cases neg <;> simp <;> omega
theorem sg_zero (neg : Bool) {v : Int} : sg neg v = 0 ↔ v = 0 := by
  unfold sg; cases neg <;> simp
theorem sg_mul (neg : Bool) (v c : Int) : sg neg (v * c) = sg neg v * c := by
  unfold sg; cases neg <;> simp [Int.neg_mul]

theorem MayR.bot_pos {a : RatL} (h : MayR a) (l : LimR a) : 0 < a.bot := by
  have := (val_bd l.2).1
  have := h.pos
  unfold RatL.bot
  omega

theorem mayR_ex (a : RatL) : ∃ b : Bool, (b = true ↔ MayR a) := by
  by_cases h : MayR a
  · exact ⟨true, yes_iff h⟩
  · exact ⟨false, no_iff h⟩

theorem gcd_cut {t b n d m : Int} (ht : ((t.natAbs : Nat) : Int) = n) (hb : 0 < b) (hg : gcdI n b = 1) (h : t * d = m * b) : b ∣ d := by
  have h1 : b.natAbs ∣ t.natAbs * d.natAbs := by
    rw [← Int.natAbs_mul, h, Int.natAbs_mul]
    exact Nat.dvd_mul_left _ _
  have hc : Nat.Coprime b.natAbs t.natAbs := by
    unfold gcdI at hg
    have e1 : n.toNat = t.natAbs := by omega
    have e2 : b.toNat = b.natAbs := by omega
    rw [e1, e2] at hg
    unfold Nat.Coprime
    rw [Nat.gcd_comm]
    omega
  exact Int.natAbs_dvd_natAbs.1 (hc.dvd_of_dvd_mul_left h1)

/-- r is the number N by D. -/
structure Is (r : RatL) (N D : Int) : Prop where
  may : MayR r
  lim : LimR r
  pos : 0 < D
  eq : r.top * D = N * r.bot

theorem Is.parts {r : RatL} {N D : Int} (h : Is r N D) : ∃ c, 0 < c ∧ D = r.bot * c ∧ N = r.top * c := by
  have hb := h.may.bot_pos h.lim
  have hv := (val_bd h.lim.1).1
  obtain ⟨c, hc⟩ := gcd_cut (t := r.top) (sg_abs r.neg hv) hb h.may.low h.eq
  have hc0 : 0 < c := by
    rcases Int.lt_or_le 0 c with h' | h'
    · exact h'
    · have h2 := Int.mul_le_mul_of_nonneg_left h' (Int.le_of_lt hb)
      rw [Int.mul_zero] at h2
      have h3 : r.bot * c ≤ 0 := h2
      have := h.pos
      have h4 : D = r.bot * c := hc
      omega
  refine ⟨c, hc0, hc, ?_⟩
  have he := h.eq
  have hD : D = r.bot * c := hc
  rw [hD] at he
  have h5 : (r.top * c) * r.bot = N * r.bot := by rw [← he]; grind
  exact (Int.eq_of_mul_eq_mul_right (by omega) h5).symm

theorem rat_one {r s : RatL} (h : MayR r) (k : MayR s) (l : LimR r) (m : LimR s) (ht : r.top = s.top) (hb : r.bot = s.bot) : r = s := by
  have v1 := (val_bd l.1).1
  have v2 := (val_bd m.1).1
  have hv : val r.num = val s.num := by
    have a := sg_abs r.neg v1
    have b := sg_abs s.neg v2
    unfold RatL.top at ht
    rw [ht] at a
    omega
  have hn : r.num = s.num := row_one l.1 h.num.2 m.1 k.num.2 hv
  have hd : r.den = s.den := row_one l.2 h.den.2 m.2 k.den.2 hb
  have hs : r.neg = s.neg := by
    have h1 := h.sign
    have h2 := k.sign
    unfold RatL.top sg at ht
    cases e1 : r.neg <;> cases e2 : s.neg <;> simp [e1, e2] at h1 h2 ht <;> first | rfl | omega
  cases r
  cases s
  simp_all

theorem Is.cross {r s : RatL} {N D M E : Int} (h : Is r N D) (k : Is s M E) : ∃ c, 0 < c ∧ N * E = (r.top * s.bot) * c ∧ M * D = (s.top * r.bot) * c := by
  obtain ⟨c, c0, hD, hN⟩ := h.parts
  obtain ⟨d, d0, hE, hM⟩ := k.parts
  refine ⟨c * d, Int.mul_pos c0 d0, ?_, ?_⟩
  · rw [hN, hE]; grind
  · rw [hM, hD]; grind

theorem Is.one {r s : RatL} {N D M E : Int} (h : Is r N D) (k : Is s M E) (e : N * E = M * D) : r = s := by
  have hx : r.top * s.bot = s.top * r.bot := by
    obtain ⟨c, c0, h1, h2⟩ := h.cross k
    rw [h1, h2] at e
    exact Int.eq_of_mul_eq_mul_right (by omega) e
  have h1 : Is r s.top s.bot := ⟨h.may, h.lim, k.may.bot_pos k.lim, hx⟩
  have h2 : Is s r.top r.bot := ⟨k.may, k.lim, h.may.bot_pos h.lim, hx.symm⟩
  obtain ⟨c, c0, a1, a2⟩ := h1.parts
  obtain ⟨d, d0, b1, b2⟩ := h2.parts
  have hb := h.may.bot_pos h.lim
  have hcd : r.bot * (c * d) = r.bot * 1 := by
    rw [a1] at b1
    grind
  have h3 : c * d = 1 := Int.eq_of_mul_eq_mul_left (by omega) hcd
  have hc : c = 1 := by
    have := Int.mul_le_mul_of_nonneg_left (show 1 ≤ d by omega) (show 0 ≤ c by omega)
    omega
  rw [hc, Int.mul_one] at a1 a2
  exact rat_one h.may k.may h.lim k.lim a2.symm a1.symm

theorem Is.self {r : RatL} (h : MayR r) (l : LimR r) : Is r r.top r.bot := ⟨h, l, h.bot_pos l, rfl⟩
theorem Is.same {r : RatL} {N D M E : Int} (h : Is r N D) (hE : 0 < E) (e : N * E = M * D) : Is r M E := by
  refine ⟨h.may, h.lim, hE, ?_⟩
  obtain ⟨c, c0, hD, hN⟩ := h.parts
  rw [hD, hN] at e
  have : (r.top * E) * c = (M * r.bot) * c := by grind
  exact Int.eq_of_mul_eq_mul_right (by omega) this

/-- The parts are no greater than whatever the number was made of. -/
theorem Is.le {r : RatL} {N D : Int} (h : Is r N D) : val r.num ≤ N.natAbs ∧ r.bot ≤ D := by
  obtain ⟨c, c0, hD, hN⟩ := h.parts
  have hb := h.may.bot_pos h.lim
  have hv := (val_bd h.lim.1).1
  have ha := sg_abs r.neg hv
  constructor
  · rw [hN, Int.natAbs_mul]
    have h1 : (r.top.natAbs : Int) = val r.num := ha
    have h2 := Int.mul_le_mul_of_nonneg_left (show 1 ≤ c by omega) hv
    have h3 : ((r.top.natAbs * c.natAbs : Nat) : Int) = val r.num * c := by
      rw [Int.natCast_mul, h1]
      congr 1
      omega
    rw [h3]
    omega
  · rw [hD]
    have h2 := Int.mul_le_mul_of_nonneg_left (show 1 ≤ c by omega) (Int.le_of_lt hb)
    omega

/-- What a call on two numbers tells. -/
structure OpOut (ok tb : Prop) (N D : Int) (r : RatL) (k : Int) : Prop where
  arg : ¬ ok → k = 1 ∧ r = rat0
  big : ok → tb → k = 21 ∧ r = rat0
  fine : ok → ¬ tb → k = 0 ∧ Is r N D

theorem OpOut.one {ok tb : Prop} {N D : Int} {r s : RatL} {k l : Int} (h : OpOut ok tb N D r k) (h' : OpOut ok tb N D s l) : r = s ∧ k = l := by
  by_cases o : ok
  · by_cases b : tb
    · exact ⟨(h.big o b).2.trans (h'.big o b).2.symm, (h.big o b).1.trans (h'.big o b).1.symm⟩
    · exact ⟨(h.fine o b).2.one (h'.fine o b).2 rfl, (h.fine o b).1.trans (h'.fine o b).1.symm⟩
  · exact ⟨(h.arg o).2.trans (h'.arg o).2.symm, (h.arg o).1.trans (h'.arg o).1.symm⟩

/-- What Make tells. -/
structure MakeOut (neg : Bool) (xs ys : List Int) (r : RatL) (k : Int) : Prop where
  arg : ¬ (May xs ∧ May ys) → k = 1 ∧ r = rat0
  zero : May xs ∧ May ys → val ys = 0 → k = 30 ∧ r = rat0
  fine : May xs ∧ May ys → val ys ≠ 0 → k = 0 ∧ Is r (sg neg (val xs)) (val ys)

theorem MakeOut.one {neg : Bool} {xs ys : List Int} {r s : RatL} {k l : Int} (h : MakeOut neg xs ys r k) (h' : MakeOut neg xs ys s l) : r = s ∧ k = l := by
  by_cases o : May xs ∧ May ys
  · by_cases b : val ys = 0
    · exact ⟨(h.zero o b).2.trans (h'.zero o b).2.symm, (h.zero o b).1.trans (h'.zero o b).1.symm⟩
    · exact ⟨(h.fine o b).2.one (h'.fine o b).2 rfl, (h.fine o b).1.trans (h'.fine o b).1.symm⟩
  · exact ⟨(h.arg o).2.trans (h'.arg o).2.symm, (h.arg o).1.trans (h'.arg o).1.symm⟩

theorem Is.made {neg : Bool} {xs ys p q : List Int} (lx : Limbs xs) (ly : Limbs ys) (mx : May xs) (my : May ys) (hy : val ys ≠ 0) (hp : Num p (val xs / gcdI (val xs) (val ys))) (hq : Num q (val ys / gcdI (val xs) (val ys))) :
    Is ⟨neg && decide (0 < p.length), p, q⟩ (sg neg (val xs)) (val ys) := by
  have vx := (val_bd lx).1
  have vy := (val_bd ly).1
  have y0 : 0 < val ys := by omega
  obtain ⟨P, Q, hP, hQ, e1, e2, e3⟩ := gcdI_dvd (a := val ys) (b := val xs) y0 vx
  have hG := gcdI_pos (b := val xs) y0
  rw [gcdI_comm (val xs)] at hp hq
  have bx := May.lt lx mx
  have bY := May.lt ly my
  have dq : val ys / gcdI (val ys) (val xs) = P := by
    have := Int.mul_ediv_cancel_left P (show gcdI (val ys) (val xs) ≠ 0 by omega)
    rw [← e1] at this
    exact this
  have dp : val xs / gcdI (val ys) (val xs) = Q := by
    have := Int.mul_ediv_cancel_left Q (show gcdI (val ys) (val xs) ≠ 0 by omega)
    rw [← e2] at this
    exact this
  rw [dq] at hq
  rw [dp] at hp
  have hPl : P ≤ val ys := by
    have := Int.mul_le_mul_of_nonneg_right (show 1 ≤ gcdI (val ys) (val xs) by omega) (Int.le_of_lt hP)
    omega
  have hQl : Q ≤ val xs := by
    have := Int.mul_le_mul_of_nonneg_right (show 1 ≤ gcdI (val ys) (val xs) by omega) hQ
    omega
  have hlen : (0 < p.length) ↔ Q ≠ 0 := by
    have := num_len_zero hp
    omega
  refine ⟨⟨hp.may.2 (by omega), hq.may.2 (by omega), by rw [hq.val]; omega, by rw [hp.val, hq.val, gcdI_comm]; exact e3, fun h => ?_⟩, ⟨hp.limbs, hq.limbs⟩, y0, ?_⟩
  · rw [hp.val]
    simp only [Bool.and_eq_true, decide_eq_true_eq] at h
    exact hlen.1 h.2
  · show sg (neg && decide (0 < p.length)) (val p) * val ys = sg neg (val xs) * val q
    have hs : sg (neg && decide (0 < p.length)) (val p) = sg neg Q := by
      rw [hp.val]
      by_cases hz : Q = 0
      · subst hz
        unfold sg
        simp
      · rw [decide_eq_true (hlen.2 hz), Bool.and_true]
    rw [hs, hq.val, e2, Int.mul_comm (gcdI _ _) Q, sg_mul]
    have e4 : val ys = gcdI (val ys) (val xs) * P := e1
    generalize gcdI (val ys) (val xs) = G at *
    rw [e4]
    grind

theorem sg_not (neg : Bool) (v : Int) : sg (!neg) v = - sg neg v := by unfold sg; cases neg <;> simp

/-- A number with the other sign. -/
def RatL.flip (a : RatL) : RatL := ⟨if a.num.length = 0 then a.neg else !a.neg, a.num, a.den⟩
theorem MayR.zero_len {a : RatL} (h : MayR a) (l : LimR a) : a.num.length = 0 ↔ a.top = 0 := by
  rw [num_len_zero (num_self l.1 h.num)]
  exact (sg_zero a.neg).symm
theorem Is.flip {r : RatL} {N D : Int} (h : Is r N D) : Is r.flip (-N) D := by
  have hz := h.may.zero_len h.lim
  have ht : r.flip.top = - r.top := by
    show sg (if r.num.length = 0 then r.neg else !r.neg) (val r.num) = - sg r.neg (val r.num)
    by_cases h0 : r.num.length = 0
    · have h1 := hz.1 h0
      rw [if_pos h0]
      have h2 : sg r.neg (val r.num) = 0 := h1
      omega
    · rw [if_neg h0, sg_not]
  refine ⟨⟨h.may.num, h.may.den, h.may.pos, h.may.low, fun hs => ?_⟩, h.lim, h.pos, ?_⟩
  · show val r.num ≠ 0
    intro e
    have h0 : r.num.length = 0 := (num_len_zero (num_self h.lim.1 h.may.num)).2 e
    have h2 : r.flip.neg = r.neg := by show (if r.num.length = 0 then r.neg else !r.neg) = r.neg; rw [if_pos h0]
    rw [h2] at hs
    exact h.may.sign hs e
  · rw [ht, Int.neg_mul, h.eq, Int.neg_mul]
    rfl

/-- 1 by a number. -/
def RatL.inv (a : RatL) : RatL := ⟨a.neg, a.den, a.num⟩
theorem Is.inv {r : RatL} {N D : Int} (h : Is r N D) (hN : N ≠ 0) : Is r.inv (sg (decide (N < 0)) D) (N.natAbs) := by
  obtain ⟨c, c0, hD, hNc⟩ := h.parts
  have hb := h.may.bot_pos h.lim
  have hv := (val_bd h.lim.1).1
  have ht : r.top ≠ 0 := by
    intro e
    rw [e, Int.zero_mul] at hNc
    exact hN hNc
  have hnum : val r.num ≠ 0 := fun e => ht ((sg_zero r.neg).2 e)
  have hneg : decide (N < 0) = r.neg := by
    have ha := sg_abs r.neg hv
    rw [hNc]
    cases e : r.neg with
    | true =>
      have h1 : r.top = - val r.num := by unfold RatL.top sg; rw [e]; rfl
      have h2 := Int.mul_pos (show 0 < val r.num by omega) c0
      rw [h1, Int.neg_mul]
      exact decide_eq_true (by omega)
    | false =>
      have h1 : r.top = val r.num := by unfold RatL.top sg; rw [e]; rfl
      have h2 := Int.mul_pos (show 0 < val r.num by omega) c0
      rw [h1]
      exact decide_eq_false (by omega)
  refine ⟨⟨h.may.den, h.may.num, hnum, by show gcdI (val r.den) (val r.num) = 1; rw [gcdI_comm]; exact h.may.low, fun _ => h.may.pos⟩, ⟨h.lim.2, h.lim.1⟩, by omega, ?_⟩
  rw [hneg]
  show sg r.neg (val r.den) * (N.natAbs : Int) = sg r.neg D * val r.num
  have hab : (N.natAbs : Int) = val r.num * c := by
    have h1 : (r.top.natAbs : Int) = val r.num := sg_abs r.neg hv
    rw [hNc, Int.natAbs_mul, Int.natCast_mul, h1]
    congr 1
    omega
  have hD2 : D = val r.den * c := hD
  rw [hab, hD2, sg_mul]
  grind

end Go.Proofs.Ytnkjfandknndkaa
