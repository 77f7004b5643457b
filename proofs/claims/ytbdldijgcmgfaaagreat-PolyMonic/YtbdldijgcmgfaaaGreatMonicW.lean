/-
  The walk of the law of Monic.
-/
import Derived.Test.YtbdldijgcmgfaaaGreatZeroW
import Derived.Test.YtbdldijgcmgfaaaGreatJW1
import Derived.Deep.RegionHeld3
namespace Go.Proofs.YtbdldijgcmgfaaaGreat
open Go.RowKit

/-- A number of small parts. -/
def Bd (r : RatL) : Prop := ∃ N D, Is r N D ∧ (N.natAbs : Int) ≤ 1000000000 ∧ D ≤ 1000000000
theorem is_prod {a b r : RatL} {N D M E : Int} (h : Is r (a.top * b.top) (a.bot * b.bot)) (ha : Is a N D) (hb : Is b M E) : Is r (N * M) (D * E) := by
  refine h.same (Int.mul_pos ha.pos hb.pos) ?_
  obtain ⟨c, c0, hD, hN⟩ := ha.parts
  obtain ⟨d, d0, hE, hM⟩ := hb.parts
  rw [hD, hN, hE, hM]
  grind
theorem Is.self' {r : RatL} {N D : Int} (h : Is r N D) : Is r r.top r.bot := Is.self h.may h.lim

/-- The terms of a product by a number. -/
def TimQ (u : RatL) : List TL → List TL → Prop
  | [], [] => True
  | x :: p, y :: q => (Is y.c (x.c.top * u.top) (x.c.bot * u.bot) ∧ y.m = x.m) ∧ TimQ u p q
  | _, _ => False
theorem TimQ.len {u : RatL} : ∀ {p q : List TL}, TimQ u p q → q.length = p.length
  | [], [], _ => rfl
  | x :: p, y :: q, h => by simp [TimQ.len h.2]
  | [], _ :: _, h => h.elim
  | _ :: _, [], h => h.elim
theorem TimQ.mem {u : RatL} : ∀ {p q : List TL}, TimQ u p q → ∀ y ∈ q, ∃ x ∈ p, Is y.c (x.c.top * u.top) (x.c.bot * u.bot) ∧ y.m = x.m
  | [], [], _, y, hy => by simp at hy
  | x :: p, z :: q, h, y, hy => by
    rcases List.mem_cons.1 hy with rfl | hy
    · exact ⟨x, .head _, h.1⟩
    · obtain ⟨v, hv, hp⟩ := TimQ.mem h.2 y hy
      exact ⟨v, .tail _ hv, hp⟩
  | [], _ :: _, h, _, _ => h.elim
  | _ :: _, [], h, _, _ => h.elim
theorem TimQ.falls {o : Int} {u : RatL} : ∀ {p q : List TL}, TimQ u p q → Falls o p → Falls o q
  | [], [], _, _ => List.Pairwise.nil
  | x :: p, y :: q, h, hf => by
    obtain ⟨h1, h2⟩ := List.pairwise_cons.1 hf
    refine List.pairwise_cons.2 ⟨fun z hz => ?_, TimQ.falls h.2 h2⟩
    obtain ⟨v, hv, _, e⟩ := TimQ.mem h.2 z hz
    rw [h.1.2, e]
    exact h1 v hv
  | [], _ :: _, h, _ => h.elim
  | _ :: _, [], h, _ => h.elim
theorem timesQ {u : TL} (hu : Bd u.c) (hm : u.m = mo0) : ∀ {p out : List TL} {k : Int}, (∀ x ∈ p, Bd x.c ∧ MayM x.m) → TimesL u p out k → k = 0 ∧ TimQ u.c p out
  | [], out, k, _, h => by
    obtain ⟨rfl, rfl⟩ := h
    exact ⟨rfl, trivial⟩
  | x :: p, out, k, hp, h => by
    obtain ⟨⟨N, D, h1, h2, h3⟩, hx⟩ := hp x (.head _)
    obtain ⟨M, E, g1, g2, g3⟩ := hu
    obtain ⟨c, j, a1, _, a3⟩ := h
    have hbig := Big_BB
    have hle1 := h1.le
    have hle2 := g1.le
    obtain ⟨hj, _⟩ := mul_fine a1 h1 g1 (L := 1000000000) (K := 1000000000) h2 h3 g2 g3 (by unfold BB at hbig; omega)
    subst hj
    have hc : Is c (x.c.top * u.c.top) (x.c.bot * u.c.bot) := by
      by_cases tb : (Big ≤ val x.c.num * val u.c.num ∨ Big ≤ x.c.bot * u.c.bot)
      · have := (a1.big ⟨h1.may, g1.may⟩ tb).1; omega
      · exact (a1.fine ⟨h1.may, g1.may⟩ tb).2
    obtain ⟨m, i, b1, _, b3⟩ := a3 rfl
    have hmm : MayM (addM x.m u.m) := by rw [hm, addM_zero]; exact hx
    obtain ⟨rfl, hi⟩ := b1.fine hx (by rw [hm]; exact Mn.may_zero) hmm
    obtain ⟨rest, c1, _, c3⟩ := b3 hi
    obtain ⟨hk, hr⟩ := timesQ ⟨M, E, g1, g2, g3⟩ hm (fun y hy => hp y (.tail _ hy)) c1
    rw [c3 hk]
    exact ⟨hk, ⟨hc, by show addM x.m u.m = x.m; rw [hm, addM_zero]⟩, hr⟩
theorem TimQ.back {u v : RatL} {s a n : Int} (hu : Is u s a) (hv : Is v n 1) (e : s * n = a) : ∀ {p m q : List TL}, (∀ x ∈ p, Bd x.c) → TimQ u p m → TimQ v m q → q = p
  | [], [], [], _, _, _ => rfl
  | x :: p, y :: m, z :: q, hp, h, g => by
    obtain ⟨N, D, hx, _⟩ := hp x (.head _)
    have h1 : Is y.c (N * s) (D * a) := is_prod h.1.1 hx hu
    have h2 : Is z.c (N * s * n) (D * a * 1) := is_prod g.1.1 h1 hv
    have e1 : z.c = x.c := h2.one hx (by rw [← e]; grind)
    have e2 : z.m = x.m := g.1.2.trans h.1.2
    have e3 : z = x := by cases x; cases z; simp_all
    rw [e3, TimQ.back hu hv e (fun y hy => hp y (.tail _ hy)) h.2 g.2]
  | [], _ :: _, _, _, h, _ => h.elim
  | _ :: _, [], _, _, h, _ => h.elim
  | [], [], _ :: _, _, _, g => g.elim
  | _ :: _, _ :: _, [], _, _, g => g.elim
theorem TimQ.one {v : RatL} (hv : Is v 1 1) : ∀ {m q : List TL}, (∀ x ∈ m, Bd x.c) → TimQ v m q → q = m
  | [], [], _, _ => rfl
  | y :: m, z :: q, hp, g => by
    obtain ⟨N, D, hy, _⟩ := hp y (.head _)
    have h2 : Is z.c (N * 1) (D * 1) := is_prod g.1.1 hy hv
    have e1 : z.c = y.c := h2.one hy (by rw [Int.mul_one, Int.mul_one])
    have e3 : z = y := by have := g.1.2; cases y; cases z; simp_all
    rw [e3, TimQ.one hv (fun y hy => hp y (.tail _ hy)) g.2]
  | [], _ :: _, _, h => h.elim
  | _ :: _, [], _, h => h.elim

/-- What is known of what is made monic. -/
structure Mc (o : Int) (t : TL) (l m : List TL) : Prop where
  may : MayP o m
  bd : ∀ y ∈ m, Bd y.c
  len : m.length = (t :: l).length
  head : ∃ y r, m = y :: r ∧ Is y.c 1 1
  back : ∀ {q k}, TimesIs o m ⟨t.c, mo0⟩ q k → q = t :: l ∧ k = 0
  again : ∀ {q k}, MonicIs o m q k → q = m ∧ k = 0
theorem monic_made {o : Int} {t : TL} {l m : List TL} {k : Int} (ho : Ord o) (hp : Made o (t :: l)) (h : MonicIs o (t :: l) m k) : k = 0 ∧ Mc o t l m := by
  have hmp := hp.may ho
  have ht := hp.int.it t (.head _)
  have hz := hp.int.nz t (.head _)
  have hle := ht.le
  have hinv := ht.is.inv hz
  obtain ⟨a, ha⟩ : ∃ a : Int, a = (t.c.top.natAbs : Int) := ⟨_, rfl⟩
  obtain ⟨s, hs⟩ : ∃ s : Int, s = sg (decide (t.c.top < 0)) 1 := ⟨_, rfl⟩
  rw [← ha, ← hs] at hinv
  have hsa : s * t.c.top = a := by
    rw [hs, ha]
    unfold sg
    by_cases h0 : t.c.top < 0
    · rw [decide_eq_true h0]; simp; omega
    · rw [decide_eq_false h0]; simp; omega
  have hs1 : (s.natAbs : Int) ≤ 1 := by
    rw [hs]
    unfold sg
    by_cases h0 : t.c.top < 0
    · rw [decide_eq_true h0]; simp
    · rw [decide_eq_false h0]; simp
  have hbi : Bd t.c.inv := ⟨s, a, hinv, by omega, by omega⟩
  have hbp : ∀ x ∈ t :: l, Bd x.c ∧ MayM x.m := fun x hx => ⟨⟨_, _, (hp.int.it x hx).is, by have := (hp.int.it x hx).le; omega, by omega⟩, (hp.int.it x hx).m⟩
  have hti : t.c.inv.top ≠ 0 := by
    intro e
    have h1 := hinv.eq
    rw [e, Int.zero_mul] at h1
    have h2 := hinv.may.bot_pos hinv.lim
    have h3 : s ≠ 0 := by
      intro e2
      rw [e2, Int.zero_mul] at hsa
      have := hinv.pos
      omega
    rcases Int.mul_eq_zero.1 h1.symm with h | h
    · exact h3 h
    · omega
  obtain ⟨hk, hq⟩ := timesQ (u := ⟨t.c.inv, mo0⟩) hbi rfl hbp ((h.ok hmp t l rfl).all hti)
  have hbm : ∀ y ∈ m, Bd y.c ∧ MayM y.m ∧ MayR y.c ∧ y.c.top ≠ 0 := fun y hy => by
    obtain ⟨x, hx, h1, h2⟩ := hq.mem y hy
    have hxi := hp.int.it x hx
    have h3 : Is y.c (x.c.top * s) (1 * a) := is_prod h1 hxi.is hinv
    refine ⟨⟨_, _, h3, ?_, by omega⟩, by rw [h2]; exact hxi.m, h3.may, fun e => ?_⟩
    · rw [Int.natAbs_mul]
      have h4 := hxi.le
      have h5 : x.c.top.natAbs * s.natAbs ≤ 1280 * 1 := Nat.mul_le_mul h4 (by omega)
      omega
    · have h4 := h3.eq
      rw [e, Int.zero_mul] at h4
      have h5 := h3.may.bot_pos h3.lim
      have h6 : s ≠ 0 := by
        intro e2
        rw [e2, Int.zero_mul] at hsa
        have := hinv.pos
        omega
      rcases Int.mul_eq_zero.1 h4.symm with h | h
      · rcases Int.mul_eq_zero.1 h with h | h
        · exact hp.int.nz x hx h
        · exact h6 h
      · omega
  have hlen := hq.len
  have hmm : MayP o m := ⟨ho, by rw [hlen]; exact hmp.len, fun y hy => ⟨(hbm y hy).2.2.1, (hbm y hy).2.1⟩, fun y hy => (hbm y hy).2.2.2, hq.falls hmp.falls⟩
  have hbt : Bd t.c := (hbp t (.head _)).1
  refine ⟨hk, hmm, fun y hy => (hbm y hy).1, hlen, ?_, fun {q k} hqk => ?_, fun {q k} hqk => ?_⟩
  · match m, hq with
    | y :: r, hq =>
      refine ⟨y, r, rfl, ?_⟩
      have h3 : Is y.c (t.c.top * s) (1 * a) := is_prod hq.1.1 ht.is hinv
      exact h3.same (by omega) (by rw [Int.mul_one, Int.one_mul, Int.one_mul, ← hsa, Int.mul_comm])
  · obtain ⟨hk2, hq2⟩ := timesQ (u := ⟨t.c, mo0⟩) hbt rfl (fun y hy => ⟨(hbm y hy).1, (hbm y hy).2.1⟩) ((hqk.ok ⟨hmm, ht.is.may, Mn.may_zero⟩).all hz)
    exact ⟨hq.back hinv ht.is hsa (fun x hx => (hbp x hx).1) hq2, hk2⟩
  · match m, hq, hbm, hmm, hqk with
    | y :: r, hq, hbm, hmm, hqk =>
      have h3 : Is y.c (t.c.top * s) (1 * a) := is_prod hq.1.1 ht.is hinv
      have h4 : Is y.c 1 1 := h3.same (by omega) (by rw [Int.mul_one, Int.one_mul, Int.one_mul, ← hsa, Int.mul_comm])
      have h5 : Is y.c.inv 1 1 := h4.inv (by omega)
      obtain ⟨hk2, hq2⟩ := timesQ (u := ⟨y.c.inv, mo0⟩) ⟨1, 1, h5, by decide, by decide⟩ rfl (fun z hz => ⟨(hbm z hz).1, (hbm z hz).2.1⟩) ((hqk.ok hmm y r rfl).all (by show y.c.inv.top ≠ 0; rw [h5.whole1.1]; decide))
      exact ⟨hq2.one h5 (fun z hz => (hbm z hz).1), hk2⟩
end Go.Proofs.YtbdldijgcmgfaaaGreat
