/-
  Polynomials, as arithmetic: no program.
-/
import Derived.Deep.DrawnRows
import Derived.Deep.RegionHeld3
import Derived.Test.YtnedghhcidohnaaGreatJP1
import Derived.Test.YtnedghhcidohnaaGreatJN1
namespace Go.Proofs.YtnedghhcidohnaaGreat
open Go.RowKit

/-- A monomial. -/
structure Mo where
  a : Int
  b : Int
  c : Int
  d : Int
/-- A term. -/
structure TL where
  c : RatL
  m : Mo

theorem Mo.ext4 {m n : Mo} (h1 : m.a = n.a) (h2 : m.b = n.b) (h3 : m.c = n.c) (h4 : m.d = n.d) : m = n := by
  cases m; cases n; simp_all
/-- Are two monomials the same? -/
def Mo.dec (m n : Mo) : Decidable (m = n) :=
  if h : m.a = n.a ∧ m.b = n.b ∧ m.c = n.c ∧ m.d = n.d then .isTrue (Mo.ext4 h.1 h.2.1 h.2.2.1 h.2.2.2) else .isFalse (fun e => h (by subst e; exact ⟨rfl, rfl, rfl, rfl⟩))

def MayM (m : Mo) : Prop := Mn.May4 m.a m.b m.c m.d
structure MayT (t : TL) : Prop where
  c : MayR t.c
  m : MayM t.m
/-- An order that is one. -/
structure Ord (o : Int) : Prop where
  lo : 0 ≤ o
  hi : o ≤ 2
def UpM (o : Int) (m n : Mo) : Prop := Mn.Up o m.a m.b m.c m.d n.a n.b n.c n.d
def CmpM (o : Int) (m n : Mo) (k : Int) : Prop := Mn.CmpIs o m.a m.b m.c m.d n.a n.b n.c n.d k
def MulM (m n r : Mo) (k : Int) : Prop := Mn.MulIs m.a m.b m.c m.d n.a n.b n.c n.d r.a r.b r.c r.d k

theorem CmpM.ex (o : Int) (m n : Mo) : ∃ k, CmpM o m n k := Mn.CmpIs.ex ..
theorem MulM.ex (m n : Mo) : ∃ r k, MulM m n r k := by
  obtain ⟨x, y, z, u, k, h⟩ := Mn.MulIs.ex m.a m.b m.c m.d n.a n.b n.c n.d
  exact ⟨⟨x, y, z, u⟩, k, h⟩
theorem CmpM.spec {o : Int} {m n : Mo} {k : Int} (h : CmpM o m n k) (hm : MayM m) (hn : MayM n) (ho : Ord o) : (k = 1 ∧ UpM o m n) ∨ (k = 0 ∧ m = n) ∨ (k = -1 ∧ UpM o n m) := by
  rcases Mn.CmpIs.spec h ⟨hm, hn⟩ ho.lo ho.hi with h | ⟨h, h1, h2, h3, h4⟩ | h
  · exact .inl h
  · exact .inr (.inl ⟨h, Mo.ext4 h1 h2 h3 h4⟩)
  · exact .inr (.inr h)
theorem UpM.irr {o : Int} {m n : Mo} (h : UpM o m n) (g : UpM o n m) (ho : Ord o) : False := Mn.Up.irr h g ho.lo ho.hi
theorem UpM.self {o : Int} {m : Mo} (h : UpM o m m) (ho : Ord o) : False := h.irr h ho
theorem UpM.trans {o : Int} {m n r : Mo} (h : UpM o m n) (g : UpM o n r) (ho : Ord o) : UpM o m r := Mn.Up.trans h g ho.lo ho.hi

/-- Terms fall. -/
def Falls (o : Int) (p : List TL) : Prop := p.Pairwise fun s t => UpM o s.m t.m
theorem falls_one {o : Int} (ho : Ord o) : ∀ (p q : List TL), Falls o p → Falls o q → (∀ t, t ∈ p ↔ t ∈ q) → p = q
  | [], [], _, _, _ => rfl
  | [], b :: q, _, _, h => absurd ((h b).2 (.head _)) (by simp)
  | a :: p, [], _, _, h => absurd ((h a).1 (.head _)) (by simp)
  | a :: p, b :: q, hp, hq, h => by
    obtain ⟨h1, h2⟩ := List.pairwise_cons.1 hp
    obtain ⟨g1, g2⟩ := List.pairwise_cons.1 hq
    have e : a = b := by
      rcases List.mem_cons.1 ((h a).1 (.head _)) with e | e
      · exact e
      · rcases List.mem_cons.1 ((h b).2 (.head _)) with f | f
        · exact f.symm
        · exact ((g1 a e).irr (h1 b f) ho).elim
    subst e
    rw [falls_one ho p q h2 g2 fun t => ?_]
    constructor
    · intro ht
      rcases List.mem_cons.1 ((h t).1 (.tail _ ht)) with e | e
      · subst e; exact ((h1 t ht).self ho).elim
      · exact e
    · intro ht
      rcases List.mem_cons.1 ((h t).2 (.tail _ ht)) with e | e
      · subst e; exact ((g1 t ht).self ho).elim
      · exact e

/-- A polynomial that may be. -/
structure MayP (o : Int) (p : List TL) : Prop where
  ord : Ord o
  len : p.length ≤ 60
  may : ∀ t ∈ p, MayT t
  nz : ∀ t ∈ p, t.c.top ≠ 0
  falls : Falls o p

def upd (f : Mo → Option RatL) (m : Mo) (x : RatL) : Mo → Option RatL := fun n => @ite _ (n = m) (Mo.dec n m) (some x) (f n)
theorem upd_self (f : Mo → Option RatL) (m : Mo) (x : RatL) : upd f m x m = some x := by simp [upd]
theorem upd_ne {f : Mo → Option RatL} {m n : Mo} {x : RatL} (h : n ≠ m) : upd f m x n = f n := by simp [upd, h]

/-- The sums of like terms, in order; up to the first error. -/
def Acc : List TL → (Mo → Option RatL) → (Mo → Option RatL) → Int → Prop
  | [], f, g, k => g = f ∧ k = 0
  | t :: l, f, g, k => (f t.m = none → Acc l (upd f t.m t.c) g k) ∧ (∀ r, f t.m = some r → ∃ x j, AddOut r t.c x j ∧ (j = 0 → Acc l (upd f t.m x) g k) ∧ (j ≠ 0 → k = j))

theorem AddOut.ex (a b : RatL) : ∃ r k, AddOut a b r k → True := ⟨a, 0, fun _ => trivial⟩

theorem Acc.one : ∀ {l : List TL} {f g g' : Mo → Option RatL} {k k' : Int}, Acc l f g k → Acc l f g' k' → k = k' ∧ (k = 0 → g = g')
  | [], f, g, g', k, k', h, h' => ⟨h.2.trans h'.2.symm, fun _ => h.1.trans h'.1.symm⟩
  | t :: l, f, g, g', k, k', h, h' => by
    cases e : f t.m with
    | none => exact Acc.one (h.1 e) (h'.1 e)
    | some r =>
      obtain ⟨x, j, h1, h2, h3⟩ := h.2 r e
      obtain ⟨y, i, g1, g2, g3⟩ := h'.2 r e
      obtain ⟨rfl, rfl⟩ := h1.one g1
      by_cases e : j = 0
      · exact Acc.one (h2 e) (g2 e)
      · exact ⟨(h3 e).trans (g3 e).symm, fun hk => absurd ((h3 e).symm.trans hk) e⟩

/-- What terms that may be come to. -/
structure TogIs (o : Int) (l p : List TL) (k : Int) : Prop where
  out : ∃ g j, Acc l (fun _ => none) g j ∧ (j ≠ 0 → p = [] ∧ k = j) ∧
    (j = 0 → ∃ q, Falls o q ∧ (∀ t, t ∈ q ↔ g t.m = some t.c ∧ t.c.top ≠ 0) ∧ (60 < q.length → p = [] ∧ k = 90) ∧ (q.length ≤ 60 → p = q ∧ k = 0))

theorem TogIs.one {o : Int} {l p q : List TL} {k j : Int} (ho : Ord o) (h : TogIs o l p k) (h' : TogIs o l q j) : p = q ∧ k = j := by
  obtain ⟨g, i, h1, h2, h3⟩ := h.out
  obtain ⟨g', i', h1', h2', h3'⟩ := h'.out
  obtain ⟨rfl, hg⟩ := h1.one h1'
  by_cases e : i = 0
  · obtain rfl := hg e
    obtain ⟨r, a1, a2, a3, a4⟩ := h3 e
    obtain ⟨s, b1, b2, b3, b4⟩ := h3' e
    obtain rfl := falls_one ho r s a1 b1 fun t => (a2 t).trans (b2 t).symm
    by_cases hl : r.length ≤ 60
    · exact ⟨(a4 hl).1.trans (b4 hl).1.symm, (a4 hl).2.trans (b4 hl).2.symm⟩
    · exact ⟨(a3 (by omega)).1.trans (b3 (by omega)).1.symm, (a3 (by omega)).2.trans (b3 (by omega)).2.symm⟩
  · exact ⟨(h2 e).1.trans (h2' e).1.symm, (h2 e).2.trans (h2' e).2.symm⟩

/-- What Make tells. -/
structure MakeIs (o : Int) (l p : List TL) (k : Int) : Prop where
  arg : ¬ (Ord o ∧ ∀ t ∈ l, MayT t) → p = [] ∧ k = 1
  ok : (Ord o ∧ ∀ t ∈ l, MayT t) → TogIs o l p k
theorem MakeIs.one {o : Int} {l p q : List TL} {k j : Int} (h : MakeIs o l p k) (h' : MakeIs o l q j) : p = q ∧ k = j := by
  by_cases e : Ord o ∧ ∀ t ∈ l, MayT t
  · exact (h.ok e).one e.1 (h'.ok e)
  · exact ⟨(h.arg e).1.trans (h'.arg e).1.symm, (h.arg e).2.trans (h'.arg e).2.symm⟩

/-- Terms, each times t, in order; up to the first error. -/
def TimesL (t : TL) : List TL → List TL → Int → Prop
  | [], out, k => out = [] ∧ k = 0
  | x :: p, out, k => ∃ c j, MulOut x.c t.c c j ∧ (j ≠ 0 → out = [] ∧ k = j) ∧ (j = 0 → ∃ m i, MulM x.m t.m m i ∧ (i ≠ 0 → out = [] ∧ k = i) ∧
      (i = 0 → ∃ rest, TimesL t p rest k ∧ (k ≠ 0 → out = []) ∧ (k = 0 → out = ⟨c, m⟩ :: rest)))

theorem MulM.one {m n r s : Mo} {k j : Int} (h : MulM m n r k) (h' : MulM m n s j) : r = s ∧ k = j := by
  by_cases hb : Mn.Both m.a m.b m.c m.d n.a n.b n.c n.d
  · by_cases hm : Mn.May4 (m.a + n.a) (m.b + n.b) (m.c + n.c) (m.d + n.d)
    · obtain ⟨a1, a2, a3, a4, a5⟩ := h.ok hb hm
      obtain ⟨b1, b2, b3, b4, b5⟩ := h'.ok hb hm
      exact ⟨Mo.ext4 (a1.trans b1.symm) (a2.trans b2.symm) (a3.trans b3.symm) (a4.trans b4.symm), a5.trans b5.symm⟩
    · obtain ⟨a1, a2, a3, a4, a5⟩ := h.exp hb hm
      obtain ⟨b1, b2, b3, b4, b5⟩ := h'.exp hb hm
      exact ⟨Mo.ext4 (a1.trans b1.symm) (a2.trans b2.symm) (a3.trans b3.symm) (a4.trans b4.symm), a5.trans b5.symm⟩
  · obtain ⟨a1, a2, a3, a4, a5⟩ := h.arg hb
    obtain ⟨b1, b2, b3, b4, b5⟩ := h'.arg hb
    exact ⟨Mo.ext4 (a1.trans b1.symm) (a2.trans b2.symm) (a3.trans b3.symm) (a4.trans b4.symm), a5.trans b5.symm⟩

theorem TimesL.one {t : TL} : ∀ {p out out' : List TL} {k k' : Int}, TimesL t p out k → TimesL t p out' k' → out = out' ∧ k = k'
  | [], _, _, _, _, h, h' => ⟨h.1.trans h'.1.symm, h.2.trans h'.2.symm⟩
  | x :: p, out, out', k, k', h, h' => by
    obtain ⟨c, j, h1, h2, h3⟩ := h
    obtain ⟨c', j', g1, g2, g3⟩ := h'
    obtain ⟨rfl, rfl⟩ := h1.one g1
    by_cases e : j = 0
    · obtain ⟨m, i, a1, a2, a3⟩ := h3 e
      obtain ⟨m', i', b1, b2, b3⟩ := g3 e
      obtain ⟨rfl, rfl⟩ := a1.one b1
      by_cases f : i = 0
      · obtain ⟨r, c1, c2, c3⟩ := a3 f
        obtain ⟨s, d1, d2, d3⟩ := b3 f
        obtain ⟨rfl, rfl⟩ := TimesL.one c1 d1
        by_cases z : k = 0
        · exact ⟨(c3 z).trans (d3 z).symm, rfl⟩
        · exact ⟨(c2 z).trans (d2 z).symm, rfl⟩
      · exact ⟨(a2 f).1.trans (b2 f).1.symm, (a2 f).2.trans (b2 f).2.symm⟩
    · exact ⟨(h2 e).1.trans (g2 e).1.symm, (h2 e).2.trans (g2 e).2.symm⟩

/-- Times of what may be. -/
structure TimT (p : List TL) (t : TL) (out : List TL) (k : Int) : Prop where
  zero : t.c.top = 0 → out = [] ∧ k = 0
  all : t.c.top ≠ 0 → TimesL t p out k
theorem TimT.one {p : List TL} {t : TL} {out out' : List TL} {k k' : Int} (h : TimT p t out k) (h' : TimT p t out' k') : out = out' ∧ k = k' := by
  by_cases e : t.c.top = 0
  · exact ⟨(h.zero e).1.trans (h'.zero e).1.symm, (h.zero e).2.trans (h'.zero e).2.symm⟩
  · exact (h.all e).one (h'.all e)
/-- What Times tells. -/
structure TimesIs (o : Int) (p : List TL) (t : TL) (out : List TL) (k : Int) : Prop where
  arg : ¬ (MayP o p ∧ MayT t) → out = [] ∧ k = 1
  ok : MayP o p ∧ MayT t → TimT p t out k
theorem TimesIs.one {o : Int} {p : List TL} {t : TL} {out out' : List TL} {k k' : Int} (h : TimesIs o p t out k) (h' : TimesIs o p t out' k') : out = out' ∧ k = k' := by
  by_cases e : MayP o p ∧ MayT t
  · exact (h.ok e).one (h'.ok e)
  · exact ⟨(h.arg e).1.trans (h'.arg e).1.symm, (h.arg e).2.trans (h'.arg e).2.symm⟩

theorem TimesL.may {t : TL} (ht : MayT t) : ∀ {p out : List TL} {k : Int}, (∀ x ∈ p, MayT x) → TimesL t p out k → ∀ x ∈ out, MayT x
  | [], _, _, _, h, x, hx => by rw [h.1] at hx; simp at hx
  | y :: p, out, k, hp, h, x, hx => by
    obtain ⟨c, j, h1, h2, h3⟩ := h
    by_cases e : j = 0
    · obtain ⟨m, i, a1, a2, a3⟩ := h3 e
      by_cases f : i = 0
      · obtain ⟨r, c1, c2, c3⟩ := a3 f
        by_cases z : k = 0
        · rw [c3 z] at hx
          rcases List.mem_cons.1 hx with rfl | hx
          · have hy := hp y (.head _)
            refine ⟨?_, ?_⟩
            · by_cases tb : (Big ≤ val y.c.num * val t.c.num ∨ Big ≤ y.c.bot * t.c.bot)
              · have := (h1.big ⟨hy.c, ht.c⟩ tb).1; omega
              · exact (h1.fine ⟨hy.c, ht.c⟩ tb).2.may
            · have hb : Mn.Both y.m.a y.m.b y.m.c y.m.d t.m.a t.m.b t.m.c t.m.d := ⟨hy.m, ht.m⟩
              by_cases hm : Mn.May4 (y.m.a + t.m.a) (y.m.b + t.m.b) (y.m.c + t.m.c) (y.m.d + t.m.d)
              · obtain ⟨b1, b2, b3, b4, _⟩ := a1.ok hb hm
                show Mn.May4 m.a m.b m.c m.d
                rw [b1, b2, b3, b4]
                exact hm
              · have := (a1.exp hb hm).2.2.2.2; omega
          · exact TimesL.may ht (fun x hx => hp x (.tail _ hx)) c1 x hx
        · rw [c2 z] at hx; simp at hx
      · rw [(a2 f).1] at hx; simp at hx
    · rw [(h2 e).1] at hx; simp at hx
theorem TimT.may {p : List TL} {t : TL} {out : List TL} {k : Int} (ht : MayT t) (hp : ∀ x ∈ p, MayT x) (h : TimT p t out k) : ∀ x ∈ out, MayT x := by
  by_cases e : t.c.top = 0
  · rw [(h.zero e).1]; simp
  · exact (h.all e).may ht hp

/-- Products by each term of q, one behind the other; up to the first error. -/
def ManyL (p : List TL) : List TL → List TL → Int → Prop
  | [], all, k => all = [] ∧ k = 0
  | t :: q, all, k => ∃ x j, TimT p t x j ∧ (j ≠ 0 → all = [] ∧ k = j) ∧ (j = 0 → ∃ rest, ManyL p q rest k ∧ (k ≠ 0 → all = []) ∧ (k = 0 → all = x ++ rest))
theorem ManyL.one {p : List TL} : ∀ {q out out' : List TL} {k k' : Int}, ManyL p q out k → ManyL p q out' k' → out = out' ∧ k = k'
  | [], _, _, _, _, h, h' => ⟨h.1.trans h'.1.symm, h.2.trans h'.2.symm⟩
  | x :: q, out, out', k, k', h, h' => by
    obtain ⟨c, j, h1, h2, h3⟩ := h
    obtain ⟨c', j', g1, g2, g3⟩ := h'
    obtain ⟨rfl, rfl⟩ := h1.one g1
    by_cases e : j = 0
    · obtain ⟨r, c1, c2, c3⟩ := h3 e
      obtain ⟨s, d1, d2, d3⟩ := g3 e
      obtain ⟨rfl, rfl⟩ := ManyL.one c1 d1
      by_cases z : k = 0
      · exact ⟨(c3 z).trans (d3 z).symm, rfl⟩
      · exact ⟨(c2 z).trans (d2 z).symm, rfl⟩
    · exact ⟨(h2 e).1.trans (g2 e).1.symm, (h2 e).2.trans (g2 e).2.symm⟩
theorem ManyL.may {p : List TL} (hp : ∀ x ∈ p, MayT x) : ∀ {q out : List TL} {k : Int}, (∀ x ∈ q, MayT x) → ManyL p q out k → ∀ x ∈ out, MayT x
  | [], _, _, _, h, x, hx => by rw [h.1] at hx; simp at hx
  | y :: q, out, k, hq, h, x, hx => by
    obtain ⟨c, j, h1, h2, h3⟩ := h
    by_cases e : j = 0
    · obtain ⟨r, c1, c2, c3⟩ := h3 e
      by_cases z : k = 0
      · rw [c3 z] at hx
        rcases List.mem_append.1 hx with hx | hx
        · exact h1.may (hq y (.head _)) hp x hx
        · exact ManyL.may hp (fun x hx => hq x (.tail _ hx)) c1 x hx
      · rw [c2 z] at hx; simp at hx
    · rw [(h2 e).1] at hx; simp at hx

/-- What Mul tells. -/
structure MulP (o : Int) (p q out : List TL) (k : Int) : Prop where
  arg : ¬ (MayP o p ∧ MayP o q) → out = [] ∧ k = 1
  ok : MayP o p ∧ MayP o q → ∃ all j, ManyL p q all j ∧ (j ≠ 0 → out = [] ∧ k = j) ∧ (j = 0 → TogIs o all out k)
theorem MulP.one {o : Int} {p q out out' : List TL} {k k' : Int} (h : MulP o p q out k) (h' : MulP o p q out' k') : out = out' ∧ k = k' := by
  by_cases e : MayP o p ∧ MayP o q
  · obtain ⟨all, j, h1, h2, h3⟩ := h.ok e
    obtain ⟨all', j', g1, g2, g3⟩ := h'.ok e
    obtain ⟨rfl, rfl⟩ := h1.one g1
    by_cases f : j = 0
    · exact (h3 f).one e.1.ord (g3 f)
    · exact ⟨(h2 f).1.trans (g2 f).1.symm, (h2 f).2.trans (g2 f).2.symm⟩
  · exact ⟨(h.arg e).1.trans (h'.arg e).1.symm, (h.arg e).2.trans (h'.arg e).2.symm⟩

/-- What Add tells. -/
structure AddP (o : Int) (l : List (List TL)) (out : List TL) (k : Int) : Prop where
  arg : ¬ (Ord o ∧ ∀ p ∈ l, MayP o p) → out = [] ∧ k = 1
  ok : (Ord o ∧ ∀ p ∈ l, MayP o p) → TogIs o l.flatten out k
theorem AddP.one {o : Int} {l : List (List TL)} {out out' : List TL} {k k' : Int} (h : AddP o l out k) (h' : AddP o l out' k') : out = out' ∧ k = k' := by
  by_cases e : Ord o ∧ ∀ p ∈ l, MayP o p
  · exact (h.ok e).one e.1 (h'.ok e)
  · exact ⟨(h.arg e).1.trans (h'.arg e).1.symm, (h.arg e).2.trans (h'.arg e).2.symm⟩

def mo0 : Mo := ⟨0, 0, 0, 0⟩
/-- What Monic tells. -/
structure MonicIs (o : Int) (p out : List TL) (k : Int) : Prop where
  arg : ¬ MayP o p → out = [] ∧ k = 1
  nil : MayP o p → p = [] → out = [] ∧ k = 0
  ok : MayP o p → ∀ t l, p = t :: l → TimT p ⟨t.c.inv, mo0⟩ out k
theorem MonicIs.one {o : Int} {p out out' : List TL} {k k' : Int} (h : MonicIs o p out k) (h' : MonicIs o p out' k') : out = out' ∧ k = k' := by
  by_cases e : MayP o p
  · match p, e with
    | [], e => exact ⟨(h.nil e rfl).1.trans (h'.nil e rfl).1.symm, (h.nil e rfl).2.trans (h'.nil e rfl).2.symm⟩
    | t :: l, e => exact (h.ok e t l rfl).one (h'.ok e t l rfl)
  · exact ⟨(h.arg e).1.trans (h'.arg e).1.symm, (h.arg e).2.trans (h'.arg e).2.symm⟩
end Go.Proofs.YtnedghhcidohnaaGreat
