/-
  Joined: PolyMath · PolyFF · PolyInt.
-/
import Derived.Test.YtbdldijgcmgfaaaGreatJN1
import Derived.Test.YtbdldijgcmgfaaaGreatJP1
import Derived.Test.YtbdldijgcmgfaaaGreatJO1

/-! Polynomials, as arithmetic: no program. -/
namespace Go.Proofs.YtbdldijgcmgfaaaGreat
open Go.RowKit

/-- A monomial. -/
structure Mo where
  a : Int
  b : Int
  c : Int
  d : Int
/-- A term. -/
structure TL where
  c : RatL
  m : Mo

theorem Mo.ext4 {m n : Mo} (h1 : m.a = n.a) (h2 : m.b = n.b) (h3 : m.c = n.c) (h4 : m.d = n.d) : m = n := by
  cases m; cases n; simp_all
/-- Are two monomials the same? -/
def Mo.dec (m n : Mo) : Decidable (m = n) :=
  if h : m.a = n.a ∧ m.b = n.b ∧ m.c = n.c ∧ m.d = n.d then .isTrue (Mo.ext4 h.1 h.2.1 h.2.2.1 h.2.2.2) else .isFalse (fun e => h (by subst e; exact ⟨rfl, rfl, rfl, rfl⟩))

def MayM (m : Mo) : Prop := Mn.May4 m.a m.b m.c m.d
structure MayT (t : TL) : Prop where
  c : MayR t.c
  m : MayM t.m
/-- An order that is one. -/
structure Ord (o : Int) : Prop where
  lo : 0 ≤ o
  hi : o ≤ 2
def UpM (o : Int) (m n : Mo) : Prop := Mn.Up o m.a m.b m.c m.d n.a n.b n.c n.d
def CmpM (o : Int) (m n : Mo) (k : Int) : Prop := Mn.CmpIs o m.a m.b m.c m.d n.a n.b n.c n.d k
def MulM (m n r : Mo) (k : Int) : Prop := Mn.MulIs m.a m.b m.c m.d n.a n.b n.c n.d r.a r.b r.c r.d k

theorem CmpM.ex (o : Int) (m n : Mo) : ∃ k, CmpM o m n k := Mn.CmpIs.ex ..
theorem MulM.ex (m n : Mo) : ∃ r k, MulM m n r k := by
  obtain ⟨x, y, z, u, k, h⟩ := Mn.MulIs.ex m.a m.b m.c m.d n.a n.b n.c n.d
  exact ⟨⟨x, y, z, u⟩, k, h⟩
theorem CmpM.spec {o : Int} {m n : Mo} {k : Int} (h : CmpM o m n k) (hm : MayM m) (hn : MayM n) (ho : Ord o) : (k = 1 ∧ UpM o m n) ∨ (k = 0 ∧ m = n) ∨ (k = -1 ∧ UpM o n m) := by
  rcases Mn.CmpIs.spec h ⟨hm, hn⟩ ho.lo ho.hi with h | ⟨h, h1, h2, h3, h4⟩ | h
  · exact .inl h
  · exact .inr (.inl ⟨h, Mo.ext4 h1 h2 h3 h4⟩)
  · exact .inr (.inr h)
theorem UpM.irr {o : Int} {m n : Mo} (h : UpM o m n) (g : UpM o n m) (ho : Ord o) : False := Mn.Up.irr h g ho.lo ho.hi
theorem UpM.self {o : Int} {m : Mo} (h : UpM o m m) (ho : Ord o) : False := h.irr h ho
theorem UpM.trans {o : Int} {m n r : Mo} (h : UpM o m n) (g : UpM o n r) (ho : Ord o) : UpM o m r := Mn.Up.trans h g ho.lo ho.hi

/-- Terms fall. -/
def Falls (o : Int) (p : List TL) : Prop := p.Pairwise fun s t => UpM o s.m t.m
theorem falls_one {o : Int} (ho : Ord o) : ∀ (p q : List TL), Falls o p → Falls o q → (∀ t, t ∈ p ↔ t ∈ q) → p = q
  | [], [], _, _, _ => rfl
  | [], b :: q, _, _, h => absurd ((h b).2 (.head _)) (by simp)
  | a :: p, [], _, _, h => absurd ((h a).1 (.head _)) (by simp)
  | a :: p, b :: q, hp, hq, h => by
    obtain ⟨h1, h2⟩ := List.pairwise_cons.1 hp
    obtain ⟨g1, g2⟩ := List.pairwise_cons.1 hq
    have e : a = b := by
      rcases List.mem_cons.1 ((h a).1 (.head _)) with e | e
      · exact e
      · rcases List.mem_cons.1 ((h b).2 (.head _)) with f | f
        · exact f.symm
        · exact ((g1 a e).irr (h1 b f) ho).elim
    subst e
    rw [falls_one ho p q h2 g2 fun t => ?_]
    constructor
    · intro ht
      rcases List.mem_cons.1 ((h t).1 (.tail _ ht)) with e | e
      · subst e; exact ((h1 t ht).self ho).elim
      · exact e
    · intro ht
      rcases List.mem_cons.1 ((h t).2 (.tail _ ht)) with e | e
      · subst e; exact ((g1 t ht).self ho).elim
      · exact e

/-- A polynomial that may be. -/
structure MayP (o : Int) (p : List TL) : Prop where
  ord : Ord o
  len : p.length ≤ 60
  may : ∀ t ∈ p, MayT t
  nz : ∀ t ∈ p, t.c.top ≠ 0
  falls : Falls o p

def upd (f : Mo → Option RatL) (m : Mo) (x : RatL) : Mo → Option RatL := fun n => @ite _ (n = m) (Mo.dec n m) (some x) (f n)
theorem upd_self (f : Mo → Option RatL) (m : Mo) (x : RatL) : upd f m x m = some x := by simp [upd]
theorem upd_ne {f : Mo → Option RatL} {m n : Mo} {x : RatL} (h : n ≠ m) : upd f m x n = f n := by simp [upd, h]

/-- The sums of like terms, in order; up to the first error. -/
def Acc : List TL → (Mo → Option RatL) → (Mo → Option RatL) → Int → Prop
  | [], f, g, k => g = f ∧ k = 0
  | t :: l, f, g, k => (f t.m = none → Acc l (upd f t.m t.c) g k) ∧ (∀ r, f t.m = some r → ∃ x j, AddOut r t.c x j ∧ (j = 0 → Acc l (upd f t.m x) g k) ∧ (j ≠ 0 → k = j))

theorem AddOut.ex (a b : RatL) : ∃ r k, AddOut a b r k → True := ⟨a, 0, fun _ => trivial⟩

theorem Acc.one : ∀ {l : List TL} {f g g' : Mo → Option RatL} {k k' : Int}, Acc l f g k → Acc l f g' k' → k = k' ∧ (k = 0 → g = g')
  | [], f, g, g', k, k', h, h' => ⟨h.2.trans h'.2.symm, fun _ => h.1.trans h'.1.symm⟩
  | t :: l, f, g, g', k, k', h, h' => by
    cases e : f t.m with
    | none => exact Acc.one (h.1 e) (h'.1 e)
    | some r =>
      obtain ⟨x, j, h1, h2, h3⟩ := h.2 r e
      obtain ⟨y, i, g1, g2, g3⟩ := h'.2 r e
      obtain ⟨rfl, rfl⟩ := h1.one g1
      by_cases e : j = 0
      · exact Acc.one (h2 e) (g2 e)
      · exact ⟨(h3 e).trans (g3 e).symm, fun hk => absurd ((h3 e).symm.trans hk) e⟩

/-- What terms that may be come to. -/
structure TogIs (o : Int) (l p : List TL) (k : Int) : Prop where
  out : ∃ g j, Acc l (fun _ => none) g j ∧ (j ≠ 0 → p = [] ∧ k = j) ∧
    (j = 0 → ∃ q, Falls o q ∧ (∀ t, t ∈ q ↔ g t.m = some t.c ∧ t.c.top ≠ 0) ∧ (60 < q.length → p = [] ∧ k = 90) ∧ (q.length ≤ 60 → p = q ∧ k = 0))

theorem TogIs.one {o : Int} {l p q : List TL} {k j : Int} (ho : Ord o) (h : TogIs o l p k) (h' : TogIs o l q j) : p = q ∧ k = j := by
  obtain ⟨g, i, h1, h2, h3⟩ := h.out
  obtain ⟨g', i', h1', h2', h3'⟩ := h'.out
  obtain ⟨rfl, hg⟩ := h1.one h1'
  by_cases e : i = 0
  · obtain rfl := hg e
    obtain ⟨r, a1, a2, a3, a4⟩ := h3 e
    obtain ⟨s, b1, b2, b3, b4⟩ := h3' e
    obtain rfl := falls_one ho r s a1 b1 fun t => (a2 t).trans (b2 t).symm
    by_cases hl : r.length ≤ 60
    · exact ⟨(a4 hl).1.trans (b4 hl).1.symm, (a4 hl).2.trans (b4 hl).2.symm⟩
    · exact ⟨(a3 (by omega)).1.trans (b3 (by omega)).1.symm, (a3 (by omega)).2.trans (b3 (by omega)).2.symm⟩
  · exact ⟨(h2 e).1.trans (h2' e).1.symm, (h2 e).2.trans (h2' e).2.symm⟩

/-- What Make tells. -/
structure MakeIs (o : Int) (l p : List TL) (k : Int) : Prop where
  arg : ¬ (Ord o ∧ ∀ t ∈ l, MayT t) → p = [] ∧ k = 1
  ok : (Ord o ∧ ∀ t ∈ l, MayT t) → TogIs o l p k
theorem MakeIs.one {o : Int} {l p q : List TL} {k j : Int} (h : MakeIs o l p k) (h' : MakeIs o l q j) : p = q ∧ k = j := by
  by_cases e : Ord o ∧ ∀ t ∈ l, MayT t
  · exact (h.ok e).one e.1 (h'.ok e)
  · exact ⟨(h.arg e).1.trans (h'.arg e).1.symm, (h.arg e).2.trans (h'.arg e).2.symm⟩

/-- Terms, each times t, in order; up to the first error. -/
def TimesL (t : TL) : List TL → List TL → Int → Prop
  | [], out, k => out = [] ∧ k = 0
  | x :: p, out, k => ∃ c j, MulOut x.c t.c c j ∧ (j ≠ 0 → out = [] ∧ k = j) ∧ (j = 0 → ∃ m i, MulM x.m t.m m i ∧ (i ≠ 0 → out = [] ∧ k = i) ∧
      (i = 0 → ∃ rest, TimesL t p rest k ∧ (k ≠ 0 → out = []) ∧ (k = 0 → out = ⟨c, m⟩ :: rest)))

theorem MulM.one {m n r s : Mo} {k j : Int} (h : MulM m n r k) (h' : MulM m n s j) : r = s ∧ k = j := by
  by_cases hb : Mn.Both m.a m.b m.c m.d n.a n.b n.c n.d
  · by_cases hm : Mn.May4 (m.a + n.a) (m.b + n.b) (m.c + n.c) (m.d + n.d)
    · obtain ⟨a1, a2, a3, a4, a5⟩ := h.ok hb hm
      obtain ⟨b1, b2, b3, b4, b5⟩ := h'.ok hb hm
      exact ⟨Mo.ext4 (a1.trans b1.symm) (a2.trans b2.symm) (a3.trans b3.symm) (a4.trans b4.symm), a5.trans b5.symm⟩
    · obtain ⟨a1, a2, a3, a4, a5⟩ := h.exp hb hm
      obtain ⟨b1, b2, b3, b4, b5⟩ := h'.exp hb hm
      exact ⟨Mo.ext4 (a1.trans b1.symm) (a2.trans b2.symm) (a3.trans b3.symm) (a4.trans b4.symm), a5.trans b5.symm⟩
  · obtain ⟨a1, a2, a3, a4, a5⟩ := h.arg hb
    obtain ⟨b1, b2, b3, b4, b5⟩ := h'.arg hb
    exact ⟨Mo.ext4 (a1.trans b1.symm) (a2.trans b2.symm) (a3.trans b3.symm) (a4.trans b4.symm), a5.trans b5.symm⟩

theorem TimesL.one {t : TL} : ∀ {p out out' : List TL} {k k' : Int}, TimesL t p out k → TimesL t p out' k' → out = out' ∧ k = k'
  | [], _, _, _, _, h, h' => ⟨h.1.trans h'.1.symm, h.2.trans h'.2.symm⟩
  | x :: p, out, out', k, k', h, h' => by
    obtain ⟨c, j, h1, h2, h3⟩ := h
    obtain ⟨c', j', g1, g2, g3⟩ := h'
    obtain ⟨rfl, rfl⟩ := h1.one g1
    by_cases e : j = 0
    · obtain ⟨m, i, a1, a2, a3⟩ := h3 e
      obtain ⟨m', i', b1, b2, b3⟩ := g3 e
      obtain ⟨rfl, rfl⟩ := a1.one b1
      by_cases f : i = 0
      · obtain ⟨r, c1, c2, c3⟩ := a3 f
        obtain ⟨s, d1, d2, d3⟩ := b3 f
        obtain ⟨rfl, rfl⟩ := TimesL.one c1 d1
        by_cases z : k = 0
        · exact ⟨(c3 z).trans (d3 z).symm, rfl⟩
        · exact ⟨(c2 z).trans (d2 z).symm, rfl⟩
      · exact ⟨(a2 f).1.trans (b2 f).1.symm, (a2 f).2.trans (b2 f).2.symm⟩
    · exact ⟨(h2 e).1.trans (g2 e).1.symm, (h2 e).2.trans (g2 e).2.symm⟩

/-- Times of what may be. -/
structure TimT (p : List TL) (t : TL) (out : List TL) (k : Int) : Prop where
  zero : t.c.top = 0 → out = [] ∧ k = 0
  all : t.c.top ≠ 0 → TimesL t p out k
theorem TimT.one {p : List TL} {t : TL} {out out' : List TL} {k k' : Int} (h : TimT p t out k) (h' : TimT p t out' k') : out = out' ∧ k = k' := by
  by_cases e : t.c.top = 0
  · exact ⟨(h.zero e).1.trans (h'.zero e).1.symm, (h.zero e).2.trans (h'.zero e).2.symm⟩
  · exact (h.all e).one (h'.all e)
/-- What Times tells. -/
structure TimesIs (o : Int) (p : List TL) (t : TL) (out : List TL) (k : Int) : Prop where
  arg : ¬ (MayP o p ∧ MayT t) → out = [] ∧ k = 1
  ok : MayP o p ∧ MayT t → TimT p t out k
theorem TimesIs.one {o : Int} {p : List TL} {t : TL} {out out' : List TL} {k k' : Int} (h : TimesIs o p t out k) (h' : TimesIs o p t out' k') : out = out' ∧ k = k' := by
  by_cases e : MayP o p ∧ MayT t
  · exact (h.ok e).one (h'.ok e)
  · exact ⟨(h.arg e).1.trans (h'.arg e).1.symm, (h.arg e).2.trans (h'.arg e).2.symm⟩

theorem TimesL.may {t : TL} (ht : MayT t) : ∀ {p out : List TL} {k : Int}, (∀ x ∈ p, MayT x) → TimesL t p out k → ∀ x ∈ out, MayT x
  | [], _, _, _, h, x, hx => by rw [h.1] at hx; simp at hx
  | y :: p, out, k, hp, h, x, hx => by
    obtain ⟨c, j, h1, h2, h3⟩ := h
    by_cases e : j = 0
    · obtain ⟨m, i, a1, a2, a3⟩ := h3 e
      by_cases f : i = 0
      · obtain ⟨r, c1, c2, c3⟩ := a3 f
        by_cases z : k = 0
        · rw [c3 z] at hx
          rcases List.mem_cons.1 hx with rfl | hx
          · have hy := hp y (.head _)
            refine ⟨?_, ?_⟩
            · by_cases tb : (Big ≤ val y.c.num * val t.c.num ∨ Big ≤ y.c.bot * t.c.bot)
              · have := (h1.big ⟨hy.c, ht.c⟩ tb).1; omega
              · exact (h1.fine ⟨hy.c, ht.c⟩ tb).2.may
            · have hb : Mn.Both y.m.a y.m.b y.m.c y.m.d t.m.a t.m.b t.m.c t.m.d := ⟨hy.m, ht.m⟩
              by_cases hm : Mn.May4 (y.m.a + t.m.a) (y.m.b + t.m.b) (y.m.c + t.m.c) (y.m.d + t.m.d)
              · obtain ⟨b1, b2, b3, b4, _⟩ := a1.ok hb hm
                show Mn.May4 m.a m.b m.c m.d
                rw [b1, b2, b3, b4]
                exact hm
              · have := (a1.exp hb hm).2.2.2.2; omega
          · exact TimesL.may ht (fun x hx => hp x (.tail _ hx)) c1 x hx
        · rw [c2 z] at hx; simp at hx
      · rw [(a2 f).1] at hx; simp at hx
    · rw [(h2 e).1] at hx; simp at hx
theorem TimT.may {p : List TL} {t : TL} {out : List TL} {k : Int} (ht : MayT t) (hp : ∀ x ∈ p, MayT x) (h : TimT p t out k) : ∀ x ∈ out, MayT x := by
  by_cases e : t.c.top = 0
  · rw [(h.zero e).1]; simp
  · exact (h.all e).may ht hp

/-- Products by each term of q, one behind the other; up to the first error. -/
def ManyL (p : List TL) : List TL → List TL → Int → Prop
  | [], all, k => all = [] ∧ k = 0
  | t :: q, all, k => ∃ x j, TimT p t x j ∧ (j ≠ 0 → all = [] ∧ k = j) ∧ (j = 0 → ∃ rest, ManyL p q rest k ∧ (k ≠ 0 → all = []) ∧ (k = 0 → all = x ++ rest))
theorem ManyL.one {p : List TL} : ∀ {q out out' : List TL} {k k' : Int}, ManyL p q out k → ManyL p q out' k' → out = out' ∧ k = k'
  | [], _, _, _, _, h, h' => ⟨h.1.trans h'.1.symm, h.2.trans h'.2.symm⟩
  | x :: q, out, out', k, k', h, h' => by
    obtain ⟨c, j, h1, h2, h3⟩ := h
    obtain ⟨c', j', g1, g2, g3⟩ := h'
    obtain ⟨rfl, rfl⟩ := h1.one g1
    by_cases e : j = 0
    · obtain ⟨r, c1, c2, c3⟩ := h3 e
      obtain ⟨s, d1, d2, d3⟩ := g3 e
      obtain ⟨rfl, rfl⟩ := ManyL.one c1 d1
      by_cases z : k = 0
      · exact ⟨(c3 z).trans (d3 z).symm, rfl⟩
      · exact ⟨(c2 z).trans (d2 z).symm, rfl⟩
    · exact ⟨(h2 e).1.trans (g2 e).1.symm, (h2 e).2.trans (g2 e).2.symm⟩
theorem ManyL.may {p : List TL} (hp : ∀ x ∈ p, MayT x) : ∀ {q out : List TL} {k : Int}, (∀ x ∈ q, MayT x) → ManyL p q out k → ∀ x ∈ out, MayT x
  | [], _, _, _, h, x, hx => by rw [h.1] at hx; simp at hx
  | y :: q, out, k, hq, h, x, hx => by
    obtain ⟨c, j, h1, h2, h3⟩ := h
    by_cases e : j = 0
    · obtain ⟨r, c1, c2, c3⟩ := h3 e
      by_cases z : k = 0
      · rw [c3 z] at hx
        rcases List.mem_append.1 hx with hx | hx
        · exact h1.may (hq y (.head _)) hp x hx
        · exact ManyL.may hp (fun x hx => hq x (.tail _ hx)) c1 x hx
      · rw [c2 z] at hx; simp at hx
    · rw [(h2 e).1] at hx; simp at hx

/-- What Mul tells. -/
structure MulP (o : Int) (p q out : List TL) (k : Int) : Prop where
  arg : ¬ (MayP o p ∧ MayP o q) → out = [] ∧ k = 1
  ok : MayP o p ∧ MayP o q → ∃ all j, ManyL p q all j ∧ (j ≠ 0 → out = [] ∧ k = j) ∧ (j = 0 → TogIs o all out k)
theorem MulP.one {o : Int} {p q out out' : List TL} {k k' : Int} (h : MulP o p q out k) (h' : MulP o p q out' k') : out = out' ∧ k = k' := by
  by_cases e : MayP o p ∧ MayP o q
  · obtain ⟨all, j, h1, h2, h3⟩ := h.ok e
    obtain ⟨all', j', g1, g2, g3⟩ := h'.ok e
    obtain ⟨rfl, rfl⟩ := h1.one g1
    by_cases f : j = 0
    · exact (h3 f).one e.1.ord (g3 f)
    · exact ⟨(h2 f).1.trans (g2 f).1.symm, (h2 f).2.trans (g2 f).2.symm⟩
  · exact ⟨(h.arg e).1.trans (h'.arg e).1.symm, (h.arg e).2.trans (h'.arg e).2.symm⟩

/-- What Add tells. -/
structure AddP (o : Int) (l : List (List TL)) (out : List TL) (k : Int) : Prop where
  arg : ¬ (Ord o ∧ ∀ p ∈ l, MayP o p) → out = [] ∧ k = 1
  ok : (Ord o ∧ ∀ p ∈ l, MayP o p) → TogIs o l.flatten out k
theorem AddP.one {o : Int} {l : List (List TL)} {out out' : List TL} {k k' : Int} (h : AddP o l out k) (h' : AddP o l out' k') : out = out' ∧ k = k' := by
  by_cases e : Ord o ∧ ∀ p ∈ l, MayP o p
  · exact (h.ok e).one e.1 (h'.ok e)
  · exact ⟨(h.arg e).1.trans (h'.arg e).1.symm, (h.arg e).2.trans (h'.arg e).2.symm⟩

def mo0 : Mo := ⟨0, 0, 0, 0⟩
/-- What Monic tells. -/
structure MonicIs (o : Int) (p out : List TL) (k : Int) : Prop where
  arg : ¬ MayP o p → out = [] ∧ k = 1
  nil : MayP o p → p = [] → out = [] ∧ k = 0
  ok : MayP o p → ∀ t l, p = t :: l → TimT p ⟨t.c.inv, mo0⟩ out k
theorem MonicIs.one {o : Int} {p out out' : List TL} {k k' : Int} (h : MonicIs o p out k) (h' : MonicIs o p out' k') : out = out' ∧ k = k' := by
  by_cases e : MayP o p
  · match p, e with
    | [], e => exact ⟨(h.nil e rfl).1.trans (h'.nil e rfl).1.symm, (h.nil e rfl).2.trans (h'.nil e rfl).2.symm⟩
    | t :: l, e => exact (h.ok e t l rfl).one (h'.ok e t l rfl)
  · exact ⟨(h.arg e).1.trans (h'.arg e).1.symm, (h.arg e).2.trans (h'.arg e).2.symm⟩
end Go.Proofs.YtbdldijgcmgfaaaGreat

/-! What x + y, less y, is. -/
namespace Go.Proofs.YtbdldijgcmgfaaaGreat
open Go.RowKit

def moX : Mo := ⟨1, 0, 0, 0⟩
def moY : Mo := ⟨0, 1, 0, 0⟩
theorem ord0 : Ord 0 := ⟨by omega, by omega⟩
theorem mayX : MayM moX := ⟨⟨by decide, by decide⟩, ⟨by decide, by decide⟩, ⟨by decide, by decide⟩, ⟨by decide, by decide⟩⟩
theorem mayY : MayM moY := ⟨⟨by decide, by decide⟩, ⟨by decide, by decide⟩, ⟨by decide, by decide⟩, ⟨by decide, by decide⟩⟩
theorem xy_ne : moY ≠ moX := fun h => absurd (congrArg Mo.a h) (by decide)
theorem upXY : UpM 0 moX moY := by
  have hc : CmpM 0 moX moY 1 := ⟨fun h => absurd ⟨mayX, mayY⟩ h, fun h => by omega, fun _ _ => by decide, fun _ h => by omega, fun _ h => by omega⟩
  rcases hc.spec mayX mayY ord0 with ⟨_, h⟩ | ⟨h, _⟩ | ⟨h, _⟩
  · exact h
  · omega
  · omega
theorem Is.top_ne {r : RatL} {n : Int} (h : Is r n 1) (hn : n ≠ 0) : r.top ≠ 0 := by
  intro e
  have h1 := h.eq
  have h2 := h.may.bot_pos h.lim
  rw [e, Int.zero_mul] at h1
  rcases Int.mul_eq_zero.1 h1.symm with h | h <;> omega

theorem shown_math {r1 r2 r3 : RatL} (h1 : Is r1 1 1) (h2 : Is r2 1 1) (h3 : Is r3 (-1) 1) {out : List TL} {k : Int} (h : AddP 0 [[⟨r1, moX⟩, ⟨r2, moY⟩], [⟨r3, moY⟩]] out k) : k = 0 ∧ out = [⟨r1, moX⟩] := by
  have m1 : MayP 0 [⟨r1, moX⟩, ⟨r2, moY⟩] := by
    refine ⟨ord0, by simp, fun t ht => ?_, fun t ht => ?_, ?_⟩
    · simp at ht
      rcases ht with rfl | rfl
      · exact ⟨h1.may, mayX⟩
      · exact ⟨h2.may, mayY⟩
    · simp at ht
      rcases ht with rfl | rfl
      · exact h1.top_ne (by omega)
      · exact h2.top_ne (by omega)
    · refine List.pairwise_cons.2 ⟨fun t ht => ?_, List.pairwise_singleton _ _⟩
      simp at ht
      rw [ht]
      exact upXY
  have m3 : MayP 0 [⟨r3, moY⟩] := by
    refine ⟨ord0, by simp, fun t ht => ?_, fun t ht => ?_, List.pairwise_singleton _ _⟩
    · simp at ht
      rw [ht]
      exact ⟨h3.may, mayY⟩
    · simp at ht
      rw [ht]
      exact h3.top_ne (by omega)
  have hall : ∀ p ∈ [[(⟨r1, moX⟩ : TL), ⟨r2, moY⟩], [⟨r3, moY⟩]], MayP 0 p := by
    intro p hp
    simp at hp
    rcases hp with rfl | rfl
    · exact m1
    · exact m3
  obtain ⟨g, j, ha, _, hq⟩ := (h.ok ⟨ord0, hall⟩).out
  have ha' : Acc [⟨r1, moX⟩, ⟨r2, moY⟩, ⟨r3, moY⟩] (fun _ => none) g j := ha
  have a1 := ha'.1 rfl
  have a2 := a1.1 (upd_ne xy_ne)
  obtain ⟨s, i, b1, b2, _⟩ := a2.2 r2 (upd_self _ _ _)
  obtain ⟨i0, hs⟩ := add_fine b1 h2 h3 (L := 1) (K := 1) (by decide) (by decide) (by decide) (by decide) (by have := Big_BB; unfold BB at this; omega)
  obtain ⟨hg, hj⟩ := b2 i0
  have hs0 : s.top = 0 := by
    have := hs.eq
    simp at this
    exact this
  obtain ⟨q, q1, q2, _, q4⟩ := hq hj
  have eq : q = [⟨r1, moX⟩] := by
    refine falls_one ord0 _ _ q1 (List.pairwise_singleton _ _) fun t => ?_
    rw [q2, List.mem_singleton, hg]
    constructor
    · rintro ⟨c1, c2⟩
      by_cases ey : t.m = moY
      · rw [ey, upd_self] at c1
        injection c1 with c1
        rw [← c1] at c2
        exact absurd hs0 c2
      · have c1' : upd (upd (upd (fun _ => none) moX r1) moY r2) moY s t.m = some t.c := c1
        rw [upd_ne ey, upd_ne ey] at c1'
        by_cases ex : t.m = moX
        · rw [ex, upd_self] at c1'
          injection c1' with c1'
          cases t
          simp_all
        · rw [upd_ne ex] at c1'
          cases c1'
    · rintro rfl
      refine ⟨?_, h1.top_ne (by omega)⟩
      show upd (upd (upd (fun _ => none) moX r1) moY r2) moY s moX = some r1
      rw [upd_ne (Ne.symm xy_ne), upd_ne (Ne.symm xy_ne), upd_self]
  obtain ⟨e1, e2⟩ := q4 (by rw [eq]; simp)
  exact ⟨e2, by rw [e1, eq]⟩
end Go.Proofs.YtbdldijgcmgfaaaGreat

/-! Polynomials with small whole coefficients, as arithmetic: what their terms come to. -/
namespace Go.Proofs.YtbdldijgcmgfaaaGreat
open Go.RowKit

theorem Is.whole1 {r : RatL} {n : Int} (h : Is r n 1) : r.top = n ∧ r.bot = 1 := by
  obtain ⟨c, c0, hD, hN⟩ := h.parts
  have hb := h.may.bot_pos h.lim
  have hc : c = 1 := by
    have h2 := Int.mul_le_mul_of_nonneg_right (show 1 ≤ r.bot by omega) (show 0 ≤ c by omega)
    omega
  subst hc
  omega
theorem Is.re {r : RatL} {n : Int} (h : Is r n 1) : Is r r.top 1 := by
  rw [h.whole1.1]
  exact h

/-- A term whose coefficient is a whole number of at most K. -/
structure IT (K : Nat) (t : TL) : Prop where
  is : Is t.c t.c.top 1
  le : t.c.top.natAbs ≤ K
  m : MayM t.m
theorem IT.mono {K L : Nat} {t : TL} (h : IT K t) (hl : K ≤ L) : IT L t := ⟨h.is, Nat.le_trans h.le hl, h.m⟩
theorem IT.may {K : Nat} {t : TL} (h : IT K t) : MayT t := ⟨h.is.may, h.m⟩
theorem IT.one {K L : Nat} {s t : TL} (h : IT K s) (g : IT L t) (hm : s.m = t.m) (hc : s.c.top = t.c.top) : s = t := by
  have e := h.is.one g.is (by rw [hc])
  cases s; cases t; simp_all

/-- What the terms of a monomial come to. -/
def coef : List TL → Mo → Int
  | [], _ => 0
  | t :: l, m => (@ite _ (t.m = m) (Mo.dec t.m m) t.c.top 0) + coef l m
theorem coef_append (l k : List TL) (m : Mo) : coef (l ++ k) m = coef l m + coef k m := by
  induction l with
  | nil => simp [coef]
  | cons t l ih => simp only [List.cons_append, coef, ih]; omega
theorem coef_none {l : List TL} {m : Mo} (h : ∀ t ∈ l, t.m ≠ m) : coef l m = 0 := by
  induction l with
  | nil => rfl
  | cons t l ih =>
    simp only [coef]
    rw [if_neg (h t (.head _)), ih fun s hs => h s (.tail _ hs)]
    omega
theorem coef_mem {l : List TL} {m : Mo} (h : coef l m ≠ 0) : ∃ t ∈ l, t.m = m := by
  refine Classical.byContradiction fun hn => h (coef_none fun t ht e => hn ⟨t, ht, e⟩)
theorem coef_le {K : Nat} {l : List TL} (h : ∀ t ∈ l, IT K t) (m : Mo) : (coef l m).natAbs ≤ K * l.length := by
  induction l with
  | nil => simp [coef]
  | cons t l ih =>
    have h1 := ih fun s hs => h s (.tail _ hs)
    have h2 := (h t (.head _)).le
    have h3 : ((t :: l).length) = l.length + 1 := rfl
    simp only [coef]
    rw [h3, Nat.mul_add, Nat.mul_one]
    split <;> omega
theorem coef_falls {o : Int} (ho : Ord o) : ∀ {q : List TL} {t : TL}, Falls o q → t ∈ q → coef q t.m = t.c.top
  | [], _, _, h => by simp at h
  | s :: q, t, hf, h => by
    obtain ⟨h1, h2⟩ := List.pairwise_cons.1 hf
    simp only [coef]
    rcases List.mem_cons.1 h with rfl | h
    · rw [if_pos rfl, coef_none fun u hu e => by have := h1 u hu; rw [e] at this; exact this.self ho]
      omega
    · have hne : s.m ≠ t.m := fun e => by have := h1 t h; rw [e] at this; exact this.self ho
      rw [if_neg hne, coef_falls ho h2 h]
      omega

/-- Whole coefficients, none of them 0, of monomials that fall. -/
structure IntP (o : Int) (K : Nat) (q : List TL) : Prop where
  falls : Falls o q
  it : ∀ t ∈ q, IT K t
  nz : ∀ t ∈ q, t.c.top ≠ 0
theorem IntP.mono {o : Int} {K L : Nat} {q : List TL} (h : IntP o K q) (hl : K ≤ L) : IntP o L q := ⟨h.falls, fun t ht => (h.it t ht).mono hl, h.nz⟩
theorem IntP.nil (o : Int) (K : Nat) : IntP o K [] := ⟨List.Pairwise.nil, fun t h => by simp at h, fun t h => by simp at h⟩
theorem IntP.may {o : Int} {K : Nat} {q : List TL} (h : IntP o K q) (ho : Ord o) (hl : q.length ≤ 60) : MayP o q := ⟨ho, hl, fun t ht => (h.it t ht).may, h.nz, h.falls⟩
theorem IntP.one {o : Int} {K L : Nat} {p q : List TL} (ho : Ord o) (h : IntP o K p) (g : IntP o L q) (e : ∀ m, coef p m = coef q m) : p = q := by
  refine falls_one ho p q h.falls g.falls fun t => ⟨fun ht => ?_, fun ht => ?_⟩
  · have h1 := coef_falls ho h.falls ht
    have h2 : coef q t.m ≠ 0 := by rw [← e, h1]; exact h.nz t ht
    obtain ⟨s, hs, hm⟩ := coef_mem h2
    have h3 := coef_falls ho g.falls hs
    rw [hm] at h3
    rw [(h.it t ht).one (g.it s hs) hm.symm (by rw [← h1, e, h3])]
    exact hs
  · have h1 := coef_falls ho g.falls ht
    have h2 : coef p t.m ≠ 0 := by rw [e, h1]; exact g.nz t ht
    obtain ⟨s, hs, hm⟩ := coef_mem h2
    have h3 := coef_falls ho h.falls hs
    rw [hm] at h3
    rw [(g.it t ht).one (h.it s hs) hm.symm (by rw [← h1, ← e, h3])]
    exact hs

/-- What a table holds at a monomial. -/
def ov : Option RatL → Int
  | none => 0
  | some r => r.top
theorem acc_small {K : Nat} : ∀ {l : List TL} {f g : Mo → Option RatL} {k : Int} (B : Nat), (∀ t ∈ l, IT K t) → (∀ m r, f m = some r → Is r r.top 1 ∧ r.top.natAbs ≤ B) → 1 ≤ K → 1 ≤ B → B + K * l.length ≤ 1000000000 → Acc l f g k →
    k = 0 ∧ (∀ m r, g m = some r → Is r r.top 1) ∧ ∀ m, ov (g m) = ov (f m) + coef l m
  | [], f, g, k, B, _, hf, _, _, _, h => by
    obtain ⟨rfl, rfl⟩ := h
    exact ⟨rfl, fun m r hr => (hf m r hr).1, fun m => by simp [coef]⟩
  | t :: l, f, g, k, B, hl, hf, hK, hB, hb, h => by
    have ht := hl t (.head _)
    have h3 : ((t :: l).length) = l.length + 1 := rfl
    rw [h3, Nat.mul_add, Nat.mul_one] at hb
    have hbig := Big_BB
    cases e : f t.m with
    | none =>
      obtain ⟨a, b, c⟩ := acc_small (B + K) (fun s hs => hl s (.tail _ hs)) (fun m r hr => by
        by_cases em : m = t.m
        · rw [em, upd_self] at hr
          injection hr with hr
          rw [← hr]
          exact ⟨ht.is, by have := ht.le; omega⟩
        · rw [upd_ne em] at hr
          exact ⟨(hf m r hr).1, by have := (hf m r hr).2; omega⟩) hK (by omega) (by omega) (h.1 e)
      refine ⟨a, b, fun m => ?_⟩
      rw [c m]
      simp only [coef]
      by_cases em : m = t.m
      · subst em
        rw [upd_self, e, if_pos rfl]
        simp [ov]
      · rw [upd_ne em, if_neg (fun x => em x.symm)]
        omega
    | some r =>
      obtain ⟨x, j, h1, h2, h4⟩ := h.2 r e
      obtain ⟨hr1, hr2⟩ := hf t.m r e
      obtain ⟨hj, hx⟩ := add_fine h1 hr1 ht.is (L := 1000000000) (K := 1000000000) (by omega) (by omega) (by have := ht.le; omega) (by omega) (by unfold BB at hbig; omega)
      have hx1 : Is x (r.top + t.c.top) 1 := by
        rw [Int.mul_one, Int.mul_one, Int.mul_one] at hx
        exact hx
      have hxt := hx1.whole1.1
      obtain ⟨a, b, c⟩ := acc_small (B + K) (fun s hs => hl s (.tail _ hs)) (fun m s hs => by
        by_cases em : m = t.m
        · rw [em, upd_self] at hs
          injection hs with hs
          rw [← hs]
          exact ⟨hx1.re, by have := ht.le; omega⟩
        · rw [upd_ne em] at hs
          exact ⟨(hf m s hs).1, by have := (hf m s hs).2; omega⟩) hK (by omega) (by omega) (h2 hj)
      refine ⟨a, b, fun m => ?_⟩
      rw [c m]
      simp only [coef]
      by_cases em : m = t.m
      · subst em
        rw [upd_self, e, if_pos rfl]
        simp only [ov, hxt]
        omega
      · rw [upd_ne em, if_neg (fun x => em x.symm)]
        omega

theorem sub_len {A : Type} [DecidableEq A] : ∀ {a b : List A}, a.Nodup → (∀ x ∈ a, x ∈ b) → a.length ≤ b.length
  | [], b, _, _ => Nat.zero_le _
  | x :: a, b, hd, hs => by
    obtain ⟨h1, h2⟩ := List.nodup_cons.1 hd
    have hx := hs x (.head _)
    have := sub_len (a := a) (b := b.erase x) h2 (fun y hy => by
      have hne : y ≠ x := fun e => h1 (by rw [← e]; exact hy)
      exact (List.mem_erase_of_ne hne).2 (hs y (.tail _ hy)))
    rw [List.length_erase_of_mem hx] at this
    have hp : 0 < b.length := List.length_pos_of_mem hx
    simp only [List.length_cons]
    omega
theorem IntP.len {o : Int} {K : Nat} {q l : List TL} (ho : Ord o) (h : IntP o K q) (e : ∀ m, coef q m = coef l m) : q.length ≤ l.length := by
  have h1 : (q.map TL.m).Nodup := by
    rw [List.nodup_iff_pairwise_ne, List.pairwise_map]
    exact h.falls.imp fun hu e => by rw [e] at hu; exact hu.self ho
  haveI : DecidableEq Mo := Mo.dec
  have := sub_len h1 (b := l.map TL.m) (fun m hm => by
    obtain ⟨t, ht, rfl⟩ := List.mem_map.1 hm
    have h2 : coef l t.m ≠ 0 := by rw [← e, coef_falls ho h.falls ht]; exact h.nz t ht
    obtain ⟨s, hs, hm⟩ := coef_mem h2
    exact List.mem_map.2 ⟨s, hs, hm⟩)
  simpa using this

/-- What small terms come to. -/
theorem tog_small {o : Int} {K : Nat} {l p : List TL} {k : Int} (ho : Ord o) (h : TogIs o l p k) (hl : ∀ t ∈ l, IT K t) (hK : 1 ≤ K) (hb : K * l.length ≤ 999999999) :
    ∃ q, IntP o (K * l.length) q ∧ (∀ m, coef q m = coef l m) ∧ q.length ≤ l.length ∧ (60 < q.length → p = [] ∧ k = 90) ∧ (q.length ≤ 60 → p = q ∧ k = 0) := by
  obtain ⟨g, j, ha, _, hq⟩ := h.out
  obtain ⟨hj, hg1, hg2⟩ := acc_small 1 hl (fun m r hr => by cases hr) hK (Nat.le_refl _) (by omega) ha
  obtain ⟨q, q1, q2, q3, q4⟩ := hq hj
  have hov : ∀ m, ov (g m) = coef l m := fun m => by rw [hg2]; simp [ov]
  have hIT : ∀ t ∈ q, IT (K * l.length) t := fun t ht => by
    obtain ⟨a, b⟩ := (q2 t).1 ht
    have h1 := hov t.m
    rw [a] at h1
    have h2 : t.c.top = coef l t.m := h1
    obtain ⟨s, hs, hm⟩ := coef_mem (l := l) (m := t.m) (by rw [← h2]; exact b)
    exact ⟨hg1 _ _ a, by rw [h2]; exact coef_le hl _, by rw [← hm]; exact (hl s hs).m⟩
  have hI : IntP o (K * l.length) q := ⟨q1, hIT, fun t ht => ((q2 t).1 ht).2⟩
  have hc : ∀ m, coef q m = coef l m := fun m => by
    rw [← hov]
    by_cases hz : ∃ t ∈ q, t.m = m
    · obtain ⟨t, ht, rfl⟩ := hz
      rw [coef_falls ho q1 ht, ((q2 t).1 ht).1]
      rfl
    · rw [coef_none fun t ht e => hz ⟨t, ht, e⟩]
      cases e : g m with
      | none => rfl
      | some r =>
        by_cases hr : r.top = 0
        · exact hr.symm
        · exact absurd ⟨⟨r, m⟩, (q2 ⟨r, m⟩).2 ⟨e, hr⟩, rfl⟩ hz
  exact ⟨q, hI, hc, hI.len ho hc, q3, q4⟩
end Go.Proofs.YtbdldijgcmgfaaaGreat
