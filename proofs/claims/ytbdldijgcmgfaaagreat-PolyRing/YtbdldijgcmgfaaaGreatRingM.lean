/-
  Sums and products of what was made: which are the same.
-/
import Derived.Test.YtbdldijgcmgfaaaGreatZeroW
namespace Go.Proofs.YtbdldijgcmgfaaaGreat
open Go.RowKit

theorem acc_small3 {K : Nat} : ∀ {l : List TL} {f g : Mo → Option RatL} {k : Int} (B : Nat), (∀ t ∈ l, IT K t) → (∀ m r, f m = some r → Is r r.top 1 ∧ r.top.natAbs ≤ B) → 1 ≤ K → 1 ≤ B → B + K * l.length ≤ 3000000000 → Acc l f g k →
    k = 0 ∧ (∀ m r, g m = some r → Is r r.top 1) ∧ ∀ m, ov (g m) = ov (f m) + coef l m
  | [], f, g, k, B, _, hf, _, _, _, h => by
    obtain ⟨rfl, rfl⟩ := h
    exact ⟨rfl, fun m r hr => (hf m r hr).1, fun m => by simp [coef]⟩
  | t :: l, f, g, k, B, hl, hf, hK, hB, hb, h => by
    have ht := hl t (.head _)
    have h3 : ((t :: l).length) = l.length + 1 := rfl
    rw [h3, Nat.mul_add, Nat.mul_one] at hb
    have hbig := Big_BB
    cases e : f t.m with
    | none =>
      obtain ⟨a, b, c⟩ := acc_small3 (B + K) (fun s hs => hl s (.tail _ hs)) (fun m r hr => by
        by_cases em : m = t.m
        · rw [em, upd_self] at hr
          injection hr with hr
          rw [← hr]
          exact ⟨ht.is, by have := ht.le; omega⟩
        · rw [upd_ne em] at hr
          exact ⟨(hf m r hr).1, by have := (hf m r hr).2; omega⟩) hK (by omega) (by omega) (h.1 e)
      refine ⟨a, b, fun m => ?_⟩
      rw [c m]
      simp only [coef]
      by_cases em : m = t.m
      · subst em
        rw [upd_self, e, if_pos rfl]
        simp [ov]
      · rw [upd_ne em, if_neg (fun x => em x.symm)]
        omega
    | some r =>
      obtain ⟨x, j, h1, h2, h4⟩ := h.2 r e
      obtain ⟨hr1, hr2⟩ := hf t.m r e
      obtain ⟨hj, hx⟩ := add_fine h1 hr1 ht.is (L := 3000000000) (K := 3000000000) (by omega) (by omega) (by have := ht.le; omega) (by omega) (by unfold BB at hbig; omega)
      have hx1 : Is x (r.top + t.c.top) 1 := by
        rw [Int.mul_one, Int.mul_one, Int.mul_one] at hx
        exact hx
      have hxt := hx1.whole1.1
      obtain ⟨a, b, c⟩ := acc_small3 (B + K) (fun s hs => hl s (.tail _ hs)) (fun m s hs => by
        by_cases em : m = t.m
        · rw [em, upd_self] at hs
          injection hs with hs
          rw [← hs]
          exact ⟨hx1.re, by have := ht.le; omega⟩
        · rw [upd_ne em] at hs
          exact ⟨(hf m s hs).1, by have := (hf m s hs).2; omega⟩) hK (by omega) (by omega) (h2 hj)
      refine ⟨a, b, fun m => ?_⟩
      rw [c m]
      simp only [coef]
      by_cases em : m = t.m
      · subst em
        rw [upd_self, e, if_pos rfl]
        simp only [ov, hxt]
        omega
      · rw [upd_ne em, if_neg (fun x => em x.symm)]
        omega

/-- What small terms come to. -/
theorem tog_small3 {o : Int} {K : Nat} {l p : List TL} {k : Int} (ho : Ord o) (h : TogIs o l p k) (hl : ∀ t ∈ l, IT K t) (hK : 1 ≤ K) (hb : K * l.length ≤ 2999999999) :
    ∃ q, IntP o (K * l.length) q ∧ (∀ m, coef q m = coef l m) ∧ q.length ≤ l.length ∧ (60 < q.length → p = [] ∧ k = 90) ∧ (q.length ≤ 60 → p = q ∧ k = 0) := by
  obtain ⟨g, j, ha, _, hq⟩ := h.out
  obtain ⟨hj, hg1, hg2⟩ := acc_small3 1 hl (fun m r hr => by cases hr) hK (Nat.le_refl _) (by omega) ha
  obtain ⟨q, q1, q2, q3, q4⟩ := hq hj
  have hov : ∀ m, ov (g m) = coef l m := fun m => by rw [hg2]; simp [ov]
  have hIT : ∀ t ∈ q, IT (K * l.length) t := fun t ht => by
    obtain ⟨a, b⟩ := (q2 t).1 ht
    have h1 := hov t.m
    rw [a] at h1
    have h2 : t.c.top = coef l t.m := h1
    obtain ⟨s, hs, hm⟩ := coef_mem (l := l) (m := t.m) (by rw [← h2]; exact b)
    exact ⟨hg1 _ _ a, by rw [h2]; exact coef_le hl _, by rw [← hm]; exact (hl s hs).m⟩
  have hI : IntP o (K * l.length) q := ⟨q1, hIT, fun t ht => ((q2 t).1 ht).2⟩
  have hc : ∀ m, coef q m = coef l m := fun m => by
    rw [← hov]
    by_cases hz : ∃ t ∈ q, t.m = m
    · obtain ⟨t, ht, rfl⟩ := hz
      rw [coef_falls ho q1 ht, ((q2 t).1 ht).1]
      rfl
    · rw [coef_none fun t ht e => hz ⟨t, ht, e⟩]
      cases e : g m with
      | none => rfl
      | some r =>
        by_cases hr : r.top = 0
        · exact hr.symm
        · exact absurd ⟨⟨r, m⟩, (q2 ⟨r, m⟩).2 ⟨e, hr⟩, rfl⟩ hz
  exact ⟨q, hI, hc, hI.len ho hc, q3, q4⟩

theorem IntP.coef_le {o : Int} {K : Nat} {q : List TL} (ho : Ord o) (h : IntP o K q) (m : Mo) : (coef q m).natAbs ≤ K := by
  by_cases hz : ∃ t ∈ q, t.m = m
  · obtain ⟨t, ht, rfl⟩ := hz
    rw [coef_falls ho h.falls ht]
    exact (h.it t ht).le
  · rw [coef_none fun t ht e => hz ⟨t, ht, e⟩]
    simp
theorem IntP.tight {o : Int} {K N : Nat} {q : List TL} (ho : Ord o) (h : IntP o K q) (hn : ∀ m, (coef q m).natAbs ≤ N) : IntP o N q :=
  ⟨h.falls, fun t ht => ⟨(h.it t ht).is, by rw [← coef_falls ho h.falls ht]; exact hn _, (h.it t ht).m⟩, h.nz⟩
theorem cv_le {K N : Nat} {p : List TL} {F : Mo → Int} (hp : ∀ x ∈ p, IT K x) (hF : ∀ m, (F m).natAbs ≤ N) (m : Mo) : (cv p F m).natAbs ≤ p.length * (K * N) := by
  induction p with
  | nil => simp [cv]
  | cons x p ih =>
    have h1 := ih fun y hy => hp y (.tail _ hy)
    have h2 := abs_le_mul (hp x (.head _)).le (hF (subM m x.m))
    simp only [cv, List.length_cons, Nat.add_mul, Nat.one_mul]
    omega

/-- What a product of two that were made is. -/
structure PrIs (o : Int) (N : Nat) (p q out : List TL) (k : Int) : Prop where
  ex : ∃ r, IntP o N r ∧ (∀ m, coef r m = cv p (coef q) m) ∧ (60 < r.length → out = [] ∧ k = 90) ∧ (r.length ≤ 60 → out = r ∧ k = 0)
theorem pr_made {o : Int} {L : Nat} (ho : Ord o) {p q out : List TL} {k : Int} (hp : Made o p) (hq : IntP o L q) (lq : q.length ≤ 20) (hL : L ≤ 2560) (hL1 : 1 ≤ L) (hlow : ∀ t ∈ q, Low t.m) (h : MulP o p q out k) : PrIs o (12800 * L) p q out k := by
  have h1 := hp.len
  have hb : p.length * q.length ≤ 10 * 20 := Nat.mul_le_mul h1 lq
  have hb2 : 1280 * L * (p.length * q.length) ≤ 1280 * 2560 * 200 := Nat.mul_le_mul (Nat.mul_le_mul (Nat.le_refl _) hL) hb
  obtain ⟨r, a1, a2, a3, a4, a5, a6⟩ := mul_small (K := 1280) (L := L) ho hp.int hq (by omega) (by omega) (fun x hx t ht => low_add (hp.low x hx) (hlow t ht)) (by omega) hL1 (by omega) (by omega) (by omega) h
  refine ⟨r, a1.tight ho fun m => ?_, a2, a4, a5⟩
  rw [a2]
  have h2 := cv_le (K := 1280) (N := L) hp.int.it (fun m => hq.coef_le ho m) m
  have h3 : p.length * (1280 * L) ≤ 10 * (1280 * L) := Nat.mul_le_mul h1 (Nat.le_refl _)
  omega
theorem PrIs.comm {o : Int} {N M : Nat} (ho : Ord o) {p q a b : List TL} {k j : Int} (h : PrIs o N p q a k) (g : PrIs o M q p b j) : a = b ∧ k = j := by
  obtain ⟨r, h1, h2, h3, h4⟩ := h.ex
  obtain ⟨s, g1, g2, g3, g4⟩ := g.ex
  have e : r = s := IntP.one ho h1 g1 fun m => by rw [h2, g2, cv_comm]
  subst e
  by_cases hl : r.length ≤ 60
  · exact ⟨(h4 hl).1.trans (g4 hl).1.symm, (h4 hl).2.trans (g4 hl).2.symm⟩
  · exact ⟨(h3 (by omega)).1.trans (g3 (by omega)).1.symm, (h3 (by omega)).2.trans (g3 (by omega)).2.symm⟩
theorem PrIs.err {o : Int} {N : Nat} {p q a : List TL} {k : Int} (h : PrIs o N p q a k) : k = 0 ∨ k = 90 := by
  obtain ⟨r, _, _, h3, h4⟩ := h.ex
  by_cases hl : r.length ≤ 60
  · exact .inl (h4 hl).2
  · exact .inr (h3 (by omega)).2
theorem PrIs.fine {o : Int} {N : Nat} {p q a : List TL} (h : PrIs o N p q a 0) : IntP o N a ∧ a.length ≤ 60 ∧ ∀ m, coef a m = cv p (coef q) m := by
  obtain ⟨r, h1, h2, h3, h4⟩ := h.ex
  by_cases hl : r.length ≤ 60
  · obtain ⟨rfl, _⟩ := h4 hl
    exact ⟨h1, hl, h2⟩
  · have := (h3 (by omega)).2
    omega

/-- What a sum of some that were made is. -/
structure SmIs (o : Int) (F : Mo → Int) (K n : Nat) (out : List TL) : Prop where
  int : IntP o K out
  len : out.length ≤ n
  coef : ∀ m, Go.Proofs.YtbdldijgcmgfaaaGreat.coef out m = F m
  low : ∀ t ∈ out, Low t.m
theorem SmIs.one {o : Int} {F G : Mo → Int} {K L n k : Nat} {a b : List TL} (ho : Ord o) (h : SmIs o F K n a) (g : SmIs o G L k b) (e : ∀ m, F m = G m) : a = b :=
  IntP.one ho h.int g.int fun m => by rw [h.coef, g.coef, e]
theorem Made.sm {o : Int} {p : List TL} (h : Made o p) : SmIs o (coef p) 1280 10 p := ⟨h.int, h.len, fun _ => rfl, h.low⟩
theorem sm_two {o : Int} (ho : Ord o) {F G : Mo → Int} {K L n k : Nat} {a b out : List TL} {j : Int} (h : SmIs o F K n a) (g : SmIs o G L k b) (hn : n + k ≤ 60) (hK : K ≤ 10000) (hL : L ≤ 10000) (hs : AddP o [a, b] out j) : SmIs o (fun m => F m + G m) (K + L) (n + k) out ∧ j = 0 := by
  have h1 := h.len
  have g1 := g.len
  have hfl : ([a, b] : List (List TL)).flatten = a ++ b := by simp
  have hfn : ([a, b] : List (List TL)).flatten.length ≤ 60 := by rw [hfl, List.length_append]; omega
  obtain ⟨q, a1, a2, a3, _, a5⟩ := add_small (K := 10000) ho (fun r hr => by
    simp at hr
    rcases hr with rfl | rfl
    · exact ⟨h.int.mono hK, by omega⟩
    · exact ⟨g.int.mono hL, by omega⟩) (by omega) (by omega) hs
  obtain ⟨rfl, hj⟩ := a5 (by omega)
  have hc : ∀ m, coef out m = F m + G m := fun m => by rw [a2, hfl, coef_append, h.coef, g.coef]
  refine ⟨⟨a1.tight ho fun m => ?_, by rw [hfl, List.length_append] at a3; omega, hc, fun t ht => ?_⟩, hj⟩
  · rw [hc]
    have b1 := h.int.coef_le ho m
    have b2 := g.int.coef_le ho m
    rw [h.coef] at b1
    rw [g.coef] at b2
    omega
  · have h4 : coef ([a, b] : List (List TL)).flatten t.m ≠ 0 := by rw [← a2, coef_falls ho a1.falls ht]; exact a1.nz t ht
    obtain ⟨s, hs, e⟩ := coef_mem h4
    rw [hfl] at hs
    rw [← e]
    rcases List.mem_append.1 hs with hs | hs
    · exact h.low s hs
    · exact g.low s hs
theorem sm_three {o : Int} (ho : Ord o) {F G E : Mo → Int} {a b c out : List TL} {j : Int} (h : SmIs o F 1280 10 a) (g : SmIs o G 1280 10 b) (f : SmIs o E 1280 10 c) (hs : AddP o [a, b, c] out j) : SmIs o (fun m => F m + G m + E m) 3840 30 out ∧ j = 0 := by
  have h1 := h.len
  have g1 := g.len
  have f1 := f.len
  have hfl : ([a, b, c] : List (List TL)).flatten = a ++ (b ++ c) := by simp
  have hfn : ([a, b, c] : List (List TL)).flatten.length ≤ 30 := by rw [hfl, List.length_append, List.length_append]; omega
  obtain ⟨q, a1, a2, a3, _, a5⟩ := add_small (K := 1280) ho (fun r hr => by
    simp at hr
    rcases hr with rfl | rfl | rfl
    · exact ⟨h.int, by omega⟩
    · exact ⟨g.int, by omega⟩
    · exact ⟨f.int, by omega⟩) (by omega) (by omega) hs
  obtain ⟨rfl, hj⟩ := a5 (by omega)
  have hc : ∀ m, coef out m = F m + G m + E m := fun m => by rw [a2, hfl, coef_append, coef_append, h.coef, g.coef, f.coef]; omega
  refine ⟨⟨a1.tight ho fun m => ?_, by omega, hc, fun t ht => ?_⟩, hj⟩
  · rw [hc]
    have b1 := h.int.coef_le ho m
    have b2 := g.int.coef_le ho m
    have b3 := f.int.coef_le ho m
    rw [h.coef] at b1
    rw [g.coef] at b2
    rw [f.coef] at b3
    omega
  · have h4 : coef ([a, b, c] : List (List TL)).flatten t.m ≠ 0 := by rw [← a2, coef_falls ho a1.falls ht]; exact a1.nz t ht
    obtain ⟨s, hs, e⟩ := coef_mem h4
    rw [hfl] at hs
    rw [← e]
    rcases List.mem_append.1 hs with hs | hs
    · exact h.low s hs
    · rcases List.mem_append.1 hs with hs | hs
      · exact g.low s hs
      · exact f.low s hs

/-- The sum of two products is the product by the sum. -/
theorem ring_end {o : Int} {N : Nat} (ho : Ord o) {p q r v a c d x : List TL} {i : Int} (ha : PrIs o 16384000 p q a 0) (hc : PrIs o 16384000 p r c 0) (hd : PrIs o N p v d 0) (hv : ∀ m, coef v m = coef q m + coef r m) (hx : AddP o [a, c] x i) : i = 0 ∧ x = d := by
  obtain ⟨a1, a2, a3⟩ := ha.fine
  obtain ⟨c1, c2, c3⟩ := hc.fine
  obtain ⟨d1, d2, d3⟩ := hd.fine
  have hfl : ([a, c] : List (List TL)).flatten = a ++ c := by simp
  have hall : ∀ s ∈ ([a, c] : List (List TL)), IntP o 16384000 s ∧ s.length ≤ 60 := by
    intro s hs
    simp at hs
    rcases hs with rfl | rfl
    · exact ⟨a1, a2⟩
    · exact ⟨c1, c2⟩
  obtain ⟨w, h1, h2, h3, h4, h5⟩ := tog_small3 (K := 16384000) ho (hx.ok ⟨ho, fun s hs => (hall s hs).1.may ho (hall s hs).2⟩) (fun t ht => by
    obtain ⟨s, hs, hst⟩ := List.mem_flatten.1 ht
    exact (hall s hs).1.it t hst) (by omega) (by rw [hfl, List.length_append]; omega)
  have e : w = d := IntP.one ho h1 d1 fun m => by
    rw [h2, hfl, coef_append, a3, c3, d3, ← cv_add]
    exact cv_congr p (fun n => (hv n).symm) m
  subst e
  obtain ⟨b1, b2⟩ := h5 d2
  exact ⟨b2, b1⟩

/-- A term with the other sign. -/
def negT (t : TL) : TL := ⟨⟨!t.c.neg, t.c.num, t.c.den⟩, t.m⟩
theorem neg_top (t : TL) : (negT t).c.top = - t.c.top := by
  show sg (!t.c.neg) (val t.c.num) = - sg t.c.neg (val t.c.num)
  exact sg_flip _ _
theorem IT.neg {K : Nat} {t : TL} (h : IT K t) (hz : t.c.top ≠ 0) : IT K (negT t) ∧ (negT t).c.top ≠ 0 := by
  have hn := neg_top t
  have hv : val t.c.num ≠ 0 := fun e => hz ((sg_zero t.c.neg).2 e)
  refine ⟨⟨⟨⟨h.is.may.num, h.is.may.den, h.is.may.pos, h.is.may.low, fun _ => hv⟩, h.is.lim, by omega, ?_⟩, by rw [hn, Int.natAbs_neg]; exact h.le, h.m⟩, by rw [hn]; omega⟩
  have hb : (negT t).c.bot = 1 := h.is.whole1.2
  rw [hb]
theorem coef_neg (l : List TL) (m : Mo) : coef (l.map negT) m = - coef l m := by
  induction l with
  | nil => rfl
  | cons t l ih =>
    simp only [List.map_cons, coef, ih, neg_top]
    have : (negT t).m = t.m := rfl
    rw [this]
    split <;> omega
theorem Made.neg {o : Int} {p : List TL} (h : Made o p) : SmIs o (fun m => - coef p m) 1280 10 (p.map negT) := by
  refine ⟨⟨?_, fun t ht => ?_, fun t ht => ?_⟩, by rw [List.length_map]; exact h.len, coef_neg p, fun t ht => ?_⟩
  · show List.Pairwise _ (p.map negT)
    rw [List.pairwise_map]
    exact h.int.falls
  · obtain ⟨s, hs, rfl⟩ := List.mem_map.1 ht
    exact ((h.int.it s hs).neg (h.int.nz s hs)).1
  · obtain ⟨s, hs, rfl⟩ := List.mem_map.1 ht
    exact ((h.int.it s hs).neg (h.int.nz s hs)).2
  · obtain ⟨s, hs, rfl⟩ := List.mem_map.1 ht
    exact h.low s hs
theorem less_self {o : Int} (ho : Ord o) {p out : List TL} {j : Int} (hp : Made o p) (hs : AddP o [p, p.map negT] out j) : out = [] := by
  obtain ⟨h, _⟩ := sm_two ho hp.sm hp.neg (by omega) (by omega) (by omega) hs
  exact IntP.one ho h.int (IntP.nil o 1) fun m => by rw [h.coef]; simp only [coef]; omega
end Go.Proofs.YtbdldijgcmgfaaaGreat
