/-
  Terms that change places, and some that cancel: they come to the same. An append that tells what stays.
-/
import Derived.Test.YtbdldijgcmgfaaaGreatZeroW
import Derived.Test.YtbdldijgcmgfaaaGreatJU1
namespace Go.Proofs.YtbdldijgcmgfaaaGreat
open Go.RowKit

/-- What one term has at a monomial. -/
def one1 (t : TL) (m : Mo) : Int := @ite _ (t.m = m) (Mo.dec t.m m) t.c.top 0
theorem coef_set : ∀ {l : List TL} {i : Nat} {s : TL} (t : TL) (m : Mo), l[i]? = some s → coef (l.set i t) m + one1 s m = coef l m + one1 t m
  | [], i, s, t, m, h => by simp at h
  | x :: l, 0, s, t, m, h => by
    simp at h
    subst h
    simp only [List.set_cons_zero, coef, one1]
    omega
  | x :: l, i + 1, s, t, m, h => by
    have ih := coef_set (l := l) t m (by simpa using h)
    simp only [List.set_cons_succ, coef] at ih ⊢
    omega
theorem coef_swap {l : List TL} {k : Nat} {a b : TL} (h0 : l[0]? = some a) (hk : l[k]? = some b) (m : Mo) : coef ((l.set 0 b).set k a) m = coef l m := by
  have h1 := coef_set b m h0
  have hk1 : (l.set 0 b)[k]? = some b := by
    by_cases e : k = 0
    · subst e
      rw [List.getElem?_set_self (by have := (List.getElem?_eq_some_iff.1 h0).1; exact this)]
    · rw [List.getElem?_set_ne (fun x => e x.symm)]
      exact hk
  have h2 := coef_set a m hk1
  omega
theorem mem_set2 {A : Type} {l : List A} {i j : Nat} {a b x : A} (h : x ∈ (l.set i b).set j a) : x ∈ l ∨ x = a ∨ x = b := by
  rcases List.mem_or_eq_of_mem_set h with h | h
  · rcases List.mem_or_eq_of_mem_set h with h | h
    · exact .inl h
    · exact .inr (.inr h)
  · exact .inr (.inl h)
theorem coef_pair {l : List TL} {r s : RatL} {n : Int} {m0 : Mo} (hr : Is r n 1) (hs : Is s (-n) 1) (m : Mo) : coef (l ++ [⟨r, m0⟩, ⟨s, m0⟩]) m = coef l m := by
  rw [coef_append]
  simp only [coef, hr.whole1.1, hs.whole1.1]
  split <;> omega

/-- What makes the same polynomial again. -/
theorem make_same {o : Int} (ho : Ord o) {p l q : List TL} {k : Int} (hp : Made o p) (hl : ∀ t ∈ l, IT 1280 t) (hc : ∀ m, coef l m = coef p m) (hn : l.length ≤ 300) (h : MakeIs o l q k) : q = p ∧ k = 0 := by
  obtain ⟨r, h1, h2, _, _, h5⟩ := tog_small (K := 1280) ho (h.ok ⟨ho, fun t ht => (hl t ht).may⟩) hl (by omega) (by omega)
  have e : r = p := IntP.one ho h1 hp.int fun m => by rw [h2, hc]
  subst e
  exact h5 (by have := hp.len; omega)

theorem run_append_kept {P : Program} (w : World) (base : Nat) (t ty e : TypeId) (i : TypeInfo) (z : Value) (k bytes : Nat) (ht : P.underlying t = some (.slice e)) (hi : P.info? e = some i) (hz : i.zero = some z)
    (hsize : i.size = k) (hby : i.bytes = bytes) (hzs : z.cells.size = k) (hsz : 0 < k) (hzc : ∀ u ∈ z.cells.toList, Clean u)
    (g0 n cap0 : Nat) (xs : List Value) (hown : OwnS w base e k (.slice (some ⟨g0, 0, none⟩) n cap0) n xs)
    (ad : Addr) (m c : Nat) (news : List Value) (hl : news.length = m * k) (hnews : ∀ j u, news[j]? = some u → w.cell? (ad.add j) = some u) (h1 : ∀ u ∈ news, u.oneCell' = true) (hnc : ∀ u ∈ news, Clean u)
    (hm : 0 < m) (h63 : n + m ≤ maxLen) (hbytes : (n + m) * bytes ≤ 140737488355328) (hbase : base ≤ w.heap.size) :
    ∃ g cap w', (Builtin.append_ #[t, t] ty #[.slice (some ⟨g0, 0, none⟩) n cap0, .slice (some ad) m c]).run P w = .ok (.slice (some ⟨g, 0, none⟩) (n + m) cap) w' ∧ OwnS w' base e k (.slice (some ⟨g, 0, none⟩) (n + m) cap) (n + m) (xs ++ news) ∧ w.grownBy w' (some g0) ∧
      ∀ j u, xs[j]? = some u → w'.cell? ((⟨g0, 0, none⟩ : Addr).add j) = some u := by
  obtain ⟨g, cap, w', hr, h2, h3⟩ := run_append_put (P := P) w base t ty e i z k bytes ht hi hz hsize hby hzs hsz hzc _ n xs hown ad m c news hl hnews h1 hnc hm h63 hbytes hbase
  refine ⟨g, cap, w', hr, h2, h3, fun j u hj => ?_⟩
  have hjl : j < xs.length := (List.getElem?_eq_some_iff.1 hj).1
  by_cases hg : g = g0
  · subst hg
    exact h2.row.cells (g := g) rfl j u (by rw [List.getElem?_append_left hjl]; exact hj)
  · have hold := hown.row.cells (g := g0) rfl j u hj
    subst hsize hby
    have hml : n + m ≤ 9223372036854775807 := by simp only [maxLen] at h63; omega
    rcases hown.row.2 with ⟨e0, _⟩ | ⟨g1, cap1, cur, e0, hbg, hg0, hnc0, hcm, hcs, htake⟩
    · cases e0
    · simp only [Value.slice.injEq, Option.some.injEq, Addr.mk.injEq, and_true] at e0
      obtain ⟨e1, _, e2⟩ := e0
      subst e1 e2
      by_cases hroom : n + m ≤ cap0
      · have hfit : n * i.size + news.length ≤ cur.size := by rw [hl, hcs, ← Nat.add_mul]; exact Nat.mul_le_mul_right _ hroom
        have hr' := run_append_room (P := P) w t ty e i ht hi g0 n cap0 cur hg0 ad m c news hl hnews h1 hroom hfit
        rw [hr'] at hr
        injection hr with e1 e2
        injection e1 with e1
        injection e1 with e1
        injection e1 with e1
        exact absurd e1.symm hg
      · have holds : ∀ j u, xs[j]? = some u → w.cell? ((⟨g0, 0, none⟩ : Addr).add j) = some u := hown.row.cells (g := g0) rfl
        have hr' := run_append_grow (P := P) w t ty e i z ht hi hz ⟨g0, 0, none⟩ n cap0 xs hown.row.1 holds ad m c news hl hnews (by omega) (by omega) (growslice_fits (by omega) hbytes)
        rw [hr'] at hr
        injection hr with e1 e2
        subst e2
        have hb : ∀ X, Below w.heap.size w (w.drew.alloc X) := fun X => ((Below.refl w.heap.size w).drew).alloc (Nat.le_refl _) X
        exact ((hb _).cell (p := (⟨g0, 0, none⟩ : Addr).add j) (by have := (Array.getElem?_eq_some_iff.1 hg0).1; rw [Addr.add_mid] ; exact this)).trans hold

theorem step_append_kept {P : Program} (w : World) {ops : Array Oper} {o : Oper} {a : Act} {K : Act → World → Prop} {Q : Exit → Act → World → Prop} {E : Prop} (hgd : o.guard = none) (s x : Operand) (t : TypeId)
    (ho : o.op = .call { callee := .builtin .append, args := #[s, x], argTypes := #[t, t] })
    (base : Nat) (e : TypeId) (i : TypeInfo) (z : Value) (k bytes : Nat) (ht : P.underlying t = some (.slice e)) (hi : P.info? e = some i) (hz : i.zero = some z)
    (hsize : i.size = k) (hby : i.bytes = bytes) (hzs : z.cells.size = k) (hsz : 0 < k) (hzc : ∀ u ∈ z.cells.toList, Clean u)
    (g0 n cap0 : Nat) (xs : List Value) (hs : a.eval s = .slice (some ⟨g0, 0, none⟩) n cap0) (hown : OwnS w base e k (.slice (some ⟨g0, 0, none⟩) n cap0) n xs)
    (ad : Addr) (m c : Nat) (news : List Value) (hx : a.eval x = .slice (some ad) m c) (hl : news.length = m * k) (hnews : ∀ j u, news[j]? = some u → w.cell? (ad.add j) = some u) (h1 : ∀ u ∈ news, u.oneCell' = true) (hnc : ∀ u ∈ news, Clean u)
    (hm : 0 < m) (h63 : n + m ≤ maxLen) (hbytes : (n + m) * bytes ≤ 140737488355328) (hbase : base ≤ w.heap.size)
    (h : ∀ g cap w', OwnS w' base e k (.slice (some ⟨g, 0, none⟩) (n + m) cap) (n + m) (xs ++ news) → w.grownBy w' (some g0) → (∀ j u, xs[j]? = some u → w'.cell? ((⟨g0, 0, none⟩ : Addr).add j) = some u) → K (a.put o.dst (.slice (some ⟨g, 0, none⟩) (n + m) cap)) w') :
    if Region.wanted o (yielded ops a.tmps) = true then Oper.wp P o a w K Q else E := by
  have hw : Region.wanted o (yielded ops a.tmps) = true := by simp [Region.wanted, hgd]
  rw [if_pos hw]
  obtain ⟨g, cap, w', hr, h2, h3, h4⟩ := run_append_kept (P := P) w base t o.type e i z k bytes ht hi hz hsize hby hzs hsz hzc g0 n cap0 xs hown ad m c news hl hnews h1 hnc hm h63 hbytes hbase
  unfold Oper.wp execOp
  simp only [ho, resolve, invoke, builtin, Sem.run_bind, Sem.run_pure, Result.andThen_ok, List.map_toArray, List.map_cons, List.map_nil, hs, hx, hr]
  exact h g cap w' h2 h3 h4
end Go.Proofs.YtbdldijgcmgfaaaGreat
