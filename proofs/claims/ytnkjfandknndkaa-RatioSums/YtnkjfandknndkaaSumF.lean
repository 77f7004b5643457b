/-
  Numbers in a row of one's own.
-/
import Derived.Test.YtnkjfandknndkaaOwnS
import Derived.Test.YtnkjfandknndkaaM1
namespace Go.Proofs.Ytnkjfandknndkaa
open Go.RowKit

def cellsOf (ps : List RP) : List Value := ps.flatMap RP.cs
theorem cellsOf_length (ps : List RP) : (cellsOf ps).length = ps.length * 3 := by
  induction ps with
  | nil => rfl
  | cons p ps ih => simp [cellsOf, RP.cs] at ih ⊢; omega
theorem cellsOf_append (ps qs : List RP) : cellsOf (ps ++ qs) = cellsOf ps ++ cellsOf qs := by simp [cellsOf]
theorem cellsOf_one (p : RP) : cellsOf [p] = p.cs := by simp [cellsOf]
theorem RP.cs_clean (p : RP) : ∀ u ∈ p.cs, Clean u := by
  intro u hu z
  simp [RP.cs] at hu
  rcases hu with rfl | rfl | rfl <;> simp
theorem RP.cs_one (p : RP) : ∀ u ∈ p.cs, u.oneCell' = true := by
  intro u hu
  simp [RP.cs] at hu
  rcases hu with rfl | rfl | rfl <;> rfl
theorem cellsOf_clean (ps : List RP) : ∀ u ∈ cellsOf ps, Clean u := by
  intro u hu
  simp [cellsOf] at hu
  obtain ⟨p, _, h⟩ := hu
  exact p.cs_clean u h
theorem cellsOf_onecell (ps : List RP) : ∀ u ∈ cellsOf ps, u.oneCell' = true := by
  intro u hu
  simp [cellsOf] at hu
  obtain ⟨p, _, h⟩ := hu
  exact p.cs_one u h
theorem cellsOf_at : ∀ (ps : List RP) (i j : Nat) (p : RP) (v : Value), ps[i]? = some p → p.cs[j]? = some v → (cellsOf ps)[i * 3 + j]? = some v
  | [], i, j, p, v, h, _ => by simp at h
  | q :: ps, 0, j, p, v, h, hv => by
    simp at h
    subst h
    have hj : j < q.cs.length := (List.getElem?_eq_some_iff.1 hv).1
    simp only [cellsOf, List.flatMap_cons, Nat.zero_mul, Nat.zero_add]
    rw [List.getElem?_append_left hj]
    exact hv
  | q :: ps, i + 1, j, p, v, h, hv => by
    have ih := cellsOf_at ps i j p v (by simpa using h) hv
    simp only [cellsOf, List.flatMap_cons] at ih ⊢
    rw [List.getElem?_append_right (by simp [RP.cs]; omega)]
    rw [show (i + 1) * 3 + j - q.cs.length = i * 3 + j by simp [RP.cs]; omega]
    exact ih

/-- Numbers in a row of one's own. -/
structure RatsOwn (w : World) (base : Nat) (v : Value) (ps : List RP) (rs : List RatL) : Prop where
  own : OwnS w base 28 3 v ps.length (cellsOf ps)
  len : ps.length = rs.length
  each : ∀ (i : Nat) p r, ps[i]? = some p → rs[i]? = some r → RatAt w p.no p.nn p.nc p.eo p.en p.ec r ∧ r.neg = p.neg

theorem RatAt.grown {w w' : World} {e : TypeId} {no : Option Addr} {nn nc : Nat} {eo : Option Addr} {en ec : Nat} {r : RatL} {row : Option Nat} (h : RatAt w no nn nc eo en ec r) (hg : w.grownBy w' row) (hc : ∀ g, row = some g → CleanB w e g) : RatAt w' no nn nc eo en ec r := ⟨h.num.grown hg hc, h.den.grown hg hc⟩

theorem RatsOwn.below {w w' : World} {base : Nat} {v : Value} {ps : List RP} {rs : List RatL} (h : RatsOwn w base v ps rs) (hb : Below w.heap.size w w') : RatsOwn w' base v ps rs :=
  ⟨h.own.below hb, h.len, fun i p r hp hr => ⟨(h.each i p r hp hr).1.below hb, (h.each i p r hp hr).2⟩⟩

theorem RatsOwn.nil (w : World) (base : Nat) (hb : base ≤ w.heap.size) : RatsOwn (w.alloc (.cells #[] 28)) base (.slice (some ⟨w.heap.size, 0, none⟩) 0 0) [] [] :=
  ⟨OwnS.made w 28 3 hb, rfl, fun i p r hp => by simp at hp⟩

/-- Behind an append. -/
theorem RatsOwn.put {w w' : World} {base : Nat} {v v' : Value} {ps qs : List RP} {rs ss : List RatL} (h : RatsOwn w base v ps rs) (hl : qs.length = ss.length)
    (hq : ∀ (i : Nat) p r, qs[i]? = some p → ss[i]? = some r → RatAt w p.no p.nn p.nc p.eo p.en p.ec r ∧ r.neg = p.neg) (ho : OwnS w' base 28 3 v' (ps.length + qs.length) (cellsOf ps ++ cellsOf qs)) (hg : w.grownBy w' v.ownBlock) : RatsOwn w' base v' (ps ++ qs) (rs ++ ss) := by
  refine ⟨by rw [List.length_append, cellsOf_append]; exact ho, by simp [h.len, hl], fun i p r hp hr => ?_⟩
  have key : RatAt w p.no p.nn p.nc p.eo p.en p.ec r ∧ r.neg = p.neg := by
    by_cases hi : i < ps.length
    · rw [List.getElem?_append_left hi] at hp
      rw [List.getElem?_append_left (by rw [← h.len]; exact hi)] at hr
      exact h.each i p r hp hr
    · rw [List.getElem?_append_right (by omega)] at hp
      rw [List.getElem?_append_right (by rw [← h.len]; omega), ← h.len] at hr
      exact hq _ p r hp hr
  exact ⟨key.1.grown hg h.own.clean, key.2⟩

theorem RatsOwn.cells {w : World} {base g n cap : Nat} {ps : List RP} {rs : List RatL} (h : RatsOwn w base (.slice (some ⟨g, 0, none⟩) n cap) ps rs) (i j : Nat) (p : RP) (v : Value) (hp : ps[i]? = some p) (hv : p.cs[j]? = some v) : w.cell? ⟨g, i * 3 + j, none⟩ = some v := by
  have := h.own.row.cells (g := g) rfl (i * 3 + j) v (cellsOf_at ps i j p v hp hv)
  rwa [Addr.add_mid, Nat.zero_add] at this

theorem RatsOwn.form {w : World} {base : Nat} {v : Value} {ps : List RP} {rs : List RatL} (h : RatsOwn w base v ps rs) (hv : v ≠ .slice none 0 0) : ∃ g cap, v = .slice (some ⟨g, 0, none⟩) ps.length cap ∧ base ≤ g ∧ g < w.heap.size ∧ ps.length ≤ cap ∧ cap ≤ maxLen := by
  rcases h.own.row.2 with ⟨h1, _⟩ | ⟨g, cap, cur, h1, h2, h3, h4, h5, _⟩
  · exact absurd h1 hv
  · exact ⟨g, cap, h1, h2, (Array.getElem?_eq_some_iff.1 h3).1, h4, h5⟩

/-- A part of them, as they lie. -/
theorem RatsOwn.at {w : World} {base g n cap : Nat} {ps : List RP} {rs : List RatL} (h : RatsOwn w base (.slice (some ⟨g, 0, none⟩) n cap) ps rs) (k : Nat) : RatsAt w g (k * 3) (ps.drop k) (rs.drop k) := by
  refine ⟨by simp [h.len], fun hp => ?_, fun i p r hp hr => ?_⟩
  · exact (h.own.row.lt g rfl).2
  · rw [List.getElem?_drop] at hp hr
    refine ⟨fun j v hv => ?_, h.each _ p r hp hr⟩
    have := h.cells (k + i) j p v hp hv
    rwa [show k * 3 + i * 3 + j = (k + i) * 3 + j by omega]
theorem RatsOwn.all {w : World} {base g n cap : Nat} {ps : List RP} {rs : List RatL} (h : RatsOwn w base (.slice (some ⟨g, 0, none⟩) n cap) ps rs) : RatsAt w g 0 ps rs := by
  have := h.at 0
  simpa using this
theorem RatsAt.news {w : World} {b off : Nat} {ps : List RP} {rs : List RatL} (h : RatsAt w b off ps rs) : ∀ j u, (cellsOf ps)[j]? = some u → w.cell? ((⟨b, off, none⟩ : Addr).add j) = some u := by
  intro j u hu
  have hj : j < (cellsOf ps).length := (List.getElem?_eq_some_iff.1 hu).1
  rw [cellsOf_length] at hj
  have hi : j / 3 < ps.length := by omega
  have hp : ps[j / 3]? = some ps[j / 3] := List.getElem?_eq_getElem hi
  have hr : rs[j / 3]? = some (rs[j / 3]'(by rw [← h.len]; exact hi)) := List.getElem?_eq_getElem _
  have h3 : j % 3 < (ps[j / 3]).cs.length := by simp [RP.cs]; omega
  have hv : (ps[j / 3]).cs[j % 3]? = some ((ps[j / 3]).cs[j % 3]) := List.getElem?_eq_getElem h3
  have e := cellsOf_at ps (j / 3) (j % 3) _ _ hp hv
  rw [show j / 3 * 3 + j % 3 = j by omega, hu] at e
  have := (h.each _ _ _ hp hr).1 _ _ hv
  rw [Addr.add_mid, show off + j = off + j / 3 * 3 + j % 3 by omega, this]
  exact e.symm
theorem RatsAt.take {w : World} {b off : Nat} {ps : List RP} {rs : List RatL} (h : RatsAt w b off ps rs) (k : Nat) : RatsAt w b off (ps.take k) (rs.take k) := by
  refine ⟨by simp [h.len], fun hp => h.lt (by simp at hp; omega), fun i p r hp hr => ?_⟩
  rw [List.getElem?_take] at hp hr
  split at hp
  · rename_i hi
    rw [if_pos hi] at hr
    exact h.each i p r hp hr
  · cases hp
theorem RatsOwn.kept {w w' : World} {base : Nat} {v : Value} {ps : List RP} {rs : List RatL} {row : Option Nat} (h : RatsOwn w base v ps rs) (hg : w.grownBy w' row) (hne : v.ownBlock ≠ row) (hc : ∀ g, row = some g → CleanB w 28 g) : RatsOwn w' base v ps rs :=
  ⟨h.own.kept hg (.inr hne), h.len, fun i p r hp hr => ⟨(h.each i p r hp hr).1.grown hg hc, (h.each i p r hp hr).2⟩⟩
theorem RatsAt.each' {w : World} {b off : Nat} {ps : List RP} {rs : List RatL} (h : RatsAt w b off ps rs) : ∀ (i : Nat) p r, ps[i]? = some p → rs[i]? = some r → RatAt w p.no p.nn p.nc p.eo p.en p.ec r ∧ r.neg = p.neg := fun i p r hp hr => (h.each i p r hp hr).2
end Go.Proofs.Ytnkjfandknndkaa
