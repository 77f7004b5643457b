/-
  Frames put one behind the other, and cut; slices of texts that came in; rows beside rows.
-/
import Derived.Test.YtfpiepephljmgaaDoorGCat
import Derived.Test.YtfpiepephljmgaaDoorGSame
import Derived.Test.YtfpiepephljmgaaDoorLaidW
import Derived.Test.YtfpiepephljmgaaDoorGArg
namespace Go.Proofs.YtfpiepephljmgaaDoor
open Go.ChangeShapes Go.WideShapes Go.ChangeAt Go.RowKit

/-- Where the first j frames end. -/
def offs (fs : List Frm) (j : Nat) : Nat := (cat (fs.take j)).length

theorem offs_zero (fs : List Frm) : offs fs 0 = 0 := rfl
theorem offs_all (fs : List Frm) : offs fs fs.length = (cat fs).length := by rw [offs, List.take_length]
theorem take_succ_frm (fs : List Frm) (j : Nat) (h : j < fs.length) : fs.take (j + 1) = fs.take j ++ [fs[j]] := by
  rw [List.take_add_one, List.getElem?_eq_getElem h]
  rfl
theorem offs_succ (fs : List Frm) (j : Nat) (h : j < fs.length) : offs fs (j + 1) = offs fs j + (putF fs[j]).length := by
  rw [offs, take_succ_frm fs j h, cat_snoc, List.length_append]
  rfl
theorem offs_snoc (fs : List Frm) (f : Frm) (j : Nat) (h : j ≤ fs.length) : offs (fs ++ [f]) j = offs fs j := by
  rw [offs, offs, List.take_append_of_le_length h]

theorem allF_take : ∀ (fs : List Frm) (q e : Nat) (m : Nat), allF q e fs = fs → allF q e (fs.take m) = fs.take m
  | _, _, _, 0, _ => rfl
  | [], _, _, m + 1, _ => rfl
  | f :: fs, q, e, m + 1, h => by
    simp only [allF] at h
    split at h
    · rename_i hg
      have h3 : allF (q + 1) e fs = fs := by injection h
      simp only [List.take_succ_cons, allF]
      rw [if_pos hg, allF_take fs (q + 1) e m h3]
    · cases h

/-- What is told of frames in turn that are cut. -/
theorem cut_told (fs : List Frm) (ep : Nat) (hok : ∀ f ∈ fs, f.ok) (ht : allF 1 ep fs = fs) (k m : Nat) (hm : m ≤ fs.length) (h1 : offs fs m ≤ k) (hk : k ≤ (cat fs).length) (h2 : m = fs.length ∨ k < offs fs (m + 1)) :
    (allL 1 ep ((cat fs).take k)).map Prod.fst = fs.take m ∧ ((cat fs).take k).length - (leftL ((cat fs).take k) (allL 1 ep ((cat fs).take k))).length = offs fs m ∧ (leftL ((cat fs).take k) (allL 1 ep ((cat fs).take k))).length ≤ ((cat fs).take k).length := by
  have hs : cat fs = cat (fs.take m) ++ cat (fs.drop m) := by rw [← cat_append, List.take_append_drop]
  have hcut : (cat fs).take k = cat (fs.take m) ++ (cat (fs.drop m)).take (k - offs fs m) := by
    rw [hs, List.take_append, List.take_of_length_le h1]
    rfl
  have hkl : ((cat fs).take k).length = k := by rw [List.length_take, Nat.min_eq_left hk]
  obtain ⟨r, hr⟩ : ∃ r, r = (cat (fs.drop m)).take (k - offs fs m) := ⟨_, rfl⟩
  have hnone : ∀ q, allL q ep r = [] := by
    intro q
    rcases h2 with h2 | h2
    · subst h2
      rw [hr, List.drop_length]
      show allL q ep (List.take _ []) = []
      rw [List.take_nil]
      rfl
    · rcases Nat.lt_or_ge m fs.length with hlt | hge
      · have e1 : fs.drop m = fs[m] :: fs.drop (m + 1) := List.drop_eq_getElem_cons hlt
        have e2 := offs_succ fs m hlt
        have hj : k - offs fs m < (putF fs[m]).length := by omega
        have e3 : r = (putF fs[m]).take (k - offs fs m) := by
          rw [hr, e1, cat_cons, List.take_append_of_le_length (by omega)]
        rw [e3]
        exact allL_err (first_cut fs[m] (hok _ (List.getElem_mem _)) _ hj)
      · have : m = fs.length := by omega
        subst this
        rw [hr, List.drop_length]
        show allL q ep (List.take _ []) = []
        rw [List.take_nil]
        rfl
  obtain ⟨h3, h4⟩ := all_behind (fs.take m) 1 ep r (fun f hf => hok f (List.mem_of_mem_take hf)) (allF_take fs 1 ep m ht)
  rw [hnone] at h3 h4
  rw [hcut, ← hr] at hkl ⊢
  have hl := hkl
  rw [List.length_append] at hl
  refine ⟨by rw [h3]; simp, ?_, ?_⟩
  · rw [h4]
    show _ - r.length = _
    have : offs fs m = (cat (fs.take m)).length := rfl
    omega
  · rw [h4]
    show r.length ≤ _
    omega

/-- Nothing is told by another epoch. -/
theorem other_told (fs : List Frm) (ep ep2 : Nat) (hok : ∀ f ∈ fs, f.ok) (ht : allF 1 ep fs = fs) (hne : ep2 ≠ ep) : allL 1 ep2 (cat fs) = [] := by
  cases fs with
  | nil => rfl
  | cons f fs =>
    simp only [allF] at ht
    split at ht
    · rename_i hg
      rw [cat_cons]
      exact allL_no (first_put f (cat fs) (hok f List.mem_cons_self)) (fun h => hne (h.1.symm.trans hg.1))
    · cases ht

/-- A slice of texts that came in. -/
def IsTexts (w : World) (a : Option Addr) (len cap : Nat) (ss : List ByteArray) : Prop :=
  (a = none ∧ len = 0 ∧ cap = 0 ∧ ss = []) ∨
  ∃ x, a = some x ∧ len ≤ cap ∧ cap ≤ maxLen ∧ ss.length = cap ∧ (∀ i, i < ss.length → w.cell? (x.add i) = some (.string (ss.getD i ByteArray.empty))) ∧ ∀ s ∈ ss, s.size ≤ maxLen

theorem IsTexts.at {w : World} {a : Option Addr} {len cap : Nat} {ss : List ByteArray} (h : IsTexts w a len cap ss) (i : Nat) (hi : i < len) :
    ∃ (b off : Nat) (t : List UInt8), a = some ⟨b, off, none⟩ ∧ b < w.heap.size ∧ t.length ≤ maxLen ∧ w.cell? ⟨b, off + i, none⟩ = some (.string (str t)) := by
  rcases h with ⟨rfl, rfl, rfl, rfl⟩ | ⟨x, rfl, hlc, hcm, hz, hc, hw⟩
  · omega
  · have hpos : 0 < ss.length := by omega
    obtain ⟨b, off, spot⟩ := x
    have hspot : spot = none := by simpa [Addr.add] using World.cell?_spot (hc 0 hpos)
    subst hspot
    have hil : i < ss.length := by omega
    have h1 := hc i hil
    rw [Go.WideShapes.add_plain] at h1
    have h0 := hc 0 hpos
    rw [Go.WideShapes.add_plain] at h0
    have hm : ss.getD i ByteArray.empty ∈ ss := by
      rw [List.getD_eq_getElem?_getD, List.getElem?_eq_getElem hil]
      exact List.getElem_mem _
    have h2 := hw _ hm
    obtain ⟨t, ht⟩ := str_of (ss.getD i ByteArray.empty)
    rw [ht] at h1 h2
    rw [str_size] at h2
    exact ⟨b, off, t, rfl, World.block_lt_of_cell? w ⟨b, off + 0, none⟩ h0, h2, h1⟩

/-- Rows of other types lie apart. -/
theorem rows_apart {W : World} {b1 b2 : Nat} {e1 e2 : TypeId} {s1 s2 n1 n2 : Nat} {v1 v2 : Value} {x1 x2 : List Value} (h1 : W.ownsRow b1 e1 s1 v1 n1 x1) (h2 : W.ownsRow b2 e2 s2 v2 n2 x2) (hne : e1 ≠ e2) : v1.ownBlock = none ∨ v1.ownBlock ≠ v2.ownBlock := by
  rcases h1.2 with ⟨rfl, _⟩ | ⟨g, cap, cur, rfl, _, hg, _⟩
  · exact .inl rfl
  · refine .inr fun e => ?_
    rcases h2.2 with ⟨rfl, _⟩ | ⟨g', cap', cur', rfl, _, hg', _⟩
    · cases e
    · have h9 : g = g' := Option.some.inj e
      subst h9
      rw [hg] at hg'
      injection hg' with hg'
      injection hg' with _ h7
      exact hne h7

theorem ownsRow_take {W : World} {b : Nat} {e : TypeId} {size n m g cap : Nat} {xs : List Value} (h : W.ownsRow b e size (.slice (some ⟨g, 0, none⟩) n cap) n xs) (hm : m ≤ n) : W.ownsRow b e size (.slice (some ⟨g, 0, none⟩) m cap) m (xs.take (m * size)) := by
  have hle : m * size ≤ n * size := Nat.mul_le_mul_right _ hm
  refine ⟨by rw [List.length_take, h.1]; omega, ?_⟩
  rcases h.2 with ⟨h1, _⟩ | ⟨g', cap', cur, hv, hb, hg, hnc, hcm, hcs, ht⟩
  · cases h1
  · injection hv with hv1 hv2 hv3
    injection hv1 with hv1
    injection hv1 with hv1
    subst hv1
    subst hv3
    exact .inr ⟨g, cap, cur, rfl, hb, hg, by omega, hcm, hcs, by rw [← ht, List.take_take, Nat.min_eq_left hle]⟩

theorem flatC_append (a b : List Frm) : flatC (a ++ b) = flatC a ++ flatC b := by simp [flatC, List.map_append, List.flatten_append]
theorem flatC_take (fs : List Frm) (m : Nat) (h : m ≤ fs.length) : flatC (fs.take m) = (flatC fs).take (m * 3) := by
  have h1 : fs = fs.take m ++ fs.drop m := (List.take_append_drop m fs).symm
  have h2 : flatC fs = flatC (fs.take m) ++ flatC (fs.drop m) := by
    conv => lhs; rw [h1]
    exact flatC_append _ _
  rw [h2, List.take_left']
  rw [flatC_length, List.length_take, Nat.min_eq_left h]

/-- Where frames end, as cells. -/
def endsC (fs : List Frm) : List Value := (List.range (fs.length + 1)).map fun j => .int .i64 ((offs fs j : Nat) : Int)
theorem endsC_snoc (fs : List Frm) (f : Frm) : endsC (fs ++ [f]) = endsC fs ++ [.int .i64 ((offs (fs ++ [f]) (fs.length + 1) : Nat) : Int)] := by
  unfold endsC
  rw [List.length_append, List.length_singleton, List.range_succ, List.map_append]
  congr 1
  apply List.map_congr_left
  intro j hj
  rw [offs_snoc fs f j (by have := List.mem_range.1 hj; omega)]
theorem endsC_at (fs : List Frm) (j : Nat) (h : j ≤ fs.length) : (endsC fs)[j]? = some (.int .i64 ((offs fs j : Nat) : Int)) := by
  unfold endsC
  rw [List.getElem?_map, List.getElem?_range (by omega)]
  rfl
theorem ends_cell {W : World} {b g n cap : Nat} {e : TypeId} {fs : List Frm} (h : W.ownsRow b e 1 (.slice (some ⟨g, 0, none⟩) n cap) n (endsC fs)) (j : Nat) (hj : j ≤ fs.length) :
    W.cell? ⟨g, j, none⟩ = some (.int .i64 ((offs fs j : Nat) : Int)) := by
  have hc := h.cells (g := g) rfl _ _ (endsC_at fs j hj)
  have hadd : (⟨g, 0, none⟩ : Addr).add j = ⟨g, j, none⟩ := by unfold Addr.add; split <;> simp_all
  rwa [hadd] at hc
end Go.Proofs.YtfpiepephljmgaaDoor
