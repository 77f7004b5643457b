/-
  Rows of one's own whose cells are no limbs: what is put behind them leaves every row of limbs as it was.
-/
import Derived.Deep.AppendLies
import Derived.Laws.AppendOwn
import Derived.Test.YtnedghhcidohnaaGreatJB1
namespace Go.Proofs.YtnedghhcidohnaaGreat
open Go.RowKit

/-- A cell that is no limb. -/
def Clean (u : Value) : Prop := ∀ z, u ≠ .int .u64 z
/-- A block without limbs. -/
def CleanB (w : World) (e : TypeId) (g : Nat) : Prop := ∃ cur fz, w.heap[g]? = some (.cells cur e fz) ∧ ∀ u ∈ cur.toList, Clean u

theorem CleanB.lt {w : World} {e : TypeId} {g : Nat} (h : CleanB w e g) : g < w.heap.size := by
  obtain ⟨cur, fz, hg, _⟩ := h
  exact (Array.getElem?_eq_some_iff.1 hg).1
theorem CleanB.kept {w w' : World} {e : TypeId} {g : Nat} (h : CleanB w e g) (hb : w'.heap[g]? = w.heap[g]?) : CleanB w' e g := by
  obtain ⟨cur, fz, hg, h'⟩ := h
  exact ⟨cur, fz, hb.trans hg, h'⟩
theorem CleanB.off {w : World} {e : TypeId} {g : Nat} (h : CleanB w e g) (o : Nat) (z : Int) : w.cell? ⟨g, o, none⟩ ≠ some (.int .u64 z) := by
  obtain ⟨cur, fz, hg, hc⟩ := h
  rw [cell_of_row w g o cur e fz hg]
  intro he
  exact hc _ (by simpa using Array.mem_of_getElem? he) z rfl

/-- A row of one's own without limbs. -/
structure OwnS (w : World) (base : Nat) (e : TypeId) (k : Nat) (v : Value) (n : Nat) (xs : List Value) : Prop where
  row : w.ownsRow base e k v n xs
  clean : ∀ g, v.ownBlock = some g → CleanB w e g

theorem OwnS.kept {w w' : World} {base : Nat} {e : TypeId} {k : Nat} {v : Value} {n : Nat} {xs : List Value} {row : Option Nat} (h : OwnS w base e k v n xs) (hg : w.grownBy w' row) (hne : v.ownBlock = none ∨ v.ownBlock ≠ row) : OwnS w' base e k v n xs := by
  refine ⟨h.row.kept hg hne, fun g hv => ?_⟩
  have hc := h.clean g hv
  refine hc.kept (hg.block g hc.lt ?_)
  rcases hne with hn | hn
  · rw [hn] at hv; cases hv
  · rw [← hv]; exact hn

theorem OwnS.block {w w' : World} {base : Nat} {e : TypeId} {k : Nat} {v : Value} {n : Nat} {xs : List Value} (h : OwnS w base e k v n xs) (hb : ∀ g, v.ownBlock = some g → w'.heap[g]? = w.heap[g]?) : OwnS w' base e k v n xs := by
  refine ⟨⟨h.row.1, ?_⟩, fun g hv => (h.clean g hv).kept (hb g hv)⟩
  rcases h.row.2 with h1 | ⟨g, cap, cur, rfl, h2, h3, h4⟩
  · exact .inl h1
  · exact .inr ⟨g, cap, cur, rfl, h2, (hb g rfl).trans h3, h4⟩
theorem OwnS.below {w w' : World} {base : Nat} {e : TypeId} {k : Nat} {v : Value} {n : Nat} {xs : List Value} (h : OwnS w base e k v n xs) (hb : Below w.heap.size w w') : OwnS w' base e k v n xs :=
  h.block fun g hv => hb.block g (h.clean g hv).lt

theorem OwnS.nil (w : World) (base : Nat) (e : TypeId) (k : Nat) : OwnS w base e k (.slice none 0 0) 0 [] := ⟨World.ownsRow_nil w base e k, fun g h => by cases h⟩
theorem OwnS.made (w : World) (e : TypeId) (k : Nat) {base : Nat} (hb : base ≤ w.heap.size) : OwnS (w.alloc (.cells #[] e)) base e k (.slice (some ⟨w.heap.size, 0, none⟩) 0 0) 0 [] :=
  ⟨World.ownsRow_made w #[] 0 hb (Nat.zero_le _) (by simp), fun g h => by cases h; exact ⟨#[], (0, 0), heap_alloc_new w _, by simp⟩⟩

/-- Rows of limbs lie elsewhere. -/
theorem RowAt.grown {w w' : World} {e : TypeId} {ao : Option Addr} {n cap : Nat} {xs : List Int} {row : Option Nat} (h : RowAt w ao n cap xs) (hg : w.grownBy w' row) (hc : ∀ g, row = some g → CleanB w e g) : RowAt w' ao n cap xs := by
  refine ⟨h.len, h.limbs, h.fits, h.most, h.bare, fun hne => ?_⟩
  obtain ⟨b, off, e1, hlt, hcc⟩ := h.cells hne
  have hbr : some b ≠ row := by
    rintro rfl
    exact (hc b rfl).off (off + 0) _ (hcc 0 (List.length_pos_iff.2 hne))
  exact ⟨b, off, e1, Nat.lt_of_lt_of_le hlt hg.size, fun j hj => (World.cell?_of_block (a := ⟨b, off + j, none⟩) (hg.block b hlt hbr)).trans (hcc j hj)⟩

theorem zero_clean {z : Value} (hz : ∀ u ∈ z.cells.toList, Clean u) (m : Nat) : ∀ u ∈ (Builtin.zeroCells z.cells m).toList, Clean u := by
  intro u hu
  simp [Builtin.zeroCells] at hu
  obtain ⟨a, ha1, ha2⟩ := hu
  have hp : 0 < z.cells.size := by
    rcases Nat.eq_zero_or_pos z.cells.size with h | h
    · rw [h] at ha1; omega
    · exact h
  have hlt : a % z.cells.size < z.cells.size := Nat.mod_lt _ hp
  rw [getElem!_pos z.cells _ hlt] at ha2
  exact hz u (by rw [← ha2]; simp)

theorem run_append_owns {P : Program} (w : World) (base : Nat) (t ty e : TypeId) (i : TypeInfo) (z : Value) (k bytes : Nat) (ht : P.underlying t = some (.slice e)) (hi : P.info? e = some i) (hz : i.zero = some z)
    (hsize : i.size = k) (hby : i.bytes = bytes) (hzs : z.cells.size = k) (hsz : 0 < k) (hzc : ∀ u ∈ z.cells.toList, Clean u)
    (v : Value) (n : Nat) (xs : List Value) (hown : OwnS w base e k v n xs)
    (ad : Addr) (m c : Nat) (news : List Value) (hl : news.length = m * k) (hnews : ∀ j u, news[j]? = some u → w.cell? (ad.add j) = some u) (h1 : ∀ u ∈ news, u.oneCell' = true) (hnc : ∀ u ∈ news, Clean u)
    (h63 : n + m ≤ maxLen) (hbytes : (n + m) * bytes ≤ 140737488355328) (hbase : base ≤ w.heap.size) :
    ∃ v' w', (Builtin.append_ #[t, t] ty #[v, .slice (some ad) m c]).run P w = .ok v' w' ∧ OwnS w' base e k v' (n + m) (xs ++ news) ∧ w.grownBy w' v.ownBlock ∧ (v' = .slice none 0 0 ↔ v = .slice none 0 0 ∧ m = 0) := by
  obtain ⟨v', w', hr, h2, h3, h4⟩ := run_append_own (P := P) w base t ty e i z k bytes ht hi hz hsize hby hzs hsz v n xs hown.row ad m c news hl hnews h1 h63 hbytes hbase
  refine ⟨v', w', hr, ⟨h2, fun g hg => ?_⟩, h3, h4⟩
  subst hsize hby
  have hml : n + m ≤ 9223372036854775807 := by simp only [maxLen] at h63; omega
  have hold := hown.clean
  rcases hown.row.2 with ⟨rfl, rfl⟩ | ⟨g0, cap, cur, rfl, hbg, hg0, hnc0, hcm, hcs, htake⟩
  · by_cases hm : m = 0
    · rw [h4.2 ⟨rfl, hm⟩] at hg
      cases hg
    · have hr' := run_append_nil (P := P) w t ty e i z ht hi hz ad m c news hl hnews (by omega) (by omega) (by simp only [Nat.zero_add] at hbytes; omega)
      rw [hr'] at hr
      injection hr with e1 e2
      subst e1 e2
      cases hg
      refine ⟨_, (0, 0), heap_alloc_new w.drew _, fun u hu => ?_⟩
      simp only [Array.toList_append, List.mem_append] at hu
      rcases hu with hu | hu
      · exact hnc u (by simpa using hu)
      · exact zero_clean hzc _ u hu
  · obtain ⟨cur2, fz2, hgg2, hcl⟩ := hold g0 rfl
    rw [hg0] at hgg2
    injection hgg2 with e3
    injection e3 with e3
    subst e3
    by_cases hroom : n + m ≤ cap
    · have hfit : n * i.size + news.length ≤ cur.size := by rw [hl, hcs, ← Nat.add_mul]; exact Nat.mul_le_mul_right _ hroom
      have hr' := run_append_room (P := P) w t ty e i ht hi g0 n cap cur hg0 ad m c news hl hnews h1 hroom hfit
      rw [hr'] at hr
      injection hr with e1 e2
      subst e1 e2
      cases hg
      refine ⟨_, (0, 0), setRow_heap w g0 cur _ e _ hg0, fun u hu => ?_⟩
      simp only [List.mem_append, or_assoc] at hu
      rcases hu with hu | hu | hu
      · exact hcl u (List.mem_of_mem_take hu)
      · exact hnc u hu
      · exact hcl u (List.mem_of_mem_drop hu)
    · have holds : ∀ j u, xs[j]? = some u → w.cell? ((⟨g0, 0, none⟩ : Addr).add j) = some u := hown.row.cells (g := g0) rfl
      have hr' := run_append_grow (P := P) w t ty e i z ht hi hz ⟨g0, 0, none⟩ n cap xs hown.row.1 holds ad m c news hl hnews (by omega) (by omega) (growslice_fits (by omega) hbytes)
      rw [hr'] at hr
      injection hr with e1 e2
      subst e1 e2
      cases hg
      refine ⟨_, (0, 0), heap_alloc_new w.drew _, fun u hu => ?_⟩
      simp only [Array.toList_append, List.mem_append, or_assoc] at hu
      rcases hu with hu | hu | hu
      · have hx : u ∈ xs := by simpa using hu
        rw [← htake] at hx
        exact hcl u (List.mem_of_mem_take hx)
      · exact hnc u (by simpa using hu)
      · exact zero_clean hzc _ u hu

theorem wpList_append_owns {P : Program} (w : World) {ops : Array Oper} {rest : List Oper} {o : Oper} {a : Act} {Q : Exit → Act → World → Prop} (hgd : o.guard = none) (s x : Operand) (t : TypeId)
    (ho : o.op = .call { callee := .builtin .append, args := #[s, x], argTypes := #[t, t] })
    (base : Nat) (e : TypeId) (i : TypeInfo) (z : Value) (k bytes : Nat) (ht : P.underlying t = some (.slice e)) (hi : P.info? e = some i) (hz : i.zero = some z)
    (hsize : i.size = k) (hby : i.bytes = bytes) (hzs : z.cells.size = k) (hsz : 0 < k) (hzc : ∀ u ∈ z.cells.toList, Clean u)
    (v : Value) (n : Nat) (xs : List Value) (hs : a.eval s = v) (hown : OwnS w base e k v n xs)
    (ad : Addr) (m c : Nat) (news : List Value) (hx : a.eval x = .slice (some ad) m c) (hl : news.length = m * k) (hnews : ∀ j u, news[j]? = some u → w.cell? (ad.add j) = some u) (h1 : ∀ u ∈ news, u.oneCell' = true) (hnc : ∀ u ∈ news, Clean u)
    (h63 : n + m ≤ maxLen) (hbytes : (n + m) * bytes ≤ 140737488355328) (hbase : base ≤ w.heap.size)
    (h : ∀ v' w', OwnS w' base e k v' (n + m) (xs ++ news) → w.grownBy w' v.ownBlock → (v' = .slice none 0 0 ↔ v = .slice none 0 0 ∧ m = 0) → wpList P ops Q rest (a.put o.dst v') w') : wpList P ops Q (o :: rest) a w := by
  refine wpList_plain hgd fun K hK => ?_
  obtain ⟨v', w', hr, h2, h3, h4⟩ := run_append_owns (P := P) w base t o.type e i z k bytes ht hi hz hsize hby hzs hsz hzc v n xs hown ad m c news hl hnews h1 hnc h63 hbytes hbase
  unfold Oper.wp execOp
  simp only [ho, resolve, invoke, builtin, Sem.run_bind, Sem.run_pure, Result.andThen_ok, List.map_toArray, List.map_cons, List.map_nil, hs, hx, hr]
  exact hK _ _ (h v' w' h2 h3 h4)

/-- Something is put behind: the new value written out. -/
theorem run_append_put {P : Program} (w : World) (base : Nat) (t ty e : TypeId) (i : TypeInfo) (z : Value) (k bytes : Nat) (ht : P.underlying t = some (.slice e)) (hi : P.info? e = some i) (hz : i.zero = some z)
    (hsize : i.size = k) (hby : i.bytes = bytes) (hzs : z.cells.size = k) (hsz : 0 < k) (hzc : ∀ u ∈ z.cells.toList, Clean u)
    (v : Value) (n : Nat) (xs : List Value) (hown : OwnS w base e k v n xs)
    (ad : Addr) (m c : Nat) (news : List Value) (hl : news.length = m * k) (hnews : ∀ j u, news[j]? = some u → w.cell? (ad.add j) = some u) (h1 : ∀ u ∈ news, u.oneCell' = true) (hnc : ∀ u ∈ news, Clean u)
    (hm : 0 < m) (h63 : n + m ≤ maxLen) (hbytes : (n + m) * bytes ≤ 140737488355328) (hbase : base ≤ w.heap.size) :
    ∃ g cap w', (Builtin.append_ #[t, t] ty #[v, .slice (some ad) m c]).run P w = .ok (.slice (some ⟨g, 0, none⟩) (n + m) cap) w' ∧ OwnS w' base e k (.slice (some ⟨g, 0, none⟩) (n + m) cap) (n + m) (xs ++ news) ∧ w.grownBy w' v.ownBlock := by
  obtain ⟨v', w', hr, h2, h3, h4⟩ := run_append_owns (P := P) w base t ty e i z k bytes ht hi hz hsize hby hzs hsz hzc v n xs hown ad m c news hl hnews h1 hnc h63 hbytes hbase
  obtain ⟨g, cap, rfl, _⟩ := h2.row.form (by omega)
  exact ⟨g, cap, w', hr, h2, h3⟩

theorem wp_append_put {P : Program} (w : World) {o : Oper} {a : Act} {K : Act → World → Prop} {Q : Exit → Act → World → Prop} (s x : Operand) (t : TypeId)
    (ho : o.op = .call { callee := .builtin .append, args := #[s, x], argTypes := #[t, t] })
    (base : Nat) (e : TypeId) (i : TypeInfo) (z : Value) (k bytes : Nat) (ht : P.underlying t = some (.slice e)) (hi : P.info? e = some i) (hz : i.zero = some z)
    (hsize : i.size = k) (hby : i.bytes = bytes) (hzs : z.cells.size = k) (hsz : 0 < k) (hzc : ∀ u ∈ z.cells.toList, Clean u)
    (v : Value) (n : Nat) (xs : List Value) (hs : a.eval s = v) (hown : OwnS w base e k v n xs)
    (ad : Addr) (m c : Nat) (news : List Value) (hx : a.eval x = .slice (some ad) m c) (hl : news.length = m * k) (hnews : ∀ j u, news[j]? = some u → w.cell? (ad.add j) = some u) (h1 : ∀ u ∈ news, u.oneCell' = true) (hnc : ∀ u ∈ news, Clean u)
    (hm : 0 < m) (h63 : n + m ≤ maxLen) (hbytes : (n + m) * bytes ≤ 140737488355328) (hbase : base ≤ w.heap.size)
    (h : ∀ g cap w', OwnS w' base e k (.slice (some ⟨g, 0, none⟩) (n + m) cap) (n + m) (xs ++ news) → w.grownBy w' v.ownBlock → K (a.put o.dst (.slice (some ⟨g, 0, none⟩) (n + m) cap)) w') : o.wp P a w K Q := by
  obtain ⟨g, cap, w', hr, h2, h3⟩ := run_append_put (P := P) w base t o.type e i z k bytes ht hi hz hsize hby hzs hsz hzc v n xs hown ad m c news hl hnews h1 hnc hm h63 hbytes hbase
  unfold Oper.wp execOp
  simp only [ho, resolve, invoke, builtin, Sem.run_bind, Sem.run_pure, Result.andThen_ok, List.map_toArray, List.map_cons, List.map_nil, hs, hx, hr]
  exact h g cap w' h2 h3

theorem wpList_append_put {P : Program} (w : World) {ops : Array Oper} {rest : List Oper} {o : Oper} {a : Act} {Q : Exit → Act → World → Prop} (hgd : o.guard = none) (s x : Operand) (t : TypeId)
    (ho : o.op = .call { callee := .builtin .append, args := #[s, x], argTypes := #[t, t] })
    (base : Nat) (e : TypeId) (i : TypeInfo) (z : Value) (k bytes : Nat) (ht : P.underlying t = some (.slice e)) (hi : P.info? e = some i) (hz : i.zero = some z)
    (hsize : i.size = k) (hby : i.bytes = bytes) (hzs : z.cells.size = k) (hsz : 0 < k) (hzc : ∀ u ∈ z.cells.toList, Clean u)
    (v : Value) (n : Nat) (xs : List Value) (hs : a.eval s = v) (hown : OwnS w base e k v n xs)
    (ad : Addr) (m c : Nat) (news : List Value) (hx : a.eval x = .slice (some ad) m c) (hl : news.length = m * k) (hnews : ∀ j u, news[j]? = some u → w.cell? (ad.add j) = some u) (h1 : ∀ u ∈ news, u.oneCell' = true) (hnc : ∀ u ∈ news, Clean u)
    (hm : 0 < m) (h63 : n + m ≤ maxLen) (hbytes : (n + m) * bytes ≤ 140737488355328) (hbase : base ≤ w.heap.size)
    (h : ∀ g cap w', OwnS w' base e k (.slice (some ⟨g, 0, none⟩) (n + m) cap) (n + m) (xs ++ news) → w.grownBy w' v.ownBlock → wpList P ops Q rest (a.put o.dst (.slice (some ⟨g, 0, none⟩) (n + m) cap)) w') : wpList P ops Q (o :: rest) a w :=
  wpList_plain hgd fun _ hK => wp_append_put w s x t ho base e i z k bytes ht hi hz hsize hby hzs hsz hzc v n xs hs hown ad m c news hx hl hnews h1 hnc hm h63 hbytes hbase fun g cap w' h2 h3 => hK _ _ (h g cap w' h2 h3)

theorem step_append_put {P : Program} (w : World) {ops : Array Oper} {o : Oper} {a : Act} {K : Act → World → Prop} {Q : Exit → Act → World → Prop} {E : Prop} (hgd : o.guard = none) (s x : Operand) (t : TypeId)
    (ho : o.op = .call { callee := .builtin .append, args := #[s, x], argTypes := #[t, t] })
    (base : Nat) (e : TypeId) (i : TypeInfo) (z : Value) (k bytes : Nat) (ht : P.underlying t = some (.slice e)) (hi : P.info? e = some i) (hz : i.zero = some z)
    (hsize : i.size = k) (hby : i.bytes = bytes) (hzs : z.cells.size = k) (hsz : 0 < k) (hzc : ∀ u ∈ z.cells.toList, Clean u)
    (v : Value) (n : Nat) (xs : List Value) (hs : a.eval s = v) (hown : OwnS w base e k v n xs)
    (ad : Addr) (m c : Nat) (news : List Value) (hx : a.eval x = .slice (some ad) m c) (hl : news.length = m * k) (hnews : ∀ j u, news[j]? = some u → w.cell? (ad.add j) = some u) (h1 : ∀ u ∈ news, u.oneCell' = true) (hnc : ∀ u ∈ news, Clean u)
    (hm : 0 < m) (h63 : n + m ≤ maxLen) (hbytes : (n + m) * bytes ≤ 140737488355328) (hbase : base ≤ w.heap.size)
    (h : ∀ g cap w', OwnS w' base e k (.slice (some ⟨g, 0, none⟩) (n + m) cap) (n + m) (xs ++ news) → w.grownBy w' v.ownBlock → K (a.put o.dst (.slice (some ⟨g, 0, none⟩) (n + m) cap)) w') :
    if Region.wanted o (yielded ops a.tmps) = true then Oper.wp P o a w K Q else E := by
  have hw : Region.wanted o (yielded ops a.tmps) = true := by simp [Region.wanted, hgd]
  rw [if_pos hw]
  exact wp_append_put w s x t ho base e i z k bytes ht hi hz hsize hby hzs hsz hzc v n xs hs hown ad m c news hx hl hnews h1 hnc hm h63 hbytes hbase h

end Go.Proofs.YtnedghhcidohnaaGreat
