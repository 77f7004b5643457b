/-
  Joined: PolyS · PolyT.
-/
import Derived.Test.YtbdldijgcmgfaaaGreatJR1
import Derived.Test.YtbdldijgcmgfaaaGreatJL1
import Derived.Test.YtbdldijgcmgfaaaGreatShelf
import Derived.Shelf.SlSortCmp.NoneTotal

/-! The order on terms, as the library's sort asks it. -/
namespace Go.Proofs.YtbdldijgcmgfaaaGreat
open Go.RowKit
open Go.Sort (size_putRowK cell?_putRowK_other HoldsK putRowK)

theorem Mg.Below.grown {w w' : World} (h : Mg.Below w.heap.size w w') : ∃ q os, w' = Go.Sort.grow (w.drewN q) os := by
  refine ⟨w'.drawn - w.drawn, w'.heap.extract w.heap.size w'.heap.size, ?_⟩
  have hh : w.heap ++ w'.heap.extract w.heap.size w'.heap.size = w'.heap := by
    apply Array.ext_getElem?
    intro k
    rw [Array.getElem?_append]
    split
    · exact (h.block k ‹_›).symm
    · rename_i hk
      rw [Array.getElem?_extract]
      have := h.size
      split
      · congr 1
        omega
      · rw [Array.getElem?_eq_none]
        omega
  have hd : w.drawn + (w'.drawn - w.drawn) = w'.drawn := by have := h.drawn; omega
  show w' = { heap := w.heap ++ w'.heap.extract w.heap.size w'.heap.size, tape := w.tape, drawn := w.drawn + (w'.drawn - w.drawn), os := w.os, output := w.output }
  rw [hd, hh, ← h.bel.tape, ← h.bel.os, ← h.bel.output]

/-- A term whose monomial may be, and where its parts lie. -/
structure TM where
  p : TP
  t : TL
  may : Mn.May4 p.a p.b p.c p.d
  mo : t.m = ⟨p.a, p.b, p.c, p.d⟩
theorem ex0 : Mn.Ex 0 := ⟨by omega, by omega⟩
abbrev TM.inh : Inhabited TM := ⟨⟨⟨false, none, 0, 0, none, 0, 0, 0, 0, 0, 0⟩, ⟨rat0, ⟨0, 0, 0, 0⟩⟩, ⟨ex0, ex0, ex0, ex0⟩, rfl⟩⟩
set_option linter.unusedSectionVars false
section Terms
variable [Inhabited TM]
def TM.cs (x : TM) : List Value := x.p.cs
theorem TM.mayM (x : TM) : MayM x.t.m := by unfold MayM; rw [x.mo]; exact x.may

def cfT (o : Int) (x y : TM) : Int :=
  if o = 0 then Mn.lexI y.p.a y.p.b y.p.c y.p.d x.p.a x.p.b x.p.c x.p.d
  else if o = 1 then Mn.degI y.p.a y.p.b y.p.c y.p.d x.p.a x.p.b x.p.c x.p.d (Mn.lexI y.p.a y.p.b y.p.c y.p.d x.p.a x.p.b x.p.c x.p.d)
  else Mn.degI y.p.a y.p.b y.p.c y.p.d x.p.a x.p.b x.p.c x.p.d (Mn.revI y.p.a y.p.b y.p.c y.p.d x.p.a x.p.b x.p.c x.p.d)

theorem cfT_mn {o : Int} (ho : Ord o) (x y : TM) : CmpM o y.t.m x.t.m (cfT o x y) := by
  have h1 := ho.lo
  have h2 := ho.hi
  unfold CmpM
  rw [x.mo, y.mo]
  refine ⟨fun h => absurd ⟨y.may, x.may⟩ h, fun h => by omega, fun _ e => ?_, fun _ e => ?_, fun _ e => ?_⟩ <;> subst e <;> rfl
theorem cfT_mg {o : Int} (ho : Ord o) (x y : TM) : Mg.CmpIs o y.p.a y.p.b y.p.c y.p.d x.p.a x.p.b x.p.c x.p.d (cfT o x y) := by
  have h1 := ho.lo
  have h2 := ho.hi
  have hx := x.may
  have hy := y.may
  refine ⟨fun h => absurd ⟨⟨⟨hy.x.lo, hy.x.hi⟩, ⟨hy.y.lo, hy.y.hi⟩, ⟨hy.z.lo, hy.z.hi⟩, ⟨hy.u.lo, hy.u.hi⟩⟩, ⟨⟨hx.x.lo, hx.x.hi⟩, ⟨hx.y.lo, hx.y.hi⟩, ⟨hx.z.lo, hx.z.hi⟩, ⟨hx.u.lo, hx.u.hi⟩⟩⟩ h, fun h => by omega, fun _ e => ?_, fun _ e => ?_, fun _ e => ?_⟩ <;> subst e <;> rfl

theorem lt_yes {o : Int} (ho : Ord o) (x y : TM) : ltOf (cfT o) x y = true ↔ UpM o x.t.m y.t.m := by
  unfold ltOf
  rw [decide_eq_true_iff]
  rcases (cfT_mn ho x y).spec y.mayM x.mayM ho with ⟨h, u⟩ | ⟨h, u⟩ | ⟨h, u⟩
  · rw [h]
    exact ⟨fun h => by omega, fun h => (u.irr h ho).elim⟩
  · rw [h, u]
    exact ⟨fun h => by omega, fun h => (h.self ho).elim⟩
  · rw [h]
    exact ⟨fun _ => u, fun _ => by omega⟩
theorem lt_no {o : Int} (ho : Ord o) (x y : TM) : ltOf (cfT o) x y = false ↔ (UpM o y.t.m x.t.m ∨ y.t.m = x.t.m) := by
  unfold ltOf
  rw [decide_eq_false_iff_not]
  rcases (cfT_mn ho x y).spec y.mayM x.mayM ho with ⟨h, u⟩ | ⟨h, u⟩ | ⟨h, u⟩
  · rw [h]
    exact ⟨fun _ => .inl u, fun _ => by omega⟩
  · rw [h]
    exact ⟨fun _ => .inr u, fun _ => by omega⟩
  · rw [h]
    exact ⟨fun h => absurd (by omega) h, fun h => by
      rcases h with h | h
      · exact (u.irr h ho).elim
      · rw [h] at u
        exact (u.self ho).elim⟩

theorem swoT {o : Int} (ho : Ord o) : Go.Sort.SWO (ltOf (cfT o)) := by
  refine ⟨fun x => (lt_no ho x x).2 (.inr rfl), fun x y z h g => (lt_yes ho x z).2 (((lt_yes ho x y).1 h).trans ((lt_yes ho y z).1 g) ho), fun x y z h g => (lt_no ho x z).2 ?_⟩
  rcases (lt_no ho x y).1 h with h | h <;> rcases (lt_no ho y z).1 g with g | g
  · exact .inl (g.trans h ho)
  · exact .inl (by rw [g]; exact h)
  · exact .inl (by rw [← h]; exact g)
  · exact .inr (g.trans h)

set_option maxHeartbeats 1000000 in
theorem order_b {o : Int} (ho : Ord o) (B : Nat) (x y : TM) (w : World) (hB : B < w.heap.size) (hb : w.cell? ⟨B, 0, none⟩ = some (.int .i64 o)) :
    Calls Tryz.prog 61 #[.agg x.cs.toArray, .agg y.cs.toArray, .pointer (some ⟨B, 0, none⟩)] w fun e w' => e = .returned (.int .i64 (cfT o x y)) ∧ Mg.Below w.heap.size w w' := by
  have HC : Hid (Mg.CmpIs o y.p.a y.p.b y.p.c y.p.d x.p.a x.p.b x.p.c x.p.d (cfT o x y)) := cfT_mg ho x y
  generalize cfT o x y = k at HC ⊢
  obtain ⟨⟨g, no, nn, nc, eo, en, ec, pa, pb, pc, pd⟩, t, _, _⟩ := x
  obtain ⟨⟨g', no', nn', nc', eo', en', ec', qa, qb, qc, qd⟩, t', _, _⟩ := y
  dsimp only at HC
  show Calls Tryz.prog 61 #[.agg #[.bool g, .slice no nn nc, .slice eo en ec, .int .i64 pa, .int .i64 pb, .int .i64 pc, .int .i64 pd], .agg #[.bool g', .slice no' nn' nc', .slice eo' en' ec', .int .i64 qa, .int .i64 qb, .int .i64 qc, .int .i64 qd], .pointer (some ⟨B, 0, none⟩)] w _
  have b2 : Mg.Below w.heap.size w ((w.alloc (.cells #[.bool g, .slice no nn nc, .slice eo en ec, .int .i64 pa, .int .i64 pb, .int .i64 pc, .int .i64 pd] 39)).alloc (.cells #[.bool g', .slice no' nn' nc', .slice eo' en' ec', .int .i64 qa, .int .i64 qb, .int .i64 qc, .int .i64 qd] 39)) := ((Mg.Below.refl _ _).alloc (Nat.le_refl _) _).alloc (by rw [World.size_alloc]; omega) _
  have cb := (b2.cell (p := ⟨B, 0, none⟩) hB).trans hb
  have B2 : Hid (Mg.Below w.heap.size w ((w.alloc (.cells #[.bool g, .slice no nn nc, .slice eo en ec, .int .i64 pa, .int .i64 pb, .int .i64 pc, .int .i64 pd] 39)).alloc (.cells #[.bool g', .slice no' nn' nc', .slice eo' en' ec', .int .i64 qa, .int .i64 qb, .int .i64 qc, .int .i64 qd] 39))) := b2
  clear b2 hb hB ho
  go_enter Tryz.func61, Tryz.ntmps61
  go_wp2_with fail
  refine (Mg.cmp_val _ _ _ _ _ _ _ _ _ _ _ HC.out).mono ?_
  rintro e w1 ⟨rfl, b1⟩
  have B3 : Hid (Mg.Below w.heap.size w w1) := B2.out.trans (b1.mono B2.out.size)
  clear b1
  go_wp2
  go_ret
  exact ⟨rfl, B3.out⟩

theorem cmpLaysT {o : Int} (ho : Ord o) (B blk off size : Nat) (w : World) (hne : B ≠ blk) (hB : B < w.heap.size) (hb : w.cell? ⟨B, 0, none⟩ = some (.int .i64 o)) :
    CmpLays Tryz.prog 61 #[.pointer (some ⟨B, 0, none⟩)] TM.cs 7 (cfT o) blk off size w := by
  intro m os dk hs x y
  have hc : (sortWorldK TM.cs 7 w blk off m dk os).cell? ⟨B, 0, none⟩ = some (.int .i64 o) := by
    unfold sortWorldK
    rw [Go.Sort.cell?_grow _ _ _ (by rw [size_putRowK]; exact hB), cell?_putRowK_other _ _ _ _ _ _ _ hne]
    exact hb
  refine (order_b ho B x y _ (Nat.lt_of_lt_of_le hB (size_sortWorldK_c _ _ _ _ _ _ _ _)) hc).mono ?_
  rintro e w' ⟨rfl, hw⟩
  exact ⟨rfl, hw.grown⟩

set_option maxHeartbeats 2000000 in
set_option maxRecDepth 100000 in
theorem sort_rows {o : Int} (ho : Ord o) (B blk off cap : Nat) (d : Array TM) (w : World) (hne : B ≠ blk) (hB : B < w.heap.size) (hb : w.cell? ⟨B, 0, none⟩ = some (.int .i64 o)) (hH : HoldsK TM.cs 7 w blk off d) (hblk : blk < w.heap.size) (hsz : d.size < 4611686018427387904) :
    Calls Tryz.prog 60 #[.slice (some ⟨blk, off, none⟩) d.size cap, .func (.func 61) #[] #[.pointer (some ⟨B, 0, none⟩)]] w fun e w' =>
      e = .returned (.tuple #[]) ∧ ∃ d' n os, Go.Sort.PermIn 0 d.size d d' ∧ Go.Sort.SortedIn (ltOf (cfT o)) 0 d.size d' ∧ w' = sortWorldK TM.cs 7 w blk off n d' os := by
  have hlim : Go.Lib.bitLen d.size < 4611686018427387904 := Nat.lt_of_le_of_lt (Go.Lib.bitLen_le d.size 62 (by omega) (by omega)) (by omega)
  have hp := AnyQ.pdqsortCmpFunc_all Tryz.sortT 7 Tryz.isAgg39 Tryz.sizeOf39 TM.cs (cfT o) 61 #[.pointer (some ⟨B, 0, none⟩)] (swoT ho) blk off cap d w (enters_of Tryz.func61 (by kernel_rfl) rfl) (cmpLaysT ho B blk off d.size w hne hB hb) ⟨fun _ => rfl, fun x => x.p.cs_one, hH, hblk⟩ (d.size + 1) 0 d.size (Go.Lib.bitLen d.size) d w (by omega) rfl (SWK.start hH) (Nat.zero_le _) (Nat.le_refl _) hsz hlim (Or.inl rfl)
  have hs := Go.Sort.pdq_sorts (ltOf (cfT o)) (swoT ho) d 0 d.size (Go.Lib.bitLen d.size) true true (Nat.zero_le _) (Nat.le_refl _) (Or.inl rfl)
  have hl : Calls Tryz.prog 84 #[.int .u64 (d.size : Int)] w fun e w' => e = .returned (.int .i64 (Go.Lib.bitLen d.size : Nat)) ∧ w' = w := by
    have h := Any.bits_Len Tryz.lays125 (d.size : Int) w (by omega) (by omega)
    rwa [Int.toNat_natCast] at h
  have wr : IntKind.u64.wrap (d.size : Int) = d.size := by simp [IntKind.wrap, IntKind.bits, IntKind.signed]; omega
  have HS : Hid (Go.Sort.PermIn 0 d.size d (Go.Sort.pdq (ltOf (cfT o)) d 0 d.size (Go.Lib.bitLen d.size) true true) ∧ Go.Sort.SortedIn (ltOf (cfT o)) 0 d.size (Go.Sort.pdq (ltOf (cfT o)) d 0 d.size (Go.Lib.bitLen d.size) true true)) := hs
  clear hs hH hb
  go_enter Tryz.func60, Tryz.ntmps60
  go_wp2_with (first | (go_at_call 84; refine hl.mono ?_; rintro e w' ⟨rfl, rfl⟩) | (go_at_call 83; refine hp.mono ?_; rintro e w' ⟨rfl, n, os, rfl⟩))
  go_end0
  exact ⟨rfl, _, n, os, HS.out.1, HS.out.2, rfl⟩

set_option maxHeartbeats 2000000 in
theorem sort_none (p : Option Addr) (cap : Nat) (fv : Value) (w : World) :
    Calls Tryz.prog 60 #[.slice p 0 cap, fv] w fun e w' => e = .returned (.tuple #[]) ∧ w' = w := by
  have hp := fun lim W => AnyF.pdqsortCmpFunc_none Tryz.sortT p cap lim fv W
  have hl : ∀ W, Calls Tryz.prog 84 #[.int .u64 0] W fun e w' => e = .returned (.int .i64 (Go.Lib.bitLen 0 : Nat)) ∧ w' = W := fun W => Any.bits_Len Tryz.lays125 0 W (by omega) (by omega)
  go_enter Tryz.func60, Tryz.ntmps60
  go_wp2_with (first | (go_at_call 84; refine (hl _).mono ?_; rintro e w' ⟨rfl, rfl⟩) | (go_at_call 83; refine (hp _ _).mono ?_; rintro e w' ⟨rfl, rfl⟩))
  go_end0
  exact ⟨rfl, rfl⟩
end Terms
end Go.Proofs.YtbdldijgcmgfaaaGreat

/-! Terms of one's own, sorted. -/
namespace Go.Proofs.YtbdldijgcmgfaaaGreat
open Go.RowKit
open Go.Sort (size_putRowK HoldsK putRowK flatK get_flatK)
set_option linter.unusedSectionVars false
section Sorts
variable [Inhabited TM]

theorem tms_ex : ∀ (ps : List TP) (ls : List TL), ps.length = ls.length → (∀ (i : Nat) p t, ps[i]? = some p → ls[i]? = some t → Mn.May4 p.a p.b p.c p.d ∧ t.m = ⟨p.a, p.b, p.c, p.d⟩) → ∃ d : List TM, d.map TM.p = ps ∧ d.map TM.t = ls
  | [], [], _, _ => ⟨[], rfl, rfl⟩
  | [], _ :: _, h, _ => by simp at h
  | _ :: _, [], h, _ => by simp at h
  | p :: ps, t :: ls, h, g => by
    obtain ⟨d, h1, h2⟩ := tms_ex ps ls (by simpa using h) (fun i q s hq hs => g (i + 1) q s (by simpa using hq) (by simpa using hs))
    obtain ⟨g1, g2⟩ := g 0 p t rfl rfl
    exact ⟨⟨p, t, g1, g2⟩ :: d, by simp [h1], by simp [h2]⟩

theorem flat_cells (d : List TM) : flatK TM.cs 7 d.toArray = (tcells (d.map TM.p)).toArray := by
  apply Array.ext_getElem?
  intro j
  have hsz : (flatK TM.cs 7 d.toArray).size = d.length * 7 := by simp
  have hln : (tcells (d.map TM.p)).length = d.length * 7 := by rw [tcells_length, List.length_map]
  by_cases hj : j < d.length * 7
  · have hi : j / 7 < d.length := by omega
    have h1 := get_flatK TM.cs 7 d.toArray j (by simpa using hj)
    have e1 : (d.toArray)[j / 7]! = d[j / 7] := by rw [getElem!_pos _ _ (by simpa using hi)]; rfl
    rw [e1] at h1
    have hm : j % 7 < (TM.cs d[j / 7]).length := by show j % 7 < 7; omega
    have e2 : (TM.cs d[j / 7])[j % 7]? = some (TM.cs d[j / 7])[j % 7]! := by rw [List.getElem?_eq_getElem hm, getElem!_pos (TM.cs d[j / 7]) (j % 7) hm]
    have h2 := tcells_at (d.map TM.p) (j / 7) (j % 7) d[j / 7].p (TM.cs d[j / 7])[j % 7]! (by simp [hi]) e2
    rw [show j / 7 * 7 + j % 7 = j by omega] at h2
    have h3 : (tcells (d.map TM.p)).toArray[j]? = (tcells (d.map TM.p))[j]? := List.getElem?_toArray ..
    have hjf : j < (flatK TM.cs 7 d.toArray).size := by rw [hsz]; exact hj
    rw [h3, h2, ← h1, Array.getElem?_eq_getElem hjf, getElem!_pos (flatK TM.cs 7 d.toArray) j hjf]
  · rw [Array.getElem?_eq_none (by rw [hsz]; omega), Array.getElem?_eq_none (by simp [hln]; omega)]

theorem holds_terms {w : World} {base g n cap : Nat} {d : List TM} {ls : List TL} (h : TermsOwn w base (.slice (some ⟨g, 0, none⟩) n cap) (d.map TM.p) ls) : HoldsK TM.cs 7 w g 0 d.toArray := by
  show Go.Sort.Holds id w g 0 (flatK TM.cs 7 d.toArray)
  rw [flat_cells]
  intro j hj
  have hj' : j < (tcells (d.map TM.p)).length := by simpa using hj
  have h1 := h.own.row.cells (g := g) rfl j _ (List.getElem?_eq_getElem hj')
  rw [Addr.add_mid] at h1
  refine ⟨?_, ?_⟩
  · rw [getElem!_pos (tcells (d.map TM.p)).toArray j hj]
    exact h1
  · rcases h.own.row.2 with ⟨e, _⟩ | ⟨g', cap', cur, e, _, hb, _⟩
    · cases e
    · injection e with e _ _
      injection e with e
      injection e with e
      subst e
      simp [World.frozen?, hb]

theorem heap_sortedK {w : World} {g n : Nat} {os : Array Obj} {cur : Array Value} {e : TypeId} {fr : Nat × Nat} (d : Array TM) (hb : w.heap[g]? = some (.cells cur e fr)) :
    (sortWorldK TM.cs 7 w g 0 n d os).heap[g]? = some (.cells (Go.Sort.putCells id 0 (flatK TM.cs 7 d) cur) e fr) := by
  have hg : g < w.heap.size := (Array.getElem?_eq_some_iff.1 hb).1
  unfold sortWorldK
  rw [Go.Sort.heap_grow_old _ _ (by rw [size_putRowK]; exact hg)]
  simp [putRowK, Go.Sort.putRow, Go.Sort.mapBlock, Go.Sort.ahead, Array.getElem?_modify, hb, Go.Sort.onCells]
theorem grownBy_sortedK {w : World} {g n : Nat} {os : Array Obj} (d : Array TM) : w.grownBy (sortWorldK TM.cs 7 w g 0 n d os) (some g) := by
  unfold sortWorldK
  refine ⟨rfl, rfl, rfl, ?_, fun k hk hne => ?_⟩
  · rw [Go.Sort.size_grow, size_putRowK]
    exact Nat.le_add_right _ _
  · rw [Go.Sort.heap_grow_old _ _ (by rw [size_putRowK]; exact hk)]
    have : g ≠ k := fun e => hne (by rw [e])
    simp [putRowK, Go.Sort.putRow, Go.Sort.mapBlock, Go.Sort.ahead, Array.getElem?_modify, this]

theorem take_flat (cur : Array Value) (xs : List Value) (h : xs.length ≤ cur.size) : (Go.Sort.putCells id 0 xs.toArray cur).toList.take xs.length = xs := by
  apply List.ext_getElem?
  intro j
  by_cases hj : j < xs.length
  · rw [List.getElem?_take_of_lt hj, Array.getElem?_toList]
    simp [Go.Sort.putCells, hj, show j < cur.size by omega]
  · rw [List.getElem?_take_eq_none (by omega), List.getElem?_eq_none (by omega)]
theorem put_clean (cur : Array Value) (xs : List Value) (hc : ∀ u ∈ cur.toList, Clean u) (hx : ∀ u ∈ xs, Clean u) : ∀ u ∈ (Go.Sort.putCells id 0 xs.toArray cur).toList, Clean u := by
  intro u hu
  obtain ⟨j, hj, rfl⟩ := List.mem_iff_getElem.1 hu
  have hj' : j < cur.size := by simpa [Go.Sort.putCells] using hj
  by_cases h : j < xs.length
  · have e : (Go.Sort.putCells id 0 xs.toArray cur).toList[j] = xs[j] := by simp [Go.Sort.putCells, h]
    rw [e]
    exact hx _ (List.getElem_mem _)
  · have e : (Go.Sort.putCells id 0 xs.toArray cur).toList[j] = cur[j] := by simp [Go.Sort.putCells, h]
    rw [e]
    exact hc _ (by simp)

/-- Behind the sort. -/
theorem terms_sorted {w : World} {base g cap n : Nat} {os : Array Obj} {d d' : List TM} (hp : d'.Perm d) (h : TermsOwn w base (.slice (some ⟨g, 0, none⟩) d.length cap) (d.map TM.p) (d.map TM.t)) :
    TermsOwn (sortWorldK TM.cs 7 w g 0 n d'.toArray os) base (.slice (some ⟨g, 0, none⟩) d.length cap) (d'.map TM.p) (d'.map TM.t) := by
  have hl : d'.length = d.length := hp.length_eq
  have hgr := grownBy_sortedK (w := w) (g := g) (n := n) (os := os) d'.toArray
  rcases h.own.row.2 with ⟨e, _⟩ | ⟨g', cap', cur, e, hbase, hb, h1, h2, h3, h4⟩
  · cases e
  · injection e with e _ e2
    injection e with e
    injection e with e
    subst e e2
    have hclean : ∀ u ∈ cur.toList, Clean u := by
      obtain ⟨cur2, fz, hb2, hc⟩ := h.own.clean g rfl
      rw [hb] at hb2
      injection hb2 with e
      injection e with e
      subst e
      exact hc
    have hs := heap_sortedK (n := n) (os := os) d'.toArray hb
    rw [flat_cells] at hs
    have hlen : (tcells (d'.map TM.p)).length = d.length * 7 := by rw [tcells_length, List.length_map, hl]
    refine ⟨⟨⟨by rw [hlen, List.length_map, hl], .inr ⟨g, cap, _, by rw [List.length_map, hl], hbase, hs, by rw [List.length_map, hl]; simpa using h1, h2, by simp [Go.Sort.putCells, h3], ?_⟩⟩, fun k hk => ?_⟩, by simp, fun i p t hpi hti => ?_⟩
    · rw [List.length_map, hl, ← hlen]
      refine take_flat cur _ ?_
      rw [hlen, h3]
      exact Nat.mul_le_mul_right _ (by simpa using h1)
    · cases hk
      exact ⟨_, (0, 0), hs, put_clean cur _ hclean (tcells_clean _)⟩
    · rw [List.getElem?_map] at hpi hti
      obtain ⟨x, hx, rfl⟩ := Option.map_eq_some_iff.1 hpi
      rw [hx] at hti
      cases hti
      obtain ⟨k, hk⟩ := List.mem_iff_getElem?.1 (hp.mem_iff.1 (List.mem_of_getElem? hx))
      exact (h.each k x.p x.t (by rw [List.getElem?_map, hk]; rfl) (by rw [List.getElem?_map, hk]; rfl)).grown hgr (fun k hk => by cases hk; exact h.own.clean g rfl)

theorem falls_sorted {o : Int} (ho : Ord o) {d' : List TM} (hs : Go.Sort.SortedIn (ltOf (cfT o)) 0 d'.length d'.toArray) (hn : (d'.map fun x => x.t.m).Nodup) : Falls o (d'.map TM.t) := by
  unfold Falls
  rw [List.pairwise_map, List.pairwise_iff_getElem]
  intro i j hi hj hij
  have h := hs i j (Nat.zero_le _) hij hj
  rw [getElem!_pos _ _ (by simpa using hj), getElem!_pos _ _ (by simpa using hi)] at h
  rcases (lt_no ho _ _).1 h with h | h
  · simpa using h
  · exfalso
    have hq := List.pairwise_iff_getElem.1 hn i j (by simpa using hi) (by simpa using hj) hij
    simp at hq h
    exact hq h

set_option maxHeartbeats 1000000 in
/-- The sort of terms of one's own. -/
theorem sort_termsI {o : Int} (ho : Ord o) (B base : Nat) (w : World) (v : Value) (ps : List TP) (ls : List TL) (hBb : B < base) (hB : B < w.heap.size) (hb : w.cell? ⟨B, 0, none⟩ = some (.int .i64 o)) (h : TermsOwn w base v ps ls) (hm : ∀ t ∈ ls, MayM t.m) (hn : (ls.map TL.m).Nodup) (hsz : ls.length < 4611686018427387904) :
    Calls Tryz.prog 60 #[v, .func (.func 61) #[] #[.pointer (some ⟨B, 0, none⟩)]] w fun e w' =>
      e = .returned (.tuple #[]) ∧ ∃ qs ms, TermsOwn w' base v qs ms ∧ Falls o ms ∧ ms.Perm ls ∧ Below base w w' := by
  by_cases hv : v = .slice none 0 0
  · subst hv
    obtain ⟨lo, cap, h1, _⟩ := h.poly
    have hps : ps = [] := by
      injection h1 with _ h1 _
      exact List.length_eq_zero_iff.1 h1.symm
    have hls : ls = [] := by
      have := h.len
      rw [hps] at this
      exact List.length_eq_zero_iff.1 this.symm
    refine (sort_none none 0 _ w).mono ?_
    rintro e w' ⟨rfl, rfl⟩
    exact ⟨rfl, ps, ls, h, by rw [hls]; exact List.Pairwise.nil, .refl _, Below.refl _ _⟩
  · obtain ⟨g, cap, rfl, hbase, hg, _, _⟩ := h.form hv
    obtain ⟨d, rfl, rfl⟩ := tms_ex ps ls h.len (fun i p t hp ht => ⟨(h.each i p t hp ht).may4.1 (hm t (List.mem_of_getElem? ht)), (h.each i p t hp ht).mo⟩)
    have hH := holds_terms h
    rw [List.length_map] at h ⊢
    have hd : d.toArray.size = d.length := by simp
    have hsz' : d.toArray.size < 4611686018427387904 := by simpa using hsz
    have hq := sort_rows ho B g 0 cap d.toArray w (by omega) hB hb hH hg hsz'
    rw [hd] at hq
    refine hq.mono ?_
    rintro e w' ⟨rfl, d', n, os, ⟨hd1, _, hd2⟩, hso, rfl⟩
    have hps : d'.toList.Perm d := by
      have e1 : d'.extract 0 d.length = d' := by rw [← hd, ← hd1]; simp
      have e2 : d.toArray.extract 0 d.length = d.toArray := by rw [← hd]; simp
      rw [e1, e2] at hd2
      exact hd2
    have ed : d' = d'.toList.toArray := by simp
    rw [ed]
    refine ⟨rfl, _, _, terms_sorted hps h, falls_sorted ho (by rw [← ed]; have : d'.toList.length = d.length := hps.length_eq; rw [this]; exact hso) ?_, hps.map _, ?_⟩
    · rw [List.map_map] at hn
      exact (hps.map _).nodup_iff.2 hn
    · exact (Below.refl base w).grown (grownBy_sortedK _) (by omega) (fun k hk => by cases hk; exact hbase)
end Sorts

/-- The sort of terms of one's own. -/
theorem sort_terms {o : Int} (ho : Ord o) (B base : Nat) (w : World) (v : Value) (ps : List TP) (ls : List TL) (hBb : B < base) (hB : B < w.heap.size) (hb : w.cell? ⟨B, 0, none⟩ = some (.int .i64 o)) (h : TermsOwn w base v ps ls) (hm : ∀ t ∈ ls, MayM t.m) (hn : (ls.map TL.m).Nodup) (hsz : ls.length < 4611686018427387904) :
    Calls Tryz.prog 60 #[v, .func (.func 61) #[] #[.pointer (some ⟨B, 0, none⟩)]] w fun e w' =>
      e = .returned (.tuple #[]) ∧ ∃ qs ms, TermsOwn w' base v qs ms ∧ Falls o ms ∧ ms.Perm ls ∧ Below base w w' := by
  haveI := TM.inh
  exact sort_termsI ho B base w v ps ls hBb hB hb h hm hn hsz
end Go.Proofs.YtbdldijgcmgfaaaGreat
