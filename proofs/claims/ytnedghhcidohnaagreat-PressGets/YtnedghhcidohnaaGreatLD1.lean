/-
  Joined: JT1 · JU1.
-/
import Derived.Below
import Derived.BigQuiet
import Derived.Deep.DrawnRows
import Derived.Deep.Draws
import Derived.Deep.QuietTactic
import Derived.Deep.RegionHeld3
import Derived.Deep.RegionWith
import Derived.Handy
import Derived.Laws.EntriesVeiled
import Derived.Laws.Rows
import Derived.MapViews
import Derived.Maps.OwnSet
import Derived.Maps.RangeWalk
import Derived.Test.YtnedghhcidohnaaGreatRows
import Derived.WalkKit
import Derived.WalkLawsBesides
import Derived.WalkSmall
import Derived.WalkSpells
import Derived.Test.YtnedghhcidohnaaGreatPolyI
import Derived.Test.YtnedghhcidohnaaGreatJN1
import Derived.Test.YtnedghhcidohnaaGreatJQ1
import Derived.Laws.OwnMore

/-! Joined: PolyDD · PolyGG · PolyW. -/
namespace Go.Proofs.YtnedghhcidohnaaGreat
open Go.RowKit

/-- A term is stored into its variable. -/
def set7 (W : World) (B : Nat) (p : TP) : World := ((((((W.setCell ⟨B, 0, none⟩ (.bool p.neg)).setCell ⟨B, 1, none⟩ (.slice p.no p.nn p.nc)).setCell ⟨B, 2, none⟩ (.slice p.eo p.en p.ec)).setCell ⟨B, 3, none⟩ (.int .i64 p.a)).setCell ⟨B, 4, none⟩ (.int .i64 p.b)).setCell ⟨B, 5, none⟩ (.int .i64 p.c)).setCell ⟨B, 6, none⟩ (.int .i64 p.d)
theorem MBx.s0 {W : World} {B : Nat} {g : Bool} {no : Option Addr} {nn nc : Nat} {eo : Option Addr} {en ec : Nat} {a b c d : Int} (h : MBx W B ⟨g, no, nn, nc, eo, en, ec, a, b, c, d⟩) (x : Bool) : MBx (W.setCell ⟨B, 0, none⟩ (.bool x)) B ⟨x, no, nn, nc, eo, en, ec, a, b, c, d⟩ := set_cells h 0 (.bool x)
theorem MBx.s1 {W : World} {B : Nat} {g : Bool} {no : Option Addr} {nn nc : Nat} {eo : Option Addr} {en ec : Nat} {a b c d : Int} (h : MBx W B ⟨g, no, nn, nc, eo, en, ec, a, b, c, d⟩) (x : Option Addr) (y z : Nat) : MBx (W.setCell ⟨B, 1, none⟩ (.slice x y z)) B ⟨g, x, y, z, eo, en, ec, a, b, c, d⟩ := set_cells h 1 (.slice x y z)
theorem MBx.s2 {W : World} {B : Nat} {g : Bool} {no : Option Addr} {nn nc : Nat} {eo : Option Addr} {en ec : Nat} {a b c d : Int} (h : MBx W B ⟨g, no, nn, nc, eo, en, ec, a, b, c, d⟩) (x : Option Addr) (y z : Nat) : MBx (W.setCell ⟨B, 2, none⟩ (.slice x y z)) B ⟨g, no, nn, nc, x, y, z, a, b, c, d⟩ := set_cells h 2 (.slice x y z)
theorem MBx.s3 {W : World} {B : Nat} {g : Bool} {no : Option Addr} {nn nc : Nat} {eo : Option Addr} {en ec : Nat} {a b c d : Int} (h : MBx W B ⟨g, no, nn, nc, eo, en, ec, a, b, c, d⟩) (x : Int) : MBx (W.setCell ⟨B, 3, none⟩ (.int .i64 x)) B ⟨g, no, nn, nc, eo, en, ec, x, b, c, d⟩ := set_cells h 3 (.int .i64 x)
theorem MBx.s4 {W : World} {B : Nat} {g : Bool} {no : Option Addr} {nn nc : Nat} {eo : Option Addr} {en ec : Nat} {a b c d : Int} (h : MBx W B ⟨g, no, nn, nc, eo, en, ec, a, b, c, d⟩) (x : Int) : MBx (W.setCell ⟨B, 4, none⟩ (.int .i64 x)) B ⟨g, no, nn, nc, eo, en, ec, a, x, c, d⟩ := set_cells h 4 (.int .i64 x)
theorem MBx.s5 {W : World} {B : Nat} {g : Bool} {no : Option Addr} {nn nc : Nat} {eo : Option Addr} {en ec : Nat} {a b c d : Int} (h : MBx W B ⟨g, no, nn, nc, eo, en, ec, a, b, c, d⟩) (x : Int) : MBx (W.setCell ⟨B, 5, none⟩ (.int .i64 x)) B ⟨g, no, nn, nc, eo, en, ec, a, b, x, d⟩ := set_cells h 5 (.int .i64 x)
theorem MBx.s6 {W : World} {B : Nat} {g : Bool} {no : Option Addr} {nn nc : Nat} {eo : Option Addr} {en ec : Nat} {a b c d : Int} (h : MBx W B ⟨g, no, nn, nc, eo, en, ec, a, b, c, d⟩) (x : Int) : MBx (W.setCell ⟨B, 6, none⟩ (.int .i64 x)) B ⟨g, no, nn, nc, eo, en, ec, a, b, c, x⟩ := set_cells h 6 (.int .i64 x)
theorem MBx.set {W : World} {B : Nat} {q : TP} (h : MBx W B q) (p : TP) : MBx (set7 W B p) B p := by
  obtain ⟨g, no, nn, nc, eo, en, ec, a, b, c, d⟩ := q
  obtain ⟨g', no', nn', nc', eo', en', ec', a', b', c', d'⟩ := p
  unfold set7
  exact (((((((h.s0 g').s1 no' nn' nc').s2 eo' en' ec').s3 a').s4 b').s5 c').s6 d')
theorem set7_grown (W : World) (B : Nat) (p : TP) : W.grownBy (set7 W B p) (some B) := by
  have s1 : ∀ (V : World) (k : Nat) (y : Value), (V.setCell ⟨B, k, none⟩ y).heap.size = V.heap.size := fun V k y => by simp [World.setCell]
  have o1 : ∀ (V : World) (k : Nat) (y : Value), (V.setCell ⟨B, k, none⟩ y).os = V.os := fun V k y => rfl
  have o2 : ∀ (V : World) (k : Nat) (y : Value), (V.setCell ⟨B, k, none⟩ y).tape = V.tape := fun V k y => rfl
  have o3 : ∀ (V : World) (k : Nat) (y : Value), (V.setCell ⟨B, k, none⟩ y).output = V.output := fun V k y => rfl
  refine ⟨?_, ?_, ?_, ?_, fun k hk hne => ?_⟩
  · unfold set7
    rw [o1, o1, o1, o1, o1, o1, o1]
  · unfold set7
    rw [o2, o2, o2, o2, o2, o2, o2]
  · unfold set7
    rw [o3, o3, o3, o3, o3, o3, o3]
  · unfold set7
    rw [s1, s1, s1, s1, s1, s1, s1]
    exact Nat.le_refl _
  · have hb : k ≠ B := fun e => hne (by rw [e])
    have e1 : ∀ (V : World) (j : Nat) (y : Value), (V.setCell ⟨B, j, none⟩ y).heap[k]? = V.heap[k]? := fun V j y => Below.heap_setCell V ⟨B, j, none⟩ y k hb
    unfold set7
    rw [e1, e1, e1, e1, e1, e1, e1]
theorem MBx.clean {W : World} {B : Nat} {q : TP} (h : MBx W B q) : CleanB W 49 B := ⟨_, (0, 0), h, by
  intro u hu z
  simp at hu
  rcases hu with rfl | rfl | rfl | rfl | rfl | rfl | rfl <;> simp⟩
theorem RatAt.set7 {W : World} {B : Nat} {q : TP} {po : Option Addr} {pn pc : Nat} {qo : Option Addr} {qn qc : Nat} {r : RatL} (h : RatAt W po pn pc qo qn qc r) (hB : MBx W B q) (p : TP) : RatAt (set7 W B p) po pn pc qo qn qc r :=
  h.grown (set7_grown W B p) (fun g hg => by cases hg; exact hB.clean)
theorem below_set7 {n₀ : Nat} {a W : World} (h : Below n₀ a W) {B : Nat} (hB : n₀ ≤ B) (p : TP) : Below n₀ a (set7 W B p) := ((((((h.setCell hB _).setCell hB _).setCell hB _).setCell hB _).setCell hB _).setCell hB _).setCell hB _

theorem load_t {w : World} {B : Nat} {p : TP} (h : MBx w B p) : (loadVar 49 ⟨B, 0, none⟩).run Tryz.prog w = .ok (.agg #[.bool p.neg, .slice p.no p.nn p.nc, .slice p.eo p.en p.ec, .int .i64 p.a, .int .i64 p.b, .int .i64 p.c, .int .i64 p.d]) w :=
  run_loadVar_row w B 49 49 _ (0, 0) _ h Tryz.underlying49 rfl (by kernel_rfl)
theorem results_t1 {fn : Func} {t : Tmp} (hf : fn.results = #[.cell t 49]) (tmps : Array Value) {w : World} {B : Nat} {p : TP} (h : MBx w B p) (ht : tmps[t]?.getD undef = .pointer (some ⟨B, 0, none⟩)) :
    (results fn tmps).run Tryz.prog w = .ok (.agg #[.bool p.neg, .slice p.no p.nn p.nc, .slice p.eo p.en p.ec, .int .i64 p.a, .int .i64 p.b, .int .i64 p.c, .int .i64 p.d]) w := by
  simp only [results, hf]
  simp [asAddr, ht, load_t h]

end Go.Proofs.YtnedghhcidohnaaGreat

/-! A term stored into a row of one's own. -/
namespace Go.Proofs.YtnedghhcidohnaaGreat
open Go.RowKit

def setL (xs : List Value) (k : Nat) (p : TP) : List Value := ((((((xs.set k (.bool p.neg)).set (k + 1) (.slice p.no p.nn p.nc)).set (k + 2) (.slice p.eo p.en p.ec)).set (k + 3) (.int .i64 p.a)).set (k + 4) (.int .i64 p.b)).set (k + 5) (.int .i64 p.c)).set (k + 6) (.int .i64 p.d)

theorem setL_skip (a0 a1 a2 a3 a4 a5 a6 : Value) (xs : List Value) (k : Nat) (p : TP) : setL (a0 :: a1 :: a2 :: a3 :: a4 :: a5 :: a6 :: xs) (k + 7) p = a0 :: a1 :: a2 :: a3 :: a4 :: a5 :: a6 :: setL xs k p := by
  unfold setL
  have e : ∀ (ys : List Value) (j : Nat) (v : Value), (a0 :: a1 :: a2 :: a3 :: a4 :: a5 :: a6 :: ys).set (j + 7) v = a0 :: a1 :: a2 :: a3 :: a4 :: a5 :: a6 :: ys.set j v := fun ys j v => rfl
  rw [e xs k, show k + 7 + 1 = (k + 1) + 7 by omega, e, show k + 7 + 2 = (k + 2) + 7 by omega, e, show k + 7 + 3 = (k + 3) + 7 by omega, e, show k + 7 + 4 = (k + 4) + 7 by omega, e, show k + 7 + 5 = (k + 5) + 7 by omega, e, show k + 7 + 6 = (k + 6) + 7 by omega, e]

theorem tcells_set : ∀ (ps : List TP) (i : Nat) (p : TP), i < ps.length → tcells (ps.set i p) = setL (tcells ps) (i * 7) p
  | [], i, p, h => by simp at h
  | q :: ps, 0, p, _ => rfl
  | q :: ps, i + 1, p, h => by
    have ih := tcells_set ps i p (by simpa using h)
    show q.cs ++ tcells (ps.set i p) = setL (q.cs ++ tcells ps) ((i + 1) * 7) p
    rw [ih, show (i + 1) * 7 = i * 7 + 7 by omega]
    exact (setL_skip (.bool q.neg) (.slice q.no q.nn q.nc) (.slice q.eo q.en q.ec) (.int .i64 q.a) (.int .i64 q.b) (.int .i64 q.c) (.int .i64 q.d) (tcells ps) (i * 7) p).symm

/-- A term is stored at a place of a row. -/
def setAt (W : World) (g k : Nat) (p : TP) : World := ((((((W.setCell ⟨g, k, none⟩ (.bool p.neg)).setCell ⟨g, k + 1, none⟩ (.slice p.no p.nn p.nc)).setCell ⟨g, k + 2, none⟩ (.slice p.eo p.en p.ec)).setCell ⟨g, k + 3, none⟩ (.int .i64 p.a)).setCell ⟨g, k + 4, none⟩ (.int .i64 p.b)).setCell ⟨g, k + 5, none⟩ (.int .i64 p.c)).setCell ⟨g, k + 6, none⟩ (.int .i64 p.d)
theorem setAt_grown (W : World) (B j : Nat) (p : TP) : W.grownBy (setAt W B j p) (some B) := by
  have s1 : ∀ (V : World) (k : Nat) (y : Value), (V.setCell ⟨B, k, none⟩ y).heap.size = V.heap.size := fun V k y => by simp [World.setCell]
  have o1 : ∀ (V : World) (k : Nat) (y : Value), (V.setCell ⟨B, k, none⟩ y).os = V.os := fun V k y => rfl
  have o2 : ∀ (V : World) (k : Nat) (y : Value), (V.setCell ⟨B, k, none⟩ y).tape = V.tape := fun V k y => rfl
  have o3 : ∀ (V : World) (k : Nat) (y : Value), (V.setCell ⟨B, k, none⟩ y).output = V.output := fun V k y => rfl
  refine ⟨?_, ?_, ?_, ?_, fun k hk hne => ?_⟩
  · unfold setAt
    rw [o1, o1, o1, o1, o1, o1, o1]
  · unfold setAt
    rw [o2, o2, o2, o2, o2, o2, o2]
  · unfold setAt
    rw [o3, o3, o3, o3, o3, o3, o3]
  · unfold setAt
    rw [s1, s1, s1, s1, s1, s1, s1]
    exact Nat.le_refl _
  · have hb : k ≠ B := fun e => hne (by rw [e])
    have e1 : ∀ (V : World) (j : Nat) (y : Value), (V.setCell ⟨B, j, none⟩ y).heap[k]? = V.heap[k]? := fun V j y => Below.heap_setCell V ⟨B, j, none⟩ y k hb
    unfold setAt
    rw [e1, e1, e1, e1, e1, e1, e1]

/-- What a block holds behind a store. -/
theorem setAt_heap {W : World} {g : Nat} {cs : Array Value} {t : TypeId} (h : W.heap[g]? = some (.cells cs t (0, 0))) (k : Nat) (p : TP) : ∃ cs2 : Array Value, (setAt W g k p).heap[g]? = some (.cells cs2 t (0, 0)) ∧ cs2.toList = setL cs.toList k p := by
  have s : ∀ {V : World} {xs : Array Value} {l : List Value} (k : Nat) (v : Value), V.heap[g]? = some (.cells xs t (0, 0)) ∧ xs.toList = l → ∃ ys : Array Value, (V.setCell ⟨g, k, none⟩ v).heap[g]? = some (.cells ys t (0, 0)) ∧ ys.toList = l.set k v := by
    intro V xs l k v hv
    exact ⟨_, set_cells hv.1 k v, by rw [← hv.2]; simp⟩
  obtain ⟨_, h0⟩ := s k (.bool p.neg) ⟨h, rfl⟩
  obtain ⟨_, h1⟩ := s (k + 1) (.slice p.no p.nn p.nc) h0
  obtain ⟨_, h2⟩ := s (k + 2) (.slice p.eo p.en p.ec) h1
  obtain ⟨_, h3⟩ := s (k + 3) (.int .i64 p.a) h2
  obtain ⟨_, h4⟩ := s (k + 4) (.int .i64 p.b) h3
  obtain ⟨_, h5⟩ := s (k + 5) (.int .i64 p.c) h4
  obtain ⟨c, h6⟩ := s (k + 6) (.int .i64 p.d) h5
  exact ⟨c, h6⟩

theorem setL_take (xs : List Value) (k n : Nat) (p : TP) : (setL xs k p).take n = setL (xs.take n) k p := by
  unfold setL
  simp only [List.take_set]
theorem setL_mem {xs : List Value} {k : Nat} {p : TP} {u : Value} (h : u ∈ setL xs k p) : u ∈ xs ∨ u ∈ p.cs := by
  unfold setL at h
  rcases List.mem_or_eq_of_mem_set h with h | rfl
  · rcases List.mem_or_eq_of_mem_set h with h | rfl
    · rcases List.mem_or_eq_of_mem_set h with h | rfl
      · rcases List.mem_or_eq_of_mem_set h with h | rfl
        · rcases List.mem_or_eq_of_mem_set h with h | rfl
          · rcases List.mem_or_eq_of_mem_set h with h | rfl
            · rcases List.mem_or_eq_of_mem_set h with h | rfl
              · exact .inl h
              · right; simp [TP.cs]
            · right; simp [TP.cs]
          · right; simp [TP.cs]
        · right; simp [TP.cs]
      · right; simp [TP.cs]
    · right; simp [TP.cs]
  · right; simp [TP.cs]
theorem setL_length (xs : List Value) (k : Nat) (p : TP) : (setL xs k p).length = xs.length := by
  unfold setL
  simp only [List.length_set]

set_option maxHeartbeats 1000000 in
theorem TermsOwn.set {w : World} {base g n cap : Nat} {ps : List TP} {ls : List TL} (h : TermsOwn w base (.slice (some ⟨g, 0, none⟩) n cap) ps ls) {i : Nat} {p : TP} {t : TL} (hi : i < ps.length) (ht : TermAt w p t) :
    TermsOwn (setAt w g (i * 7) p) base (.slice (some ⟨g, 0, none⟩) n cap) (ps.set i p) (ls.set i t) := by
  have hgr := setAt_grown w g (i * 7) p
  have hcl : ∀ k, some g = some k → CleanB w 49 k := fun k hk => by cases hk; exact h.own.clean g rfl
  rcases h.own.row.2 with ⟨e, _⟩ | ⟨g', cap', cur, e, hbase, hb, h1, h2, h3, h4⟩
  · cases e
  · simp only [Value.slice.injEq, Option.some.injEq, Addr.mk.injEq, and_true] at e
    obtain ⟨e0, e3, e2⟩ := e
    subst e0 e2
    obtain ⟨cur2, hb2, hc2⟩ := setAt_heap hb (i * 7) p
    have hclean : ∀ u ∈ cur.toList, Clean u := by
      obtain ⟨cur3, fz, hb3, hc⟩ := h.own.clean g rfl
      rw [hb] at hb3
      injection hb3 with e
      injection e with e
      subst e
      exact hc
    have hlen : (ps.set i p).length = ps.length := by simp
    have z1 : cur2.size = cap * 7 := by rw [← h3, ← Array.length_toList, hc2, setL_length, Array.length_toList]
    have z2 : cur2.toList.take ((ps.set i p).length * 7) = tcells (ps.set i p) := by rw [hc2, setL_take, hlen, h4, tcells_set ps i p hi]
    have z3 : (tcells (ps.set i p)).length = (ps.set i p).length * 7 := tcells_length _
    have z4 : (ps.set i p).length ≤ cap := by rw [hlen]; exact h1
    have z5 : Value.slice (some ⟨g, 0, none⟩) n cap = .slice (some ⟨g, 0, none⟩) (ps.set i p).length cap := by rw [hlen, ← e3]
    have z6 : (ps.set i p).length = (ls.set i t).length := by simp [h.len]
    generalize setAt w g (i * 7) p = W' at hgr hb2
    have hrow : W'.ownsRow base 49 7 (.slice (some ⟨g, 0, none⟩) n cap) (ps.set i p).length (tcells (ps.set i p)) := ⟨z3, .inr ⟨g, cap, cur2, z5, hbase, hb2, z4, h2, z1, z2⟩⟩
    refine ⟨⟨hrow, fun k hk => ?_⟩, z6, fun j q s hq hs => ?_⟩
    · cases hk
      refine ⟨cur2, (0, 0), hb2, fun u hu => ?_⟩
      rw [hc2] at hu
      rcases setL_mem hu with hu | hu
      · exact hclean u hu
      · exact p.cs_clean u hu
    · by_cases hj : j = i
      · subst hj
        rw [List.getElem?_set_self hi] at hq
        rw [List.getElem?_set_self (by rw [← h.len]; exact hi)] at hs
        cases hq
        cases hs
        exact ht.grown hgr hcl
      · rw [List.getElem?_set_ne (Ne.symm hj)] at hq hs
        exact (h.each j q s hq hs).grown hgr hcl
end Go.Proofs.YtnedghhcidohnaaGreat

/-! The reference's Make. -/
namespace Go.Proofs.YtnedghhcidohnaaGreat
open Go.RowKit

/-- A step of the reference's list. -/
theorem Ins.acc {o : Int} {t : TL} {us out : List TL} {k : Int} {f : Mo → Option RatL} (h : Ins o t us out k) (ho : Ord o) (ht : MayT t) (hu : ∀ s ∈ us, MayT s) (hf : Has o us f) :
    (k ≠ 0 → ∀ l g, Acc (t :: l) f g k) ∧ (k = 0 → ∃ f', Has o out f' ∧ (∀ l g j, Acc l f' g j → Acc (t :: l) f g j) ∧ ∀ s ∈ out, MayT s) := by
  obtain ⟨h1, h2, h3⟩ := Ins.ok ho ht hu hf h
  cases e : f t.m with
  | none =>
    obtain ⟨a, b⟩ := h1 e
    exact ⟨fun hk => absurd a hk, fun hk => ⟨_, b, fun l g j hj => Acc.step0 e hj, h3 hk⟩⟩
  | some r =>
    obtain ⟨x, j, a, b, c⟩ := h2 r e
    by_cases hj : j = 0
    · subst hj
      exact ⟨fun hk => absurd (c rfl).1 hk, fun hk => ⟨_, (c rfl).2, fun l g i hi => Acc.step1 e a hi, h3 hk⟩⟩
    · have := b hj
      subst this
      exact ⟨fun hk l g => Acc.stop e a hk, fun hk => absurd hk hj⟩

def nz (t : TL) : Bool := decide (t.c.top ≠ 0)
theorem Has.tog {o : Int} {ls us out : List TL} {k : Int} {f : Mo → Option RatL} (h : Has o us f) (ha : Acc ls (fun _ => none) f 0) (h1 : 60 < (us.filter nz).length → out = [] ∧ k = 90) (h2 : (us.filter nz).length ≤ 60 → out = us.filter nz ∧ k = 0) : TogIs o ls out k := by
  refine ⟨f, 0, ha, fun e => absurd rfl e, fun _ => ⟨us.filter nz, h.falls.sublist List.filter_sublist, fun t => ?_, h1, h2⟩⟩
  rw [List.mem_filter, h.mem]
  simp [nz]

theorem PolyAt.made' (w : World) : PolyAt (w.alloc (.cells #[] 49)) (some ⟨w.heap.size, 0, none⟩) 0 0 [] [] := by
  obtain ⟨lo, cap, e, h, _⟩ := (TermsOwn.made w w.heap.size (Nat.le_refl _)).poly
  injection e with e1 e2 e3
  subst e1 e3
  exact h

/-- The reference's list so far. -/
structure RMk (o : Int) (w wr : World) (po : Option Addr) (pn pc : Nat) (vs : List TP) (us : List TL) (ls : List TL) (j : Nat) : Prop where
  bel : Below w.heap.size w wr
  at' : PolyAt wr po pn pc vs us
  len : pn ≤ j
  may : ∀ s ∈ us, MayT s
  has : ∃ f, Has o us f ∧ ∀ g k, Acc (ls.drop j) f g k → Acc ls (fun _ => none) g k

theorem RMk.step {o : Int} {w wr w' : World} {po ro : Option Addr} {pn pc rn rc : Nat} {vs qs : List TP} {us out ls : List TL} {j : Nat} {t : TL} (h : RMk o w wr po pn pc vs us ls j) (ht : ls[j]? = some t) (hm : MayT t) (ho : Ord o) (hi : Ins o t us out 0) (hp : PolyAt w' ro rn rc qs out) (hn : rn ≤ pn + 1) (hb : Below wr.heap.size wr w') :
    RMk o w w' ro rn rc qs out ls (j + 1) := by
  obtain ⟨f, h1, h2⟩ := h.has
  obtain ⟨f', g1, g2, g3⟩ := (hi.acc ho hm h.may h1).2 rfl
  exact ⟨chain h.bel hb, hp, by have := h.len; omega, g3, f', g1, fun g k ha => h2 g k (by rw [drop_at2 ls j t ht]; exact g2 _ _ _ ha)⟩
theorem RMk.stop {o : Int} {w wr : World} {po : Option Addr} {pn pc : Nat} {vs : List TP} {us out ls : List TL} {j : Nat} {t : TL} {k : Int} (h : RMk o w wr po pn pc vs us ls j) (ht : ls[j]? = some t) (hm : MayT t) (ho : Ord o) (hi : Ins o t us out k) (hk : k ≠ 0) : TogIs o ls [] k := by
  obtain ⟨f, h1, h2⟩ := h.has
  have := (hi.acc ho hm h.may h1).1 hk (ls.drop (j + 1)) f
  exact ⟨f, k, h2 f k (by rw [drop_at2 ls j t ht]; exact this), fun _ => ⟨rfl, rfl⟩, fun e => absurd e hk⟩

/-- What is not 0, so far. -/
structure RNz (w wr : World) (v : Value) (qs : List TP) (ms us : List TL) (j : Nat) : Prop where
  bel : Below w.heap.size w wr
  own : TermsOwn wr w.heap.size v qs ms
  ms : ms = (us.take j).filter nz

theorem RNz.len {w wr : World} {v : Value} {qs : List TP} {ms us : List TL} {j : Nat} (h : RNz w wr v qs ms us j) : qs.length ≤ j := by
  rw [h.own.len, h.ms]
  exact Nat.le_trans (List.length_filter_le _ _) (by rw [List.length_take]; exact Nat.min_le_left _ _)
theorem RNz.skip {w wr w' : World} {v : Value} {qs : List TP} {ms us : List TL} {j : Nat} {t : TL} (h : RNz w wr v qs ms us j) (ht : us[j]? = some t) (hz : t.c.top = 0) (hb : Below wr.heap.size wr w') : RNz w w' v qs ms us (j + 1) :=
  ⟨chain h.bel hb, h.own.below hb, by rw [h.ms, List.take_add_one, ht]; simp [nz, hz]⟩
theorem RNz.put {w wr wx w' : World} {v v' : Value} {qs : List TP} {ms us : List TL} {j : Nat} {t : TL} {p : TP} (h : RNz w wr v qs ms us j) (ht : us[j]? = some t) (hz : t.c.top ≠ 0) (hb : Below wr.heap.size wr wx) (hp : TermAt wx p t) (ho : OwnS w' w.heap.size 49 7 v' (qs.length + 1) (tcells qs ++ p.cs)) (hg : wx.grownBy w' v.ownBlock) :
    RNz w w' v' (qs ++ [p]) (ms ++ [t]) us (j + 1) := by
  have hx := h.own.below hb
  exact ⟨(chain h.bel hb).grown hg (chain h.bel hb).size (fun k hk => (hx.own.row.lt k hk).1), hx.put1 hp rfl ho hg, by rw [h.ms, List.take_add_one, ht, List.filter_append]; simp [nz, hz]⟩
theorem RNz.start {w : World} {us : List TL} : RNz w (w.alloc (.cells #[] 49)) (.slice (some ⟨w.heap.size, 0, none⟩) 0 0) [] [] us 0 := ⟨bel1 _ _, TermsOwn.made w _ (Nat.le_refl _), by simp⟩

set_option maxRecDepth 100000 in
set_option maxHeartbeats 4000000 in
theorem rmake_b (o : Int) (lo : Option Addr) (n cap : Nat) (ps : List TP) (ls : List TL) (w : World) (h : PolyAt w lo n cap ps ls) (hn : n ≤ 90000) :
    Calls Tryz.prog 43 #[.int .i64 o, .slice lo n cap] w fun e w' => ∃ lo' n' cap' qs ms k, e = .returned (.tuple #[.slice lo' n' cap', .int .i64 k]) ∧ PolyAt w' lo' n' cap' qs ms ∧ MakeIs o ls ms k ∧ Below w.heap.size w w' := by
  obtain ⟨i0, hi0, hz0, hz1, hz2⟩ := info_parts info39
  have hN := h.most'
  have H : Hid (PolyAt w lo n cap ps ls ∧ n ≤ 90000) := ⟨h, hn⟩
  have hNN : (n : Int) ≤ 90000 := by omega
  clear h hn
  go_enter Tryz.func43, Tryz.ntmps43
  go_wp2_with fail
  by_cases ho : Ord o
  · have HO : Hid (Ord o) := ho
    refine (ordered_b o true _ (yes_iff ho)).mono ?_
    rintro e w1 ⟨rfl, b1⟩
    have H1 : Hid (Below w.heap.size w w1) := b1
    clear b1 ho
    go_wp2_with fail
    go_loopg [6] n (fun m i wr => ∃ j : Nat, j ≤ n ∧ n - j ≤ m ∧ i = .int .i64 j ∧ Hid (Below w.heap.size w wr ∧ ∀ i t, i < j → ls[i]? = some t → MayT t))
    case atStart => exact ⟨0, Nat.zero_le _, by omega, rfl, H1.out, fun i t h => absurd h (by omega)⟩
    case round =>
      obtain ⟨j, hj, hjr, rfl, hO⟩ := hrel
      by_cases h0 : j < n
      · obtain ⟨bk, off, p, t, rfl, hpj, htj, hat, hel, hblt⟩ := (H.out.1.below hO.out.1).elem h0
        have hjn : (j : Int) < (n : Int) := by omega
        have hj0 : (0 : Int) ≤ (j : Int) := by omega
        obtain ⟨neg, no, nn, nc, eo, en, ec, pa, pb, pc, pd⟩ := p
        have HJ : Hid (j < n ∧ n - j ≤ _ ∧ ls[j]? = some t ∧ TermAt wr ⟨neg, no, nn, nc, eo, en, ec, pa, pb, pc, pd⟩ t) := ⟨h0, hjr, htj, hat⟩
        have HE : Hid (ElemAt wr bk (off + j * 7) ⟨neg, no, nn, nc, eo, en, ec, pa, pb, pc, pd⟩ ∧ bk < wr.heap.size) := ⟨hel, hblt⟩
        obtain ⟨e0, e1, e2, _, _, _, _⟩ := hel
        dsimp only at e0 e1 e2
        clear hat htj hpj hj hjr h0 hblt
        by_cases hr : MayR t.c
        · have HR : Hid (MayR t.c) := hr
          clear hr
          go_wp2_with fail
          refine (rrmay_r _ _ _ _ _ _ _ t.c _ HJ.out.2.2.2.rat HJ.out.2.2.2.neg true (yes_iff HR.out)).mono ?_
          rintro e w3 ⟨rfl, b3⟩
          obtain ⟨_, _, _, e3, e4, e5, e6⟩ := HE.out.1.below HE.out.2 b3
          have e4' : w3.cell? ⟨bk, off + j * 7 + 3 + 1, none⟩ = some (.int .i64 pb) := e4
          have e5' : w3.cell? ⟨bk, off + j * 7 + 3 + 2, none⟩ = some (.int .i64 pc) := e5
          have e6' : w3.cell? ⟨bk, off + j * 7 + 3 + 3, none⟩ = some (.int .i64 pd) := e6
          dsimp only at e3
          have H3 : Hid (Below w.heap.size w w3) := chain hO.out.1 b3
          clear b3 e4 e5 e6
          by_cases hm : Mn.May4 pa pb pc pd
          · have HM : Hid (Mn.May4 pa pb pc pd) := hm
            clear hm
            go_wp2_with fail
            refine (Mn.rmay_yes _ _ _ _ _ HM.out).mono ?_
            rintro e w4 ⟨rfl, b4⟩
            have B4 : Hid (Below w.heap.size w w4) := chain H3.out b4
            clear b4 e0 e1 e2 e3 e4' e5' e6'
            go_wp2_with fail
            go_roundg (n - (j + 1))
            case measure => have := HJ.out.1; have := HJ.out.2.1; omega
            case rel =>
              refine ⟨j + 1, by have := HJ.out.1; omega, Nat.le_refl _, by go_num, B4.out, fun i s hi hs => ?_⟩
              by_cases hij : i = j
              · subst hij
                have := HJ.out.2.2.1.symm.trans hs
                injection this with this
                rw [← this]
                exact ⟨HR.out, HJ.out.2.2.2.may4.2 HM.out⟩
              · exact hO.out.2 i s (by omega) hs
          · have HM : Hid (¬ Mn.May4 pa pb pc pd) := hm
            clear hm
            go_wp2_with fail
            refine (Mn.rmay_no _ _ _ _ _ HM.out).mono ?_
            rintro e w4 ⟨rfl, b4⟩
            have B4 : Hid (Below w.heap.size w w4) := chain H3.out b4
            clear b4 e0 e1 e2 e3 e4' e5' e6'
            go_wp2_with fail
            go_ret2
            exact ⟨none, 0, 0, [], [], 1, rfl, PolyAt.nil _, ⟨fun _ => ⟨rfl, rfl⟩, fun h => absurd (HJ.out.2.2.2.may4.1 (h.2 t (List.mem_of_getElem? HJ.out.2.2.1)).m) HM.out⟩, B4.out⟩
        · have HR : Hid (¬ MayR t.c) := hr
          clear hr
          go_wp2_with fail
          refine (rrmay_r _ _ _ _ _ _ _ t.c _ HJ.out.2.2.2.rat HJ.out.2.2.2.neg false (no_iff HR.out)).mono ?_
          rintro e w4 ⟨rfl, b4⟩
          have B4 : Hid (Below w.heap.size w w4) := chain hO.out.1 b4
          clear b4 e0 e1 e2
          go_wp2_with fail
          go_ret2
          exact ⟨none, 0, 0, [], [], 1, rfl, PolyAt.nil _, ⟨fun _ => ⟨rfl, rfl⟩, fun h => absurd (h.2 t (List.mem_of_getElem? HJ.out.2.2.1)).c HR.out⟩, B4.out⟩
      · have hjn : j = n := by omega
        subst hjn
        have HM : Hid (∀ t ∈ ls, MayT t) := fun t ht => by
          obtain ⟨i, hi⟩ := List.mem_iff_getElem?.1 ht
          refine hO.out.2 i t ?_ hi
          have := (List.getElem?_eq_some_iff.1 hi).1
          rw [← H.out.1.len]
          exact this
        have HB : Hid (Below w.heap.size w wr) := hO.out.1
        clear hj hjr h0 hO
        go_wp2_with fail
        go_loopg [7, 8] j (fun m vp i wx => ∃ (q : Nat) (po : Option Addr) (pn pc : Nat) (vs : List TP) (us : List TL), q ≤ j ∧ j - q ≤ m ∧ i = .int .i64 q ∧ vp = .slice po pn pc ∧ Hid (RMk o w wx po pn pc vs us ls q))
        case atStart => exact ⟨0, _, 0, 0, [], [], Nat.zero_le _, by omega, rfl, rfl, chain HB.out (bel1 _ _), PolyAt.made' _, Nat.zero_le _, (fun s hs => by simp at hs), _, has_nil o, fun g k h => h⟩
        case round =>
          obtain ⟨q, po, pn, pc, vs, us, hq, hqr, rfl, rfl, hR⟩ := hrel
          by_cases h0 : q < j
          · obtain ⟨bk, off, p, t, rfl, hpj, htj, hat, hel, hblt⟩ := (H.out.1.below hR.out.bel).elem h0
            have hqj : (q : Int) < (j : Int) := by omega
            have hq0 : (0 : Int) ≤ (q : Int) := by omega
            obtain ⟨neg, no, nn, nc, eo, en, ec, pa, pb, pc', pd⟩ := p
            obtain ⟨e0, e1, e2, e3, e4, e5, e6⟩ := hel
            dsimp only at e0 e1 e2 e3 e4 e5 e6
            have HJ : Hid (q < j ∧ j - q ≤ _ ∧ ls[q]? = some t ∧ TermAt _ ⟨neg, no, nn, nc, eo, en, ec, pa, pb, pc', pd⟩ t) := ⟨h0, hqr, htj, hat⟩
            have HT : Hid (MayT t) := HM.out t (List.mem_of_getElem? htj)
            have HP : Hid (Falls o us ∧ pn ≤ 100000) := by
              obtain ⟨_, hf1, _⟩ := hR.out.has
              exact ⟨hf1.falls, by have := hR.out.len; have := H.out.2; omega⟩
            clear hat htj hpj hq hqr h0 hblt
            go_wp2_with fail
            refine (put_r o _ _ _ _ _ _ _ _ hR.out.at' HJ.out.2.2.2 HP.out.2 HO.out hR.out.may HT.out HP.out.1).mono ?_
            rintro e w4 ⟨ro, rn, rc, k, qs, out, rfl, q1, q2, q3, q4⟩
            have H4 : Hid ((k ≠ 0 → ro = none ∧ rn = 0 ∧ rc = 0) ∧ (k = 0 → PolyAt w4 ro rn rc qs out ∧ rn ≤ pn + 1) ∧ Ins o t us out k ∧ Below _ _ w4) := ⟨q1, q2, q3, q4⟩
            clear q1 q2 q3 q4 e0 e1 e2 e3 e4 e5 e6
            by_cases hk : k = 0
            · subst hk
              have H5 := hR.out.step HJ.out.2.2.1 HT.out HO.out H4.out.2.2.1 (H4.out.2.1 rfl).1 (H4.out.2.1 rfl).2 H4.out.2.2.2
              have H6 : Hid (RMk o w w4 ro rn rc qs out ls (q + 1)) := H5
              clear H5
              go_wp2_with fail
              go_roundg (j - (q + 1))
              case measure => have := HJ.out.1; have := HJ.out.2.1; omega
              case rel => exact ⟨q + 1, _, _, _, _, _, by have := HJ.out.1; omega, Nat.le_refl _, by go_num, rfl, H6.out⟩
            · have HK : Hid (k ≠ 0) := hk
              go_wp2_with fail
              go_ret2
              exact ⟨none, 0, 0, [], [], k, rfl, PolyAt.nil _, ⟨fun h => absurd ⟨HO.out, HM.out⟩ h, fun _ => hR.out.stop HJ.out.2.2.1 HT.out HO.out H4.out.2.2.1 HK.out⟩, chain hR.out.bel H4.out.2.2.2⟩
          · have hqj : q = j := by omega
            subst hqj
            clear hq hqr h0
            obtain ⟨f, hf1, hf2⟩ := hR.out.has
            have HF : Hid (Has o us f ∧ Acc ls (fun _ => none) f 0) := ⟨hf1, hf2 f 0 (by rw [List.drop_of_length_le (by rw [H.out.1.len]; exact Nat.le_refl _)]; exact ⟨rfl, rfl⟩)⟩
            have hpN := hR.out.at'.most'
            clear hf1 hf2
            go_wp2_with fail
            go_loopg [11, 12] pn (fun m vo i wx => ∃ (j : Nat) (qs : List TP) (ms : List TL), j ≤ pn ∧ pn - j ≤ m ∧ i = .int .i64 j ∧ Hid (RNz wr wx vo qs ms us j))
            case atStart => exact ⟨0, [], [], Nat.zero_le _, by omega, rfl, RNz.start⟩
            case round =>
              obtain ⟨j, qs, ms, hj, hjr, rfl, hZ⟩ := hrel
              by_cases h0 : j < pn
              · obtain ⟨bk, off, p, t, rfl, hpj, htj, hat, hel, hblt⟩ := (hR.out.at'.below hZ.out.bel).elem h0
                have hjn : (j : Int) < (pn : Int) := by omega
                have hj0 : (0 : Int) ≤ (j : Int) := by omega
                obtain ⟨neg, no, nn, nc, eo, en, ec, pa, pb, pc', pd⟩ := p
                have HE : Hid (ElemAt _ bk (off + j * 7) ⟨neg, no, nn, nc, eo, en, ec, pa, pb, pc', pd⟩ ∧ bk < _) := ⟨hel, hblt⟩
                have HJ : Hid (j < pn ∧ pn - j ≤ _ ∧ us[j]? = some t ∧ TermAt _ ⟨neg, no, nn, nc, eo, en, ec, pa, pb, pc', pd⟩ t) := ⟨h0, hjr, htj, hat⟩
                have HT : Hid (MayT t) := hR.out.may t (List.mem_of_getElem? htj)
                obtain ⟨e0, e1, e2, _, _, _, _⟩ := hel
                dsimp only at e0 e1 e2
                clear hat htj hpj hj hjr h0 hblt
                by_cases hz : t.c.top = 0
                · go_wp2_with fail
                  refine (rzeroR_b _ _ _ _ _ _ _ t.c _ HJ.out.2.2.2.rat HT.out.c true (yes_iff hz)).mono ?_
                  rintro e w4 ⟨rfl, b4⟩
                  have H4 : Hid (RNz _ w4 _ qs ms us (j + 1)) := hZ.out.skip HJ.out.2.2.1 hz b4
                  clear b4 e0 e1 e2
                  go_wp2_with fail
                  go_roundg (pn - (j + 1))
                  case measure => have := HJ.out.1; have := HJ.out.2.1; omega
                  case rel => exact ⟨j + 1, _, _, by have := HJ.out.1; omega, Nat.le_refl _, by go_num, H4.out⟩
                · have HZ : Hid (t.c.top ≠ 0) := hz
                  clear hz
                  obtain ⟨lo2, cap2, rfl, _⟩ := hZ.out.own.poly
                  go_wp2_with fail
                  refine (rzeroR_b _ _ _ _ _ _ _ t.c _ HJ.out.2.2.2.rat HT.out.c false (no_iff HZ.out)).mono ?_
                  rintro e w4 ⟨rfl, b4⟩
                  obtain ⟨f0, f1, f2, f3, f4, f5, f6⟩ := HE.out.1.below HE.out.2 b4
                  dsimp only at f0 f1 f2 f3 f4 f5 f6
                  have b5 := chain b4 (bel1 w4 (.cells #[.bool neg, .slice no nn nc, .slice eo en ec, .int .i64 pa, .int .i64 pb, .int .i64 pc', .int .i64 pd] 49))
                  have H3 : Hid (TermsOwn (w4.alloc (.cells #[.bool neg, .slice no nn nc, .slice eo en ec, .int .i64 pa, .int .i64 pb, .int .i64 pc', .int .i64 pd] 49)) _ (.slice lo2 qs.length cap2) qs ms ∧ Below _ _ (w4.alloc (.cells #[.bool neg, .slice no nn nc, .slice eo en ec, .int .i64 pa, .int .i64 pb, .int .i64 pc', .int .i64 pd] 49)) ∧ TermAt (w4.alloc (.cells #[.bool neg, .slice no nn nc, .slice eo en ec, .int .i64 pa, .int .i64 pb, .int .i64 pc', .int .i64 pd] 49)) ⟨neg, no, nn, nc, eo, en, ec, pa, pb, pc', pd⟩ t) :=
                    ⟨hZ.out.own.below b5, b5, HJ.out.2.2.2.below b5⟩
                  have HK : Hid (qs.length + 1 ≤ 1000000 ∧ _ ≤ (w4.alloc (.cells #[.bool neg, .slice no nn nc, .slice eo en ec, .int .i64 pa, .int .i64 pb, .int .i64 pc', .int .i64 pd] 49)).heap.size) :=
                    ⟨by have := hZ.out.len; have := HJ.out.1; have := hR.out.len; have := H.out.2; omega, Nat.le_trans hZ.out.bel.size b5.size⟩
                  clear b4 b5 e0 e1 e2
                  go_wp2_with (at_builtin; refine wpList_append_put _ rfl _ _ _ rfl _ 49 i0 _ 7 88 Tryz.underlying23 hi0 hz0 hz1 hz2 rfl (by omega) zero39 _ qs.length (tcells qs) rfl H3.out.1.own ⟨w4.heap.size, 0, none⟩ 1 1 (TP.cs (⟨neg, no, nn, nc, eo, en, ec, pa, pb, pc', pd⟩ : TP)) rfl rfl (World.news_of_block (heap_alloc_new w4 _)) (TP.cs_one (⟨neg, no, nn, nc, eo, en, ec, pa, pb, pc', pd⟩ : TP)) (TP.cs_clean (⟨neg, no, nn, nc, eo, en, ec, pa, pb, pc', pd⟩ : TP)) (by omega) (by have := HK.out.1; unfold maxLen; omega) (by have := HK.out.1; omega) HK.out.2 ?_)
                  intro g4 c4 w5 o4 k4
                  have H4 : Hid (RNz _ w5 (.slice (some ⟨g4, 0, none⟩) (qs.length + 1) c4) (qs ++ [(⟨neg, no, nn, nc, eo, en, ec, pa, pb, pc', pd⟩ : TP)]) (ms ++ [t]) us (j + 1)) := hZ.out.put HJ.out.2.2.1 HZ.out H3.out.2.1 H3.out.2.2 o4 k4
                  clear o4 k4 f0 f1 f2 f3 f4 f5 f6
                  go_wp2_with fail
                  go_roundg (pn - (j + 1))
                  case measure => have := HJ.out.1; have := HJ.out.2.1; omega
                  case rel => exact ⟨j + 1, _, _, by have := HJ.out.1; omega, Nat.le_refl _, by go_num, H4.out⟩
              · have hjn : j = pn := by omega
                subst hjn
                clear hj hjr h0
                obtain ⟨lo2, cap2, rfl, hpa⟩ := hZ.out.own.poly
                have hms : ms = us.filter nz := by rw [hZ.out.ms, List.take_of_length_le (by rw [hR.out.at'.len]; exact Nat.le_refl _)]
                have HQ : Hid (PolyAt _ lo2 qs.length cap2 qs ms ∧ ms = us.filter nz ∧ qs.length = ms.length ∧ Below w.heap.size w _) := ⟨hpa.1, hms, hZ.out.own.len, chain hR.out.bel hZ.out.bel⟩
                clear hms hpa
                by_cases h60 : qs.length ≤ 60
                · have h6 : (qs.length : Int) ≤ 60 := by omega
                  go_wp2_with fail
                  go_ret2
                  exact ⟨_, _, _, qs, ms, 0, rfl, HQ.out.1, ⟨fun h => absurd ⟨HO.out, HM.out⟩ h, fun _ => HF.out.1.tog HF.out.2 (fun e => by rw [← HQ.out.2.1, ← HQ.out.2.2.1] at e; omega) (fun _ => ⟨HQ.out.2.1, rfl⟩)⟩, HQ.out.2.2.2⟩
                · have h6 : ¬ (qs.length : Int) ≤ 60 := by omega
                  go_wp2_with fail
                  go_ret2
                  exact ⟨none, 0, 0, [], [], 90, rfl, PolyAt.nil _, ⟨fun h => absurd ⟨HO.out, HM.out⟩ h, fun _ => HF.out.1.tog HF.out.2 (fun _ => ⟨rfl, rfl⟩) (fun e => by rw [← HQ.out.2.1, ← HQ.out.2.2.1] at e; omega)⟩, HQ.out.2.2.2⟩
  · have HO : Hid (¬ Ord o) := ho
    refine (ordered_b o false _ (no_iff ho)).mono ?_
    rintro e w1 ⟨rfl, b1⟩
    have H1 : Hid (Below w.heap.size w w1) := b1
    clear b1 ho
    go_wp2_with fail
    go_ret2
    exact ⟨none, 0, 0, [], [], 1, rfl, PolyAt.nil _, ⟨fun _ => ⟨rfl, rfl⟩, fun h => absurd h.1 HO.out⟩, H1.out⟩
end Go.Proofs.YtnedghhcidohnaaGreat

/-! Joined: PolyHH · PolyII. -/
namespace Go.Proofs.YtnedghhcidohnaaGreat
open Go.RowKit

def zp : TP := ⟨false, none, 0, 0, none, 0, 0, 0, 0, 0, 0⟩
def zt : TL := ⟨rat0, ⟨0, 0, 0, 0⟩⟩
theorem zp_at (w : World) : TermAt w zp zt := by
  refine ⟨⟨?_, ?_⟩, rfl, rfl⟩
  · exact ⟨rfl, (fun x hx => by cases hx), Nat.le_refl _, Nat.zero_le _, fun _ => rfl, fun h => absurd rfl h⟩
  · exact ⟨rfl, (fun x hx => by cases hx), Nat.le_refl _, Nat.zero_le _, fun _ => rfl, fun h => absurd rfl h⟩

theorem made_terms (n : Nat) : (madeCells (Value.agg #[.bool false, .slice none 0 0, .slice none 0 0, .int .i64 0, .int .i64 0, .int .i64 0, .int .i64 0]).cells (n * 7)).toList = tcells (List.replicate n zp) := by
  apply List.ext_getElem?
  intro k
  by_cases hk : k < n * 7
  · have hi : k / 7 < n := by omega
    have hm : k % 7 < 7 := by omega
    have h2 := tcells_at (List.replicate n zp) (k / 7) (k % 7) zp (zp.cs[k % 7]'hm) (by simp [hi]) (List.getElem?_eq_getElem hm)
    rw [show k / 7 * 7 + k % 7 = k by omega] at h2
    rw [h2]
    have e : (Value.agg #[.bool false, .slice none 0 0, .slice none 0 0, .int .i64 0, .int .i64 0, .int .i64 0, .int .i64 0]).cells = zp.cs.toArray := rfl
    rw [e]
    have hs : zp.cs.toArray.size = 7 := rfl
    simp only [madeCells, hs, Array.getElem?_toList, Array.getElem?_map, Array.getElem?_range, hk, if_true, Option.map_some]
    congr 1
    rw [getElem!_pos zp.cs.toArray (k % 7) (by rw [hs]; exact hm)]
    rfl
  · rw [List.getElem?_eq_none (by rw [Array.length_toList, size_madeCells]; omega), List.getElem?_eq_none (by rw [tcells_length, List.length_replicate]; omega)]

theorem terms_zero (w : World) (n : Nat) (hn : n ≤ maxLen) : TermsOwn (w.alloc (.cells (madeCells (Value.agg #[.bool false, .slice none 0 0, .slice none 0 0, .int .i64 0, .int .i64 0, .int .i64 0, .int .i64 0]).cells (n * 7)) 49)) w.heap.size (.slice (some ⟨w.heap.size, 0, none⟩) n n) (List.replicate n zp) (List.replicate n zt) := by
  have h1 := World.ownsRow_lit (e := 49) (size := 7) w (madeCells (Value.agg #[.bool false, .slice none 0 0, .slice none 0 0, .int .i64 0, .int .i64 0, .int .i64 0, .int .i64 0]).cells (n * 7)) n (Nat.le_refl w.heap.size) hn (size_madeCells _ _)
  have hc := made_terms n
  rw [hc] at h1
  generalize madeCells (Value.agg #[.bool false, .slice none 0 0, .slice none 0 0, .int .i64 0, .int .i64 0, .int .i64 0, .int .i64 0]).cells (n * 7) = cs at h1 hc
  refine ⟨⟨by rw [List.length_replicate]; exact h1, fun g hg => ?_⟩, by simp, fun i p t hp ht => ?_⟩
  · cases hg
    exact ⟨cs, (0, 0), heap_alloc_new w _, by rw [hc]; exact tcells_clean _⟩
  · have e1 := (List.mem_replicate.1 (List.mem_of_getElem? hp)).2
    have e2 := (List.mem_replicate.1 (List.mem_of_getElem? ht)).2
    rw [e1, e2]
    exact zp_at _

/-- One step of Times. -/
theorem TimesL.step {t x : TL} {c : RatL} {m : Mo} {p rest : List TL} {k : Int} (h1 : MulOut x.c t.c c 0) (h2 : MulM x.m t.m m 0) (h3 : TimesL t p rest k) : TimesL t (x :: p) (if k = 0 then ⟨c, m⟩ :: rest else []) k :=
  ⟨c, 0, h1, fun e => absurd rfl e, fun _ => ⟨m, 0, h2, fun e => absurd rfl e, fun _ => ⟨rest, h3, fun e => by rw [if_neg e], fun e => by rw [if_pos e]⟩⟩⟩
theorem TimesL.stopR {t x : TL} {c : RatL} {p : List TL} {k : Int} (h1 : MulOut x.c t.c c k) (hk : k ≠ 0) : TimesL t (x :: p) [] k :=
  ⟨c, k, h1, fun _ => ⟨rfl, rfl⟩, fun e => absurd e hk⟩
theorem TimesL.stopM {t x : TL} {c : RatL} {m : Mo} {p : List TL} {k : Int} (h1 : MulOut x.c t.c c 0) (h2 : MulM x.m t.m m k) (hk : k ≠ 0) : TimesL t (x :: p) [] k :=
  ⟨c, 0, h1, fun e => absurd rfl e, fun _ => ⟨m, k, h2, fun _ => ⟨rfl, rfl⟩, fun e => absurd e hk⟩⟩
end Go.Proofs.YtnedghhcidohnaaGreat

/-! times: the program's. -/
namespace Go.Proofs.YtnedghhcidohnaaGreat
open Go.RowKit

/-- The products so far. -/
structure TmSt (w1 wr : World) (n : Nat) (t : TL) (ls : List TL) (j : Nat) (qs : List TP) (ms : List TL) : Prop where
  bel : Below w1.heap.size w1 wr
  own : TermsOwn wr w1.heap.size (.slice (some ⟨w1.heap.size, 0, none⟩) n n) (qs ++ List.replicate (n - j) zp) (ms ++ List.replicate (n - j) zt)
  len : qs.length = j
  len' : ms.length = j
  ok : ∀ rest k, TimesL t (ls.drop j) rest k → (k ≠ 0 → rest = []) → TimesL t ls (if k = 0 then ms ++ rest else []) k

theorem TmSt.below {w1 wr w' : World} {n : Nat} {t : TL} {ls : List TL} {j : Nat} {qs : List TP} {ms : List TL} (h : TmSt w1 wr n t ls j qs ms) (hb : Below wr.heap.size wr w') : TmSt w1 w' n t ls j qs ms := ⟨chain h.bel hb, h.own.below hb, h.len, h.len', h.ok⟩
theorem set_at {A : Type} (xs : List A) (n j : Nat) (z p : A) (h : xs.length = j) (hj : j < n) : (xs ++ List.replicate (n - j) z).set j p = (xs ++ [p]) ++ List.replicate (n - (j + 1)) z := by
  obtain ⟨r, hr⟩ : ∃ r, n - j = r + 1 := ⟨n - j - 1, by omega⟩
  rw [hr, show n - (j + 1) = r by omega, List.set_append_right _ _ (by omega), h, Nat.sub_self, List.replicate_succ]
  simp
theorem TmSt.step {w1 wr : World} {n : Nat} {t x : TL} {ls : List TL} {j : Nat} {qs : List TP} {ms : List TL} {p : TP} {c : RatL} {m : Mo} (h : TmSt w1 wr n t ls j qs ms) (hj : j < n) (hx : ls[j]? = some x) (hc : MulOut x.c t.c c 0) (hm : MulM x.m t.m m 0) (hp : TermAt wr p ⟨c, m⟩) : TmSt w1 (setAt wr w1.heap.size (j * 7) p) n t ls (j + 1) (qs ++ [p]) (ms ++ [⟨c, m⟩]) := by
  have h1 := h.own.set (i := j) (p := p) (t := ⟨c, m⟩) (by simp [h.len]; omega) hp
  rw [set_at qs n j zp p h.len hj, set_at ms n j zt _ h.len' hj] at h1
  refine ⟨h.bel.grown (setAt_grown _ _ _ _) h.bel.size (fun k hk => by cases hk; exact Nat.le_refl _), h1, by simp [h.len], by simp [h.len'], fun rest k hr hk => ?_⟩
  have h2 := h.ok (if k = 0 then ⟨c, m⟩ :: rest else []) k (by rw [drop_at2 ls j x hx]; exact TimesL.step hc hm hr) (fun e => by rw [if_neg e])
  by_cases e : k = 0
  · subst e
    simpa using h2
  · rw [if_neg e] at h2 ⊢
    exact h2
theorem TmSt.stop {w1 wr : World} {n : Nat} {t x : TL} {ls : List TL} {j : Nat} {qs : List TP} {ms : List TL} {k : Int} (h : TmSt w1 wr n t ls j qs ms) (hx : ls[j]? = some x) (hs : TimesL t (x :: ls.drop (j + 1)) [] k) (hk : k ≠ 0) : TimesL t ls [] k := by
  have := h.ok [] k (by rw [drop_at2 ls j x hx]; exact hs) (fun _ => rfl)
  rwa [if_neg hk] at this
theorem TmSt.cells {w1 wr : World} {n : Nat} {t : TL} {ls : List TL} {j : Nat} {qs : List TP} {ms : List TL} (h : TmSt w1 wr n t ls j qs ms) (hj : j < n) : ElemAt wr w1.heap.size (j * 7) zp ∧ ∀ k, wr.frozen? ⟨w1.heap.size, k, none⟩ = false := by
  have hp : (qs ++ List.replicate (n - j) zp)[j]? = some zp := by
    rw [List.getElem?_append_right (by rw [h.len]; exact Nat.le_refl _), h.len, Nat.sub_self, List.getElem?_replicate, if_pos (by omega)]
  have hc := (h.own.at).cells j zp hp
  rw [Nat.zero_add] at hc
  refine ⟨.of hc, fun k => ?_⟩
  rcases h.own.own.row.2 with ⟨e, _⟩ | ⟨g', cap', cur, e, _, hb, _⟩
  · cases e
  · simp only [Value.slice.injEq, Option.some.injEq, Addr.mk.injEq, and_true] at e
    obtain ⟨e0, _, _⟩ := e
    subst e0
    simp [World.frozen?, hb]

end Go.Proofs.YtnedghhcidohnaaGreat
