/-
  Joined: KC1 · KD1.
-/
import Derived.Test.YtnedghhcidohnaaGreatJY1
import Derived.Test.YtnedghhcidohnaaGreatKA1
import Derived.Test.YtnedghhcidohnaaGreatPressE
import Derived.Test.YtnedghhcidohnaaGreatJN1
import Derived.Test.YtnedghhcidohnaaGreatJQ1
import Derived.Test.YtnedghhcidohnaaGreatJP1
import Derived.Test.YtnedghhcidohnaaGreatLD1
import Derived.Test.YtnedghhcidohnaaGreatJZ1
import Derived.Test.YtnedghhcidohnaaGreatJX1
namespace Go.Proofs.YtnedghhcidohnaaGreat
open Go.RowKit

def fN (f : Fac) : Int := if f.var = -1 then nv f.up else 1
def fD (f : Fac) : Int := if f.var = -1 then lowN f else 1
def fX (f : Fac) : Int := if f.var = -1 then 0 else 1
/-- A small number, or x. -/
def okF (f : Fac) : Prop := (f.var = -1 ∧ SmF f ∧ nv f.up ≤ 10 ∧ lowN f ≤ 10) ∨ f = ⟨0, [49], []⟩
def aN (fs : List Fac) : Int := fs.foldl (fun n f => n * fN f) 1
def aD (fs : List Fac) : Int := fs.foldl (fun n f => n * fD f) 1
def aX (fs : List Fac) : Int := fs.foldl (fun n f => n + fX f) 0
theorem a_next (fs : List Fac) (j : Nat) (f : Fac) (h : fs[j]? = some f) : aN (fs.take (j + 1)) = aN (fs.take j) * fN f ∧ aD (fs.take (j + 1)) = aD (fs.take j) * fD f ∧ aX (fs.take (j + 1)) = aX (fs.take j) + fX f := by
  rw [List.take_add_one, h]
  simp [aN, aD, aX, List.foldl_append]
theorem okF.bd {f : Fac} (h : okF f) : 0 ≤ fN f ∧ fN f ≤ 10 ∧ 1 ≤ fD f ∧ fD f ≤ 10 ∧ 0 ≤ fX f ∧ fX f ≤ 1 := by
  rcases h with ⟨h1, h2, h3, h4⟩ | rfl
  · have := nv_nonneg h2.up
    have h5 : 1 ≤ lowN f := by
      unfold lowN
      split
      · omega
      · rename_i hd
        exact (h2.down hd).2.1
    simp [fN, fD, fX, h1]
    omega
  · simp [fN, fD, fX]
theorem a_bd {fs : List Fac} (h : ∀ f ∈ fs, okF f) (hl : fs.length ≤ 2) (j : Nat) : 0 ≤ aN (fs.take j) ∧ aN (fs.take j) ≤ 100 ∧ 1 ≤ aD (fs.take j) ∧ aD (fs.take j) ≤ 100 ∧ 0 ≤ aX (fs.take j) ∧ aX (fs.take j) ≤ 2 := by
  have hl2 : (fs.take j).length ≤ 2 := by simp; omega
  have h2 : ∀ f ∈ fs.take j, okF f := fun f hf => h f (List.mem_of_mem_take hf)
  generalize fs.take j = l at hl2 h2
  match l, hl2, h2 with
  | [], _, _ => simp [aN, aD, aX]
  | [a], _, h2 =>
    have := (h2 a (.head _)).bd
    simp only [aN, aD, aX, List.foldl_cons, List.foldl_nil]
    omega
  | [a, b], _, h2 =>
    have ha := (h2 a (.head _)).bd
    have hb := (h2 b (.tail _ (.head _))).bd
    simp only [aN, aD, aX, List.foldl_cons, List.foldl_nil, Int.one_mul, Int.zero_add]
    have m1 : fN a * fN b ≤ 10 * 10 := Int.mul_le_mul (by omega) (by omega) (by omega) (by omega)
    have m2 : fD a * fD b ≤ 10 * 10 := Int.mul_le_mul (by omega) (by omega) (by omega) (by omega)
    have m3 : 0 ≤ fN a * fN b := Int.mul_nonneg (by omega) (by omega)
    have m4 : 0 < fD a * fD b := Int.mul_pos (by omega) (by omega)
    omega

theorem fcells_length : ∀ fs : List Fac, (fcells fs).length = fs.length * 3
  | [] => rfl
  | f :: fs => by
    have := fcells_length fs
    simp [fcells, Fac.cs] at this ⊢
    omega
theorem fcells_at : ∀ (fs : List Fac) (j t : Nat) (f : Fac) (v : Value), fs[j]? = some f → f.cs[t]? = some v → (fcells fs)[j * 3 + t]? = some v
  | [], j, t, f, v, h, _ => by simp at h
  | q :: fs, 0, t, f, v, h, hv => by
    simp at h
    subst h
    have ht : t < q.cs.length := (List.getElem?_eq_some_iff.1 hv).1
    simp only [fcells, List.flatMap_cons, Nat.zero_mul, Nat.zero_add]
    rw [List.getElem?_append_left ht]
    exact hv
  | q :: fs, j + 1, t, f, v, h, hv => by
    have ih := fcells_at fs j t f v (by simpa using h) hv
    have hq : q.cs.length = 3 := rfl
    simp only [fcells, List.flatMap_cons] at ih ⊢
    rw [List.getElem?_append_right (by omega), hq, show (j + 1) * 3 + t - 3 = j * 3 + t by omega]
    exact ih
theorem FRow.cell {w : World} {base g cap : Nat} {fs : List Fac} (h : FRow w base g cap fs) {j : Nat} {f : Fac} (hf : fs[j]? = some f) (t : Nat) (v : Value) (hv : f.cs[t]? = some v) : w.cell? ⟨g, j * 3 + t, none⟩ = some v := by
  have hc := fcells_at fs j t f v hf hv
  rcases h.row.2 with ⟨e, _⟩ | ⟨g', cap', cur, e, _, hg, _, _, _, htk⟩
  · cases e
  · simp only [Value.slice.injEq, Option.some.injEq, Addr.mk.injEq, and_true] at e
    obtain ⟨e0, _, _⟩ := e
    subst e0
    rw [cell_of_row _ _ _ _ _ _ hg, ← Array.getElem?_toList]
    rw [← htk] at hc
    rw [List.getElem?_take] at hc
    split at hc
    · exact hc
    · cases hc

theorem results_tn {fn : Func} (hf : fn.results = #[.cell 2 49, .tmp 3]) (tmps : Array Value) {w : World} {B : Nat} {p : TP} (u : Value) (h : MBx w B p) (h2 : tmps[2]?.getD undef = .pointer (some ⟨B, 0, none⟩)) (h3 : tmps[3]?.getD undef = u) :
    (results fn tmps).run Tryz.prog w = .ok (.tuple #[.agg #[.bool p.neg, .slice p.no p.nn p.nc, .slice p.eo p.en p.ec, .int .i64 p.a, .int .i64 p.b, .int .i64 p.c, .int .i64 p.d], u]) w := by
  simp only [results, hf]
  simp [Result.andThen, asAddr, h2, h3, load_t h]
theorem num_one1 : Num [1] 1 := ⟨fun x hx => by simp at hx; subst hx; unfold BB; omega, by intro n hn; simp at hn; subst hn; decide, by simp [val]⟩
theorem MBx.other {W : World} {A C k : Nat} {p : TP} {u : Value} (h : MBx W A p) (hne : A ≠ C) : MBx (W.setCell ⟨C, k, none⟩ u) A p := (Below.heap_setCell W ⟨C, k, none⟩ u A hne).trans h
theorem RatAt.setM {W : World} {B : Nat} {q : TP} {no : Option Addr} {nn nc : Nat} {eo : Option Addr} {en ec : Nat} {r : RatL} (h : RatAt W no nn nc eo en ec r) (hB : MBx W B q) (k : Nat) (v : Value) : RatAt (W.setCell ⟨B, k, none⟩ v) no nn nc eo en ec r :=
  h.grown (e := 49) (grown_setk W B k v) (fun g hg => by cases hg; exact hB.clean)

/-- A term that is being reckoned. -/
structure TmS (w wr : World) (B1 B2 B4 : Nat) (neg : Bool) (v : Value) (p : TP) (r : RatL) (N D X : Int) : Prop where
  bel : Below w.heap.size w wr
  b1 : PBx wr B1 neg v
  b2 : MBx wr B2 ⟨false, none, 0, 0, none, 0, 0, 0, 0, 0, 0⟩
  b4 : MBx wr B4 p
  at' : TermAt wr p ⟨r, ⟨X, 0, 0, 0⟩⟩
  is : Is r N D
theorem TmS.below {w wr w' : World} {B1 B2 B4 : Nat} {neg : Bool} {v : Value} {p : TP} {r : RatL} {N D X : Int} (h : TmS w wr B1 B2 B4 neg v p r N D X) (hb : Below wr.heap.size wr w') : TmS w w' B1 B2 B4 neg v p r N D X :=
  ⟨chain h.bel hb, (hb.block _ h.b1.lt).trans h.b1, h.b2.below hb, h.b4.below hb, h.at'.below hb, h.is⟩
theorem TmS.rat {w wr : World} {B1 B2 B4 : Nat} {neg : Bool} {v : Value} {rg : Bool} {no : Option Addr} {nn nc : Nat} {eo : Option Addr} {en ec : Nat} {a b c d : Int} {r : RatL} {N D X : Int} (h : TmS w wr B1 B2 B4 neg v ⟨rg, no, nn, nc, eo, en, ec, a, b, c, d⟩ r N D X) (h4 : w.heap.size ≤ B4) (h14 : B1 ≠ B4) (h24 : B2 ≠ B4)
    {rg' : Bool} {no' : Option Addr} {nn' nc' : Nat} {eo' : Option Addr} {en' ec' : Nat} {r' : RatL} {N' D' : Int} (hr : RatAt wr no' nn' nc' eo' en' ec' r') (hn : r'.neg = rg') (hi : Is r' N' D') :
    TmS w (((wr.setCell ⟨B4, 0, none⟩ (.bool rg')).setCell ⟨B4, 1, none⟩ (.slice no' nn' nc')).setCell ⟨B4, 2, none⟩ (.slice eo' en' ec')) B1 B2 B4 neg v ⟨rg', no', nn', nc', eo', en', ec', a, b, c, d⟩ r' N' D' X := by
  have m0 := h.b4.s0 rg'
  have m1 := m0.s1 no' nn' nc'
  have m2 := m1.s2 eo' en' ec'
  exact ⟨((h.bel.setCell h4 _).setCell h4 _).setCell h4 _, ((h.b1.other h14).other h14).other h14, ((h.b2.other h24).other h24).other h24, m2, ⟨((hr.setM h.b4 _ _).setM m0 _ _).setM m1 _ _, hn, h.at'.mo⟩, hi⟩
theorem TmS.mono {w wr : World} {B1 B2 B4 : Nat} {neg : Bool} {v : Value} {rg : Bool} {no : Option Addr} {nn nc : Nat} {eo : Option Addr} {en ec : Nat} {a b c d : Int} {r : RatL} {N D X X' : Int} (h : TmS w wr B1 B2 B4 neg v ⟨rg, no, nn, nc, eo, en, ec, a, b, c, d⟩ r N D X) (h4 : w.heap.size ≤ B4) (h14 : B1 ≠ B4) (h24 : B2 ≠ B4) :
    TmS w ((((wr.setCell ⟨B4, 3, none⟩ (.int .i64 X')).setCell ⟨B4, 4, none⟩ (.int .i64 0)).setCell ⟨B4, 5, none⟩ (.int .i64 0)).setCell ⟨B4, 6, none⟩ (.int .i64 0)) B1 B2 B4 neg v ⟨rg, no, nn, nc, eo, en, ec, X', 0, 0, 0⟩ r N D X' := by
  have m0 := h.b4.s3 X'
  have m1 := m0.s4 0
  have m2 := m1.s5 0
  have m3 := m2.s6 0
  exact ⟨(((h.bel.setCell h4 _).setCell h4 _).setCell h4 _).setCell h4 _, (((h.b1.other h14).other h14).other h14).other h14, (((h.b2.other h24).other h24).other h24).other h24, m3, ⟨(((h.at'.rat.setM h.b4 _ _).setM m0 _ _).setM m1 _ _).setM m2 _ _, h.at'.neg, rfl⟩, h.is⟩

set_option maxRecDepth 100000 in
set_option maxHeartbeats 4000000 in
theorem term_ok (neg : Bool) (g cap : Nat) (base : Nat) (fs : List Fac) (w : World) (h : FRow w base g cap fs) (hf : ∀ f ∈ fs, okF f) (hl : fs.length ≤ 2) (hnz : aN fs ≠ 0) :
    Calls Tryz.prog 42 #[.agg #[.bool neg, .slice (some ⟨g, 0, none⟩) fs.length cap]] w fun e w' => ∃ (q : TP) (t : TL), e = .returned (.tuple #[.agg #[.bool q.neg, .slice q.no q.nn q.nc, .slice q.eo q.en q.ec, .int .i64 q.a, .int .i64 q.b, .int .i64 q.c, .int .i64 q.d], .int .i64 0]) ∧ TermAt w' q t ∧ Is t.c (if neg then -aN fs else aN fs) (aD fs) ∧ t.m = ⟨aX fs, 0, 0, 0⟩ ∧ Below w.heap.size w w' := by
  obtain ⟨n, hn⟩ : ∃ n, n = fs.length := ⟨_, rfl⟩
  rw [← hn]
  have hn2 : (n : Int) ≤ 2 := by omega
  have b2 := below2' w (.cells #[.bool neg, .slice (some ⟨g, 0, none⟩) n cap] 83) (.cells #[.bool false, .slice none 0 0, .slice none 0 0, .int .i64 0, .int .i64 0, .int .i64 0, .int .i64 0] 49)
  have p1 : PBx ((w.alloc (.cells #[.bool neg, .slice (some ⟨g, 0, none⟩) n cap] 83)).alloc (.cells #[.bool false, .slice none 0 0, .slice none 0 0, .int .i64 0, .int .i64 0, .int .i64 0, .int .i64 0] 49)) w.heap.size neg (.slice (some ⟨g, 0, none⟩) n cap) := ((bel1 _ _).block w.heap.size (by rw [World.size_alloc]; omega)).trans (PBx.new w neg (.slice (some ⟨g, 0, none⟩) n cap))
  have p2 := MBx.new (w.alloc (.cells #[.bool neg, .slice (some ⟨g, 0, none⟩) n cap] 83)) ⟨false, none, 0, 0, none, 0, 0, 0, 0, 0, 0⟩
  rw [World.size_alloc] at p2
  have H : Hid (FRow w base g cap fs ∧ (∀ f ∈ fs, okF f) ∧ fs.length ≤ 2 ∧ aN fs ≠ 0 ∧ n = fs.length ∧ Below w.heap.size w ((w.alloc (.cells #[.bool neg, .slice (some ⟨g, 0, none⟩) n cap] 83)).alloc (.cells #[.bool false, .slice none 0 0, .slice none 0 0, .int .i64 0, .int .i64 0, .int .i64 0, .int .i64 0] 49)) ∧ PBx ((w.alloc (.cells #[.bool neg, .slice (some ⟨g, 0, none⟩) n cap] 83)).alloc (.cells #[.bool false, .slice none 0 0, .slice none 0 0, .int .i64 0, .int .i64 0, .int .i64 0, .int .i64 0] 49)) w.heap.size neg (.slice (some ⟨g, 0, none⟩) n cap) ∧ MBx ((w.alloc (.cells #[.bool neg, .slice (some ⟨g, 0, none⟩) n cap] 83)).alloc (.cells #[.bool false, .slice none 0 0, .slice none 0 0, .int .i64 0, .int .i64 0, .int .i64 0, .int .i64 0] 49)) (w.heap.size + 1) ⟨false, none, 0, 0, none, 0, 0, 0, 0, 0, 0⟩) := ⟨h, hf, hl, hnz, hn, b2, p1, p2⟩
  clear h hf hl hnz hn b2 p1 p2
  go_enter Tryz.func42, Tryz.ntmps42
  go_wp2_with fail
  refine (rof_r 1 _ (by omega) (by omega)).mono ?_
  rintro e w1 ⟨rg, no, nn, nc, eo, en, ec, r, rfl, q1, q2, q3, q4⟩
  have a1 := bel1 w1 (.cells #[.bool rg, .slice no nn nc, .slice eo en ec, .int .i64 0, .int .i64 0, .int .i64 0, .int .i64 0] 49)
  have q5 := chain q4 a1
  have hsz : w.heap.size + 2 ≤ w1.heap.size := by have := q4.size; rw [World.size_alloc, World.size_alloc] at this; omega
  have S0 : Hid (TmS w (w1.alloc (.cells #[.bool rg, .slice no nn nc, .slice eo en ec, .int .i64 0, .int .i64 0, .int .i64 0, .int .i64 0] 49)) w.heap.size (w.heap.size + 1) w1.heap.size neg (.slice (some ⟨g, 0, none⟩) n cap) ⟨rg, no, nn, nc, eo, en, ec, 0, 0, 0, 0⟩ r 1 1 0 ∧ w.heap.size + 2 ≤ w1.heap.size) :=
    ⟨⟨chain H.out.2.2.2.2.2.1 q5, (q5.block _ H.out.2.2.2.2.2.2.1.lt).trans H.out.2.2.2.2.2.2.1, H.out.2.2.2.2.2.2.2.below q5, MBx.new w1 ⟨rg, no, nn, nc, eo, en, ec, 0, 0, 0, 0⟩, ⟨q2.below a1, q1, rfl⟩, q3⟩, hsz⟩
  clear q1 q2 q3 q4 q5 a1 hsz
  go_wp2_with fail
  go_loopg [5] n (fun m s5 wr => ∃ (j : Nat) (rg : Bool) (no : Option Addr) (nn nc : Nat) (eo : Option Addr) (en ec : Nat) (r : RatL) (N D X : Int), j ≤ n ∧ n - j ≤ m ∧ s5 = .int .i64 j ∧ Hid (TmS w wr w.heap.size (w.heap.size + 1) w1.heap.size neg (.slice (some ⟨g, 0, none⟩) n cap) ⟨rg, no, nn, nc, eo, en, ec, X, 0, 0, 0⟩ r N D X ∧ N = aN (fs.take j) ∧ D = aD (fs.take j) ∧ X = aX (fs.take j)))
  case atStart => exact ⟨0, rg, no, nn, nc, eo, en, ec, r, 1, 1, 0, Nat.zero_le _, by omega, rfl, S0.out.1, rfl, rfl, rfl⟩
  case round =>
    obtain ⟨j, rg, no, nn, nc, eo, en, ec, r, N, D, X, hj, hjr, rfl, hO⟩ := hrel
    obtain ⟨y0, y1⟩ := hO.out.1.b1.el
    have HBd : Hid (0 ≤ N ∧ N ≤ 100 ∧ 1 ≤ D ∧ D ≤ 100 ∧ 0 ≤ X ∧ X ≤ 2) := by
      have h9 := a_bd H.out.2.1 H.out.2.2.1 j
      rw [← hO.out.2.1, ← hO.out.2.2.1, ← hO.out.2.2.2] at h9
      exact h9
    by_cases h0 : j < n
    · have hjn : (j : Int) < (n : Int) := by omega
      have hj0 : (0 : Int) ≤ (j : Int) := by omega
      obtain ⟨f, hfj⟩ : ∃ f, fs[j]? = some f := ⟨_, List.getElem?_eq_getElem (by have := H.out.2.2.2.2.1; omega)⟩
      have hok := H.out.2.1 f (List.mem_of_getElem? hfj)
      have hnx := a_next fs j f hfj
      rw [← hO.out.2.1, ← hO.out.2.2.1, ← hO.out.2.2.2] at hnx
      have k0 := H.out.1.cell hfj 0 _ rfl
      have k1 := H.out.1.cell hfj 1 _ rfl
      have k2 := H.out.1.cell hfj 2 _ rfl
      have glt := H.out.1.ge.2
      have x0 := (hO.out.1.bel.cell (p := ⟨g, j * 3 + 0, none⟩) glt).trans k0
      have x1 := (hO.out.1.bel.cell (p := ⟨g, j * 3 + 1, none⟩) glt).trans k1
      have x2 := (hO.out.1.bel.cell (p := ⟨g, j * 3 + 2, none⟩) glt).trans k2
      rw [Nat.add_zero] at x0
      have HJ : Hid (j < n ∧ n - j ≤ _ ∧ fs[j]? = some f) := ⟨h0, hjr, hfj⟩
      have HNX : Hid (aN (fs.take (j + 1)) = N * fN f ∧ aD (fs.take (j + 1)) = D * fD f ∧ aX (fs.take (j + 1)) = X + fX f) := hnx
      have hb := hok.bd
      clear hj hjr h0 hfj hnx k0 k1 k2 glt
      rcases hok with ⟨hv, hsm, _, _⟩ | rfl
      · obtain ⟨fv, fu, fd⟩ := f
        dsimp only at hv
        subst hv
        have HS : Hid (SmF ⟨-1, fu, fd⟩ ∧ 0 ≤ nv fu ∧ nv fu ≤ 10 ∧ 1 ≤ lowN ⟨-1, fu, fd⟩ ∧ lowN ⟨-1, fu, fd⟩ ≤ 10) := by
          simp only [fN, fD, fX, if_true] at hb
          exact ⟨hsm, hb.1, hb.2.1, hb.2.2.1, hb.2.2.2.1⟩
        have a6 := bel1 wr (.cells #[.int .i64 (-1), .string (str fu), .string (str fd)] 112)
        have T6 := hO.out.1.below a6
        have fb := FBx.new wr (-1) (str fu) (str fd)
        obtain ⟨v0, v1, v2⟩ := fb.el
        have H6 : Hid (TmS w (wr.alloc (.cells #[.int .i64 (-1), .string (str fu), .string (str fd)] 112)) w.heap.size (w.heap.size + 1) w1.heap.size neg (.slice (some ⟨g, 0, none⟩) n cap) ⟨rg, no, nn, nc, eo, en, ec, X, 0, 0, 0⟩ r N D X) := T6
        dsimp only at x0 x1 x2
        clear hb hsm a6 T6 fb
        go_wp2_with fail
        refine (value_ok (-1) ⟨-1, fu, fd⟩ _ HS.out.1).mono ?_
        rintro e w7 ⟨ug, uo, un, uc, ueo, uen, uec, u, rfl, q1, q2, q3, q4⟩
        have a7 := bel1 w7 (.cells #[.bool ug, .slice uo un uc, .slice ueo uen uec] 45)
        have rx := RBox.new w7 ug uo un uc ueo uen uec
        have T7 := H6.out.below (chain q4 a7)
        have r0 := rx.c0
        have r1 := rx.c1
        have r2 := rx.c2
        obtain ⟨m0, m1, m2, _, _, _, _⟩ := T7.b4.el
        dsimp only at m0 m1 m2
        have H7 : Hid (TmS w (w7.alloc (.cells #[.bool ug, .slice uo un uc, .slice ueo uen uec] 45)) w.heap.size (w.heap.size + 1) w1.heap.size neg (.slice (some ⟨g, 0, none⟩) n cap) ⟨rg, no, nn, nc, eo, en, ec, X, 0, 0, 0⟩ r N D X ∧ RatAt (w7.alloc (.cells #[.bool ug, .slice uo un uc, .slice ueo uen uec] 45)) uo un uc ueo uen uec u ∧ u.neg = ug ∧ Is u (nv fu) (lowN ⟨-1, fu, fd⟩)) := ⟨T7, q2.below a7, q1, q3⟩
        clear q1 q2 q3 q4 a7 rx T7 x0 x1 x2 v0 v1 v2 y0 y1
        go_wp2_with fail
        refine (rrmul_r _ _ _ _ _ _ _ _ _ _ _ _ _ _ r u _ H7.out.1.at'.rat H7.out.2.1 H7.out.1.at'.neg H7.out.2.2.1).mono ?_
        rintro e w8 ⟨zg, zo, zn, zc, zeo, zen, zec, z, k, rfl, q1, q2, q3, q4⟩
        obtain ⟨rfl, hz⟩ := mul_fine q3 H7.out.1.is H7.out.2.2.2 (L := 100) (K := 10) (by have := HBd.out; omega) (by have := HBd.out; omega) (by have := HS.out; omega) (by have := HS.out; omega) (by unfold Big BB; decide)
        have a9 := bel1 w8 (.cells #[.bool zg, .slice zo zn zc, .slice zeo zen zec] 45)
        have rx := RBox.new w8 zg zo zn zc zeo zen zec
        have T9 := H7.out.1.below (chain q4 a9)
        have r0' := rx.c0
        have r1' := rx.c1
        have r2' := rx.c2
        obtain ⟨m0, m1, m2, _, _, _, _⟩ := T9.b4.el
        dsimp only at m0 m1 m2
        have f0 := T9.b4.f 0
        have f1 := T9.b4.f 1
        have f2 := T9.b4.f 2
        have HQ : Hid (TmS w ((((w8.alloc (.cells #[.bool zg, .slice zo zn zc, .slice zeo zen zec] 45)).setCell ⟨w1.heap.size, 0, none⟩ (.bool zg)).setCell ⟨w1.heap.size, 1, none⟩ (.slice zo zn zc)).setCell ⟨w1.heap.size, 2, none⟩ (.slice zeo zen zec)) w.heap.size (w.heap.size + 1) w1.heap.size neg (.slice (some ⟨g, 0, none⟩) n cap) ⟨zg, zo, zn, zc, zeo, zen, zec, X, 0, 0, 0⟩ z (N * nv fu) (D * lowN ⟨-1, fu, fd⟩) X) :=
          T9.rat (by have := S0.out.2; omega) (by have := S0.out.2; omega) (by have := S0.out.2; omega) (q2.below a9) q1 hz
        clear q1 q2 q3 q4 a9 rx T9 hz r0 r1 r2
        go_wp2_with fail
        go_roundg (n - (j + 1))
        case measure => have := HJ.out.1; have := HJ.out.2.1; omega
        case rel => exact ⟨j + 1, zg, zo, zn, zc, zeo, zen, zec, z, _, _, X, by have := HJ.out.1; omega, Nat.le_refl _, by go_num, HQ.out, by rw [HNX.out.1]; rfl, by rw [HNX.out.2.1]; rfl, by rw [HNX.out.2.2]; simp [fX]⟩
      · have a6 := bel1 wr (.cells #[.int .i64 0, .string (str [49]), .string (str [])] 112)
        have T6 := hO.out.1.below a6
        have fb := FBx.new wr 0 (str [49]) (str [])
        obtain ⟨v0, v1, v2⟩ := fb.el
        have H6 : Hid (TmS w (wr.alloc (.cells #[.int .i64 0, .string (str [49]), .string (str [])] 112)) w.heap.size (w.heap.size + 1) w1.heap.size neg (.slice (some ⟨g, 0, none⟩) n cap) ⟨rg, no, nn, nc, eo, en, ec, X, 0, 0, 0⟩ r N D X ∧ FBx (wr.alloc (.cells #[.int .i64 0, .string (str [49]), .string (str [])] 112)) wr.heap.size 0 (str [49]) (str [])) := ⟨T6, fb⟩
        dsimp only at x0 x1 x2
        clear hb a6 T6 fb
        go_wp2_with fail
        refine (rparse_any [49] _ (by decide)).mono ?_
        rintro e w7 ⟨po, pn, pc, pr, k, rfl, q1, q2, q3⟩
        obtain ⟨rfl, hu⟩ := q2.fine (⟨fun c hc => by simp at hc; subst hc; decide, .inl rfl⟩ : IsNum [49]) (by show nv [49] < Big; rw [show nv [49] = 1 by decide]; exact Big_one)
        rw [show nv [49] = 1 by decide] at hu
        obtain rfl : pr = [1] := hu.one num_one1
        obtain ⟨pb, poff, rfl, hplt, hpc⟩ := q1.cells (by simp)
        have hpn := q1.len
        simp only [List.length_cons, List.length_nil] at hpn
        obtain rfl : pn = 1 := by omega
        have pc0 := hpc 0 (by simp)
        simp only [Nat.add_zero, List.getD_cons_zero] at pc0
        have a8 := bel1 w7 (.cells #[.int .i64 0, .int .i64 0, .int .i64 0, .int .i64 0] 47)
        have T8 := (H6.out.1.below q3).below a8
        have F8 : FBx (w7.alloc (.cells #[.int .i64 0, .int .i64 0, .int .i64 0, .int .i64 0] 47)) wr.heap.size 0 (str [49]) (str []) := ((chain q3 a8).block _ H6.out.2.lt).trans H6.out.2
        obtain ⟨v0, _, _⟩ := F8.el
        have pc8 := (a8.cell (p := ⟨pb, poff, none⟩) hplt).trans pc0
        have H8 : Hid (FBx (w7.alloc (.cells #[.int .i64 0, .int .i64 0, .int .i64 0, .int .i64 0] 47)) wr.heap.size 0 (str [49]) (str [])) := F8
        have a9 : Below w7.heap.size w7 (w7.alloc (.cells #[.int .i64 1, .int .i64 0, .int .i64 0, .int .i64 0] 47)).drew := (bel1 _ _).drew
        have HT9 : Hid (TmS w (w7.alloc (.cells #[.int .i64 1, .int .i64 0, .int .i64 0, .int .i64 0] 47)).drew w.heap.size (w.heap.size + 1) w1.heap.size neg (.slice (some ⟨g, 0, none⟩) n cap) ⟨rg, no, nn, nc, eo, en, ec, X, 0, 0, 0⟩ r N D X ∧ Mn.MBox (w7.alloc (.cells #[.int .i64 1, .int .i64 0, .int .i64 0, .int .i64 0] 47)).drew w7.heap.size 1 0 0 0) := ⟨H6.out.1.below (chain q3 a9), Mn.MBox.new w7 1 0 0 0⟩
        clear q1 q2 q3 hu hpc a8 T8 F8 a9 x0 x1 x2 y0 y1 hpn hplt
        go_wp2_with fail
        go_region
        generalize (w7.alloc (.cells #[.int .i64 1, .int .i64 0, .int .i64 0, .int .i64 0] 47)).drew = W9 at HT9 ⊢
        clear v0 v1 v2 pc0 pc8
        obtain ⟨_, _, _, m3, m4, m5, m6⟩ := HT9.out.1.b4.el
        dsimp only at m3 m4 m5 m6
        have n0 := HT9.out.2.c0
        have n1 := HT9.out.2.c1
        have n2 := HT9.out.2.c2
        have n3 := HT9.out.2.c3
        have HB4 : Hid (Mn.Both X 0 0 0 1 0 0 0 ∧ Mn.May4 (X + 1) (0 + 0) (0 + 0) (0 + 0)) := by
          have := HBd.out
          have e0 : Mn.Ex 0 := ⟨by omega, by omega⟩
          exact ⟨⟨⟨⟨by omega, by omega⟩, e0, e0, e0⟩, ⟨⟨by omega, by omega⟩, e0, e0, e0⟩⟩, ⟨⟨by omega, by omega⟩, e0, e0, e0⟩⟩
        go_wp2_with fail
        refine (Mn.rmul_ok X 0 0 0 1 0 0 0 _ HB4.out.1 HB4.out.2).mono ?_
        rintro e w10 ⟨rfl, q1⟩
        have hx2 : X + 1 ≤ 3 := by have := HBd.out; omega
        have hx3 : 0 ≤ X + 1 := by have := HBd.out; omega
        have a11 := bel1 w10 (.cells #[.int .i64 (X + 1), .int .i64 0, .int .i64 0, .int .i64 0] 47)
        have T11 := HT9.out.1.below (chain q1 a11)
        have mb := Mn.MBox.new w10 (X + 1) 0 0 0
        clear m3 m4 m5 m6 n0 n1 n2 n3
        obtain ⟨_, _, _, m3, m4, m5, m6⟩ := T11.b4.el
        dsimp only at m3 m4 m5 m6
        have n0 := mb.c0
        have n1 := mb.c1
        have n2 := mb.c2
        have n3 := mb.c3
        have f3 := T11.b4.f 3
        have f4 := T11.b4.f 4
        have f5 := T11.b4.f 5
        have f6 := T11.b4.f 6
        have HQ : Hid (TmS w (((((w10.alloc (.cells #[.int .i64 (X + 1), .int .i64 0, .int .i64 0, .int .i64 0] 47)).setCell ⟨w1.heap.size, 3, none⟩ (.int .i64 (X + 1))).setCell ⟨w1.heap.size, 4, none⟩ (.int .i64 0)).setCell ⟨w1.heap.size, 5, none⟩ (.int .i64 0)).setCell ⟨w1.heap.size, 6, none⟩ (.int .i64 0)) w.heap.size (w.heap.size + 1) w1.heap.size neg (.slice (some ⟨g, 0, none⟩) n cap) ⟨rg, no, nn, nc, eo, en, ec, X + 1, 0, 0, 0⟩ r N D (X + 1)) := T11.mono (by have := S0.out.2; omega) (by have := S0.out.2; omega) (by have := S0.out.2; omega)
        clear q1 a11 T11 mb
        go_wp2_with fail
        go_roundg (n - (j + 1))
        case measure => have := HJ.out.1; have := HJ.out.2.1; omega
        case rel => exact ⟨j + 1, rg, no, nn, nc, eo, en, ec, r, _, _, X + 1, by have := HJ.out.1; omega, Nat.le_refl _, by go_num, HQ.out, by rw [HNX.out.1]; simp [fN], by rw [HNX.out.2.1]; simp [fD], by rw [HNX.out.2.2]; simp [fX]⟩
    · have hjn : j = n := by omega
      subst hjn
      have HEX : Hid (N = aN fs ∧ D = aD fs ∧ X = aX fs) := by
        have h1 := hO.out.2.1
        have h2 := hO.out.2.2.1
        have h3 := hO.out.2.2.2
        rw [List.take_of_length_le (by have := H.out.2.2.2.2.1; omega)] at h1 h2 h3
        exact ⟨h1, h2, h3⟩
      clear hj hjr h0
      cases neg with
      | false =>
        have HN : Hid (TermAt (set7 wr (w.heap.size + 1) ⟨rg, no, nn, nc, eo, en, ec, X, 0, 0, 0⟩) ⟨rg, no, nn, nc, eo, en, ec, X, 0, 0, 0⟩ ⟨r, ⟨X, 0, 0, 0⟩⟩ ∧ MBx (set7 wr (w.heap.size + 1) ⟨rg, no, nn, nc, eo, en, ec, X, 0, 0, 0⟩) (w.heap.size + 1) ⟨rg, no, nn, nc, eo, en, ec, X, 0, 0, 0⟩ ∧ Below w.heap.size w (set7 wr (w.heap.size + 1) ⟨rg, no, nn, nc, eo, en, ec, X, 0, 0, 0⟩) ∧ Is r (aN fs) (aD fs) ∧ X = aX fs) := ⟨⟨(hO.out.1).at'.rat.set7 (hO.out.1).b2 _, (hO.out.1).at'.neg, rfl⟩, (hO.out.1).b2.set _, below_set7 (hO.out.1).bel (by omega) _, by rw [← HEX.out.1, ← HEX.out.2.1]; exact hO.out.1.is, HEX.out.2.2⟩
        obtain ⟨z0, z1, z2, z3, z4, z5, z6⟩ := (hO.out.1).b2.el
        dsimp only at z0 z1 z2 z3 z4 z5 z6
        have g0 := (hO.out.1).b2.f 0
        have g1 := (hO.out.1).b2.f 1
        have g2 := (hO.out.1).b2.f 2
        have g3 := (hO.out.1).b2.f 3
        have g4 := (hO.out.1).b2.f 4
        have g5 := (hO.out.1).b2.f 5
        have g6 := (hO.out.1).b2.f 6
        obtain ⟨m0, m1, m2, m3, m4, m5, m6⟩ := (hO.out.1).b4.el
        dsimp only at m0 m1 m2 m3 m4 m5 m6
        go_wp2_with fail
        refine bodyPost_ret (results_tn rfl _ _ HN.out.2.1 rfl rfl) rfl ?_
        exact ⟨⟨rg, no, nn, nc, eo, en, ec, X, 0, 0, 0⟩, rfl, ⟨r, ⟨X, 0, 0, 0⟩⟩, HN.out.1, by simpa using HN.out.2.2.2.1, by rw [HN.out.2.2.2.2], HN.out.2.2.1⟩
      | true =>
        have htop : r.top ≠ 0 := by
          intro e
          have h1 := hO.out.1.is.eq
          rw [e, Int.zero_mul] at h1
          rcases Int.mul_eq_zero.1 h1.symm with h2 | h2
          · exact H.out.2.2.2.1 (by rw [← HEX.out.1]; exact h2)
          · have := hO.out.1.is.may.bot_pos hO.out.1.is.lim; omega
        have HT : Hid (r.top ≠ 0) := htop
        obtain ⟨m0, m1, m2, _, _, _, _⟩ := hO.out.1.b4.el
        dsimp only at m0 m1 m2
        clear htop
        go_wp2_with fail
        refine (rneg_r _ _ _ _ _ _ _ r _ hO.out.1.at'.rat hO.out.1.at'.neg hO.out.1.is.may HT.out).mono ?_
        rintro e w5 ⟨rfl, q1, q2⟩
        have T5 := hO.out.1.below q2
        have hfl : Is ⟨!rg, r.num, r.den⟩ (-N) D := by
          have h9 := hO.out.1.is.flip
          have e9 : r.flip = ⟨!rg, r.num, r.den⟩ := by
            have hneg := hO.out.1.at'.neg
            dsimp only at hneg
            have hz : r.num.length ≠ 0 := fun e => HT.out ((hO.out.1.is.may.zero_len hO.out.1.is.lim).1 e)
            show (⟨if r.num.length = 0 then r.neg else !r.neg, r.num, r.den⟩ : RatL) = _
            rw [if_neg hz, hneg]
          rw [e9] at h9
          exact h9
        have HQ : Hid (TmS w (((w5.setCell ⟨w1.heap.size, 0, none⟩ (.bool (!rg))).setCell ⟨w1.heap.size, 1, none⟩ (.slice no nn nc)).setCell ⟨w1.heap.size, 2, none⟩ (.slice eo en ec)) w.heap.size (w.heap.size + 1) w1.heap.size true (.slice (some ⟨g, 0, none⟩) j cap) ⟨!rg, no, nn, nc, eo, en, ec, X, 0, 0, 0⟩ ⟨!rg, r.num, r.den⟩ (-N) D X) := T5.rat (by have := S0.out.2; omega) (by have := S0.out.2; omega) (by have := S0.out.2; omega) q1 rfl hfl
        clear m0 m1 m2
        obtain ⟨m0, m1, m2, _, _, _, _⟩ := T5.b4.el
        dsimp only at m0 m1 m2
        have f0 := T5.b4.f 0
        have f1 := T5.b4.f 1
        have f2 := T5.b4.f 2
        clear q1 q2 T5 hfl y0 y1
        have HN : Hid (TermAt (set7 (((w5.setCell ⟨w1.heap.size, 0, none⟩ (.bool (!rg))).setCell ⟨w1.heap.size, 1, none⟩ (.slice no nn nc)).setCell ⟨w1.heap.size, 2, none⟩ (.slice eo en ec)) (w.heap.size + 1) ⟨!rg, no, nn, nc, eo, en, ec, X, 0, 0, 0⟩) ⟨!rg, no, nn, nc, eo, en, ec, X, 0, 0, 0⟩ ⟨⟨!rg, r.num, r.den⟩, ⟨X, 0, 0, 0⟩⟩ ∧ MBx (set7 (((w5.setCell ⟨w1.heap.size, 0, none⟩ (.bool (!rg))).setCell ⟨w1.heap.size, 1, none⟩ (.slice no nn nc)).setCell ⟨w1.heap.size, 2, none⟩ (.slice eo en ec)) (w.heap.size + 1) ⟨!rg, no, nn, nc, eo, en, ec, X, 0, 0, 0⟩) (w.heap.size + 1) ⟨!rg, no, nn, nc, eo, en, ec, X, 0, 0, 0⟩ ∧ Below w.heap.size w (set7 (((w5.setCell ⟨w1.heap.size, 0, none⟩ (.bool (!rg))).setCell ⟨w1.heap.size, 1, none⟩ (.slice no nn nc)).setCell ⟨w1.heap.size, 2, none⟩ (.slice eo en ec)) (w.heap.size + 1) ⟨!rg, no, nn, nc, eo, en, ec, X, 0, 0, 0⟩) ∧ Is ⟨!rg, r.num, r.den⟩ (-aN fs) (aD fs) ∧ X = aX fs) := ⟨⟨(HQ.out).at'.rat.set7 (HQ.out).b2 _, (HQ.out).at'.neg, rfl⟩, (HQ.out).b2.set _, below_set7 (HQ.out).bel (by omega) _, by rw [← HEX.out.1, ← HEX.out.2.1]; exact HQ.out.is, HEX.out.2.2⟩
        obtain ⟨z0, z1, z2, z3, z4, z5, z6⟩ := (HQ.out).b2.el
        dsimp only at z0 z1 z2 z3 z4 z5 z6
        have g0 := (HQ.out).b2.f 0
        have g1 := (HQ.out).b2.f 1
        have g2 := (HQ.out).b2.f 2
        have g3 := (HQ.out).b2.f 3
        have g4 := (HQ.out).b2.f 4
        have g5 := (HQ.out).b2.f 5
        have g6 := (HQ.out).b2.f 6
        obtain ⟨m0, m1, m2, m3, m4, m5, m6⟩ := (HQ.out).b4.el
        dsimp only at m0 m1 m2 m3 m4 m5 m6
        go_wp2_with fail
        refine bodyPost_ret (results_tn rfl _ _ HN.out.2.1 rfl rfl) rfl ?_
        exact ⟨⟨!rg, no, nn, nc, eo, en, ec, X, 0, 0, 0⟩, rfl, ⟨⟨!rg, r.num, r.den⟩, ⟨X, 0, 0, 0⟩⟩, HN.out.1, by simpa using HN.out.2.2.2.1, by rw [HN.out.2.2.2.2], HN.out.2.2.1⟩
end Go.Proofs.YtnedghhcidohnaaGreat

/-! The reference's Parse of small sums of numbers and x. -/
namespace Go.Proofs.YtnedghhcidohnaaGreat
open Go.RowKit

theorem pcells_at : ∀ (xs : List PA) (j t : Nat) (x : PA) (v : Value), xs[j]? = some x → x.cs[t]? = some v → (pcells xs)[j * 2 + t]? = some v
  | [], j, t, f, v, h, _ => by simp at h
  | q :: fs, 0, t, f, v, h, hv => by
    simp at h
    subst h
    have ht : t < q.cs.length := (List.getElem?_eq_some_iff.1 hv).1
    simp only [pcells, List.flatMap_cons, Nat.zero_mul, Nat.zero_add]
    rw [List.getElem?_append_left ht]
    exact hv
  | q :: fs, j + 1, t, f, v, h, hv => by
    have ih := pcells_at fs j t f v (by simpa using h) hv
    have hq : q.cs.length = 2 := rfl
    simp only [pcells, List.flatMap_cons] at ih ⊢
    rw [List.getElem?_append_right (by omega), hq, show (j + 1) * 2 + t - 2 = j * 2 + t by omega]
    exact ih
theorem SRow.cell {w : World} {base g cap : Nat} {xs : List PA} (h : SRow w base g cap xs) {j : Nat} {x : PA} (hx : xs[j]? = some x) (t : Nat) (v : Value) (hv : x.cs[t]? = some v) : w.cell? ⟨g, j * 2 + t, none⟩ = some v := by
  have hc := pcells_at xs j t x v hx hv
  rcases h.own.row.2 with ⟨e, _⟩ | ⟨g', cap', cur, e, _, hg, _, _, _, htk⟩
  · cases e
  · simp only [Value.slice.injEq, Option.some.injEq, Addr.mk.injEq, and_true] at e
    obtain ⟨e0, _, _⟩ := e
    subst e0
    rw [cell_of_row _ _ _ _ _ _ hg, ← Array.getElem?_toList]
    rw [← htk] at hc
    rw [List.getElem?_take] at hc
    split at hc
    · exact hc
    · cases hc

/-- Products that are small. -/
def okP (p : Prd) : Prop := (∀ f ∈ p.fs, okF f) ∧ p.fs.length ≤ 2 ∧ aN p.fs ≠ 0
/-- The term of a product. -/
def TmOf (p : Prd) (t : TL) : Prop := Is t.c (if p.neg then -aN p.fs else aN p.fs) (aD p.fs) ∧ t.m = ⟨aX p.fs, 0, 0, 0⟩

/-- The terms that were reckoned. -/
structure PsSt (w1 wr : World) (v : Value) (qs : List TP) (ms : List TL) (xs : List PA) (j : Nat) : Prop where
  bel : Below w1.heap.size w1 wr
  own : TermsOwn wr w1.heap.size v qs ms
  len : qs.length = j
  len' : ms.length = j
  of : ∀ (i : Nat) x t, xs[i]? = some x → ms[i]? = some t → TmOf x.p t
theorem PsSt.put {w1 wr wx w' : World} {v v' : Value} {qs : List TP} {ms : List TL} {xs : List PA} {j : Nat} {x : PA} {p : TP} {t : TL} (h : PsSt w1 wr v qs ms xs j) (hx : xs[j]? = some x) (hb : Below wr.heap.size wr wx) (hp : TermAt wx p t) (ht : TmOf x.p t)
    (ho : OwnS w' w1.heap.size 49 7 v' (qs.length + 1) (tcells qs ++ p.cs)) (hg : wx.grownBy w' v.ownBlock) : PsSt w1 w' v' (qs ++ [p]) (ms ++ [t]) xs (j + 1) := by
  have hx' := h.own.below hb
  refine ⟨(chain h.bel hb).grown hg (chain h.bel hb).size (fun k hk => (hx'.own.row.lt k hk).1), hx'.put1 hp rfl ho hg, by simp [h.len], by simp [h.len'], fun i y s hy hs => ?_⟩
  by_cases e : i < j
  · rw [List.getElem?_append_left (by rw [h.len']; exact e)] at hs
    exact h.of i y s hy hs
  · have hi : i < (ms ++ [t]).length := (List.getElem?_eq_some_iff.1 hs).1
    simp [h.len'] at hi
    obtain rfl : i = j := by omega
    rw [List.getElem?_append_right (by rw [h.len']; exact Nat.le_refl _), h.len'] at hs
    simp at hs
    subst hs
    rw [hx] at hy
    injection hy with hy
    subst hy
    exact ht

set_option maxRecDepth 100000 in
set_option maxHeartbeats 4000000 in
theorem parse_ok (s : List UInt8) (w : World) (hs : s.length ≤ 2000) (hb : badF s = false) (hp : ∀ p ∈ (sumF s).1, okP p) (hl : (sumF s).1.length ≤ 100) :
    Calls Tryz.prog 21 #[.int .i64 0, .string (str s)] w fun e w' => ∃ lo n cap qs ms k ls, e = .returned (.tuple #[.slice lo n cap, .int .i64 k]) ∧ PolyAt w' lo n cap qs ms ∧ MakeIs 0 ls ms k ∧ ls.length = (sumF s).1.length ∧ (∀ (i : Nat) p t, (sumF s).1[i]? = some p → ls[i]? = some t → TmOf p t) ∧ Below w.heap.size w w' := by
  obtain ⟨i0, hi0, hz0, hz1, hz2⟩ := info_parts info39
  obtain ⟨T, hT⟩ : ∃ T, T = str s := ⟨_, rfl⟩
  have hsz : (T.size : Int) ≤ 2000 := by rw [hT, str_size]; omega
  have hszn : ¬ (2000 : Int) < (T.size : Int) := by omega
  obtain ⟨P, hP⟩ : ∃ P, P = (sumF s).1 := ⟨_, rfl⟩
  rw [← hP]
  have b1 := bel1 w (.cells #[.string (str s), .int .i64 0, .bool false] 76)
  have hbx : TxB (w.alloc (.cells #[.string (str s), .int .i64 0, .bool false] 76)) w.heap.size s 0 false := heap_alloc_new w _
  have H : Hid (s.length ≤ 2000 ∧ badF s = false ∧ (∀ p ∈ P, okP p) ∧ P.length ≤ 100 ∧ T = str s ∧ P = (sumF s).1 ∧ Below w.heap.size w (w.alloc (.cells #[.string (str s), .int .i64 0, .bool false] 76)) ∧ TxB (w.alloc (.cells #[.string (str s), .int .i64 0, .bool false] 76)) w.heap.size s 0 false) :=
    ⟨hs, hb, by rw [hP]; exact hp, by rw [hP]; exact hl, hT, hP, b1, hbx⟩
  rw [hT] at hsz hszn
  clear hs hb hp hl hT hP b1 hbx
  go_enter Tryz.func21, Tryz.ntmps21
  go_wp2_with fail
  refine (sum_b w.heap.size s _ H.out.2.2.2.2.2.2.2 (by have := H.out.1; omega)).mono ?_
  rintro e w1 ⟨g, cap, xs, rfl, q1, q2, ⟨j0, q3⟩, q4⟩
  rw [H.out.2.1] at q3
  rw [← H.out.2.2.2.2.2.1] at q2
  have hb1 : Below w.heap.size w w1 := below_grow H.out.2.2.2.2.2.2.1 q4 (Nat.le_refl _)
  obtain ⟨_, _, c2⟩ := q3.el
  have hxl : xs.length ≤ 100 := by have := congrArg List.length q2; rw [List.length_map] at this; have := H.out.2.2.2.1; omega
  obtain ⟨n, hn⟩ : ∃ n, n = xs.length := ⟨_, rfl⟩
  rw [← hn]
  have H1 : Hid (SRow w1 (w.alloc (.cells #[.string (str s), .int .i64 0, .bool false] 76)).heap.size g cap xs ∧ xs.map PA.p = P ∧ Below w.heap.size w w1 ∧ xs.length ≤ 100 ∧ n = xs.length) := ⟨q1, q2, hb1, hxl, hn⟩
  have hn100 : (n : Int) ≤ 100 := by omega
  clear q1 q2 q3 q4 hb1 hxl hn
  go_wp2_with fail
  have S0 : Hid (PsSt w1 (w1.alloc (.cells #[] 49)) (.slice (some ⟨w1.heap.size, 0, none⟩) 0 0) [] [] xs 0) :=
    ⟨bel1 _ _, TermsOwn.made w1 _ (Nat.le_refl _), rfl, rfl, fun i x t _ h => by simp at h⟩
  clear c2
  go_loopg [8, 9] n (fun m s8 s9 wr => ∃ (j : Nat) (v : Value) (qs : List TP) (ms : List TL), j ≤ n ∧ n - j ≤ m ∧ s8 = v ∧ s9 = .int .i64 j ∧ Hid (PsSt w1 wr v qs ms xs j))
  case atStart => exact ⟨0, _, [], [], Nat.zero_le _, by omega, rfl, rfl, S0.out⟩
  case round =>
    obtain ⟨j, v, qs, ms, hj, hjr, rfl, rfl, hO⟩ := hrel
    by_cases h0 : j < n
    · have hjn : (j : Int) < (n : Int) := by omega
      have hj0 : (0 : Int) ≤ (j : Int) := by omega
      obtain ⟨x, hxj⟩ : ∃ x, xs[j]? = some x := ⟨_, List.getElem?_eq_getElem (by have := H1.out.2.2.2.2; omega)⟩
      have hok : okP x.p := H.out.2.2.1 _ (by rw [← H1.out.2.1]; exact List.mem_map.2 ⟨x, List.mem_of_getElem? hxj, rfl⟩)
      have glt := H1.out.1.ge.2
      have x0 := (hO.out.bel.cell (p := ⟨g, j * 2 + 0, none⟩) glt).trans (H1.out.1.cell hxj 0 _ rfl)
      have x1 := (hO.out.bel.cell (p := ⟨g, j * 2 + 1, none⟩) glt).trans (H1.out.1.cell hxj 1 _ rfl)
      rw [Nat.add_zero] at x0
      have hfr := (H1.out.1.each x (List.mem_of_getElem? hxj)).grown (grown_below hO.out.bel none) (by simp)
      have HJ : Hid (j < n ∧ n - j ≤ _ ∧ xs[j]? = some x ∧ okP x.p ∧ FRow wr (w.alloc (.cells #[.string (str s), .int .i64 0, .bool false] 76)).heap.size x.g x.cap x.p.fs) := ⟨h0, hjr, hxj, hok, hfr⟩
      clear hj hjr h0 hxj hok glt hfr
      obtain ⟨lov, capv, hv, _, _⟩ := hO.out.own.poly
      subst hv
      obtain ⟨⟨ng, fs⟩, xg, xc⟩ := x
      dsimp only at x0 x1
      go_wp2_with fail
      refine (term_ok ng xg xc _ fs _ HJ.out.2.2.2.2 HJ.out.2.2.2.1.1 HJ.out.2.2.2.1.2.1 HJ.out.2.2.2.1.2.2).mono ?_
      rintro e w3 ⟨⟨tg, to', tn, tc, teo, ten, tec, ta, tb, tcc, td⟩, t, rfl, q1, q2, q3, q4⟩
      dsimp only at q1 ⊢
      have a3 := bel1 w3 (.cells #[.bool tg, .slice to' tn tc, .slice teo ten tec, .int .i64 ta, .int .i64 tb, .int .i64 tcc, .int .i64 td] 49)
      have mb := MBx.new w3 ⟨tg, to', tn, tc, teo, ten, tec, ta, tb, tcc, td⟩
      have H3 : Hid (Below wr.heap.size wr (w3.alloc (.cells #[.bool tg, .slice to' tn tc, .slice teo ten tec, .int .i64 ta, .int .i64 tb, .int .i64 tcc, .int .i64 td] 49)) ∧ TermAt (w3.alloc (.cells #[.bool tg, .slice to' tn tc, .slice teo ten tec, .int .i64 ta, .int .i64 tb, .int .i64 tcc, .int .i64 td] 49)) ⟨tg, to', tn, tc, teo, ten, tec, ta, tb, tcc, td⟩ t ∧ TmOf ⟨ng, fs⟩ t) := ⟨chain q4 a3, q1.below a3, q2, q3⟩
      obtain ⟨m0, m1, m2, m3, m4, m5, m6⟩ := mb.el
      dsimp only at m0 m1 m2 m3 m4 m5 m6
      clear q1 q2 q3 q4 a3 mb x0 x1
      go_upto_region 14 with fail
      generalize w3.alloc (.cells #[.bool tg, .slice to' tn tc, .slice teo ten tec, .int .i64 ta, .int .i64 tb, .int .i64 tcc, .int .i64 td] 49) = w4 at H3 m0 m1 m2 m3 m4 m5 m6 ⊢
      go_wp2_with (at_builtin; refine wpList_append_put _ rfl _ _ _ rfl w1.heap.size 49 i0 _ 7 88 Tryz.underlying22 hi0 hz0 hz1 hz2 rfl (by omega) zero39 _ qs.length (tcells qs) rfl ((hO.out.own.below (chain H3.out.1 (bel1 _ _))).own) ⟨w4.heap.size, 0, none⟩ 1 1 (TP.cs (⟨tg, to', tn, tc, teo, ten, tec, ta, tb, tcc, td⟩ : TP)) rfl rfl (World.news_of_block (heap_alloc_new w4 _)) (TP.cs_one (⟨tg, to', tn, tc, teo, ten, tec, ta, tb, tcc, td⟩ : TP)) (TP.cs_clean (⟨tg, to', tn, tc, teo, ten, tec, ta, tb, tcc, td⟩ : TP)) (by omega) (by have := hO.out.len; have := HJ.out.1; unfold maxLen; omega) (by have := hO.out.len; have := HJ.out.1; omega) (by have := hO.out.bel.size; have := H3.out.1.size; rw [World.size_alloc]; omega) ?_)
      intro g2 cap2 w5 hown hgrow
      have HN : Hid (PsSt w1 w5 (.slice (some ⟨g2, 0, none⟩) (qs.length + 1) cap2) (qs ++ [⟨tg, to', tn, tc, teo, ten, tec, ta, tb, tcc, td⟩]) (ms ++ [t]) xs (j + 1)) := hO.out.put HJ.out.2.2.1 (chain H3.out.1 (bel1 _ _)) (H3.out.2.1.below (bel1 _ _)) H3.out.2.2 hown hgrow
      clear hown hgrow m0 m1 m2 m3 m4 m5 m6
      go_wp2_with fail
      go_roundg (n - (j + 1))
      case measure => have := HJ.out.1; have := HJ.out.2.1; omega
      case rel => exact ⟨j + 1, _, _, _, by have := HJ.out.1; omega, Nat.le_refl _, rfl, by go_num, HN.out⟩
    · have hjn : j = n := by omega
      subst hjn
      obtain ⟨lov, capv, hv, hpv, _⟩ := hO.out.own.poly
      subst hv
      have hql := hO.out.len
      rw [hql] at hpv ⊢
      have HP : Hid (PolyAt wr lov j capv qs ms ∧ ms.length = j ∧ (∀ (i : Nat) x t, xs[i]? = some x → ms[i]? = some t → TmOf x.p t) ∧ Below w.heap.size w wr) := ⟨hpv, hO.out.len', hO.out.of, H1.out.2.2.1.trans (hO.out.bel.mono H1.out.2.2.1.size)⟩
      clear hO hj hjr h0 hpv hql
      go_wp2_with fail
      refine (rmake_b 0 _ _ _ _ _ _ HP.out.1 (by have := H1.out.2.2.2; omega)).mono ?_
      rintro e w6 ⟨lo', n', cap', rs, l, k, rfl, q1, q2, q3⟩
      have HF : Hid (PolyAt w6 lo' n' cap' rs l ∧ MakeIs 0 ms l k ∧ Below w.heap.size w w6) := ⟨q1, q2, chain HP.out.2.2.2 q3⟩
      clear q1 q2 q3
      go_wp2_with fail
      go_ret2
      refine ⟨lo', n', cap', rs, l, k, ms, rfl, HF.out.1, HF.out.2.1, ?_, ?_, HF.out.2.2⟩
      · rw [HP.out.2.1, ← H1.out.2.1, List.length_map]; exact H1.out.2.2.2.2
      · intro i p t hpi hti
        rw [← H1.out.2.1, List.getElem?_map] at hpi
        obtain ⟨x, hx, rfl⟩ := Option.map_eq_some_iff.1 hpi
        exact HP.out.2.2.1 i x t hx hti
end Go.Proofs.YtnedghhcidohnaaGreat

/-! Joined: PressW · PressX. -/
namespace Go.Proofs.YtnedghhcidohnaaGreat
open Go.RowKit

/-! ### What was put is got -/

theorem eb_nat {a : Int} (h : Mn.Ex a) : ((eb a).toNat : Int) = a := by
  have h0 := h.lo
  have h1 := h.hi
  obtain ⟨n, rfl⟩ := Int.eq_ofNat_of_zero_le h0
  simp [eb]
  omega
theorem TmIs.put {t : TL} (hm : MayT t) (hl : LimR t.c) (r : List UInt8) : TmIs (putTm t ++ r) (.ok (t, r)) := by
  refine ⟨.ok (t.c, [eb t.m.a, eb t.m.b, eb t.m.c, eb t.m.d] ++ r), ?_, ?_⟩
  · have := RatIs.put t.c hm.c hl ([eb t.m.a, eb t.m.b, eb t.m.c, eb t.m.d] ++ r)
    unfold putTm
    rw [List.append_assoc]
    exact this
  · unfold TmAft
    dsimp only
    rw [if_neg (by simp)]
    have h := hm.m
    unfold MayM at h
    simp only [List.cons_append, List.nil_append, List.getD_cons_zero, List.getD_cons_succ, eb_nat h.x, eb_nat h.y, eb_nat h.z, eb_nat h.u, List.drop_succ_cons, List.drop_zero]
theorem EachIs.put {A : Type} {one : List UInt8 → Except Int (A × List UInt8) → Prop} {f : A → List UInt8} : ∀ (l : List A), (∀ x ∈ l, ∀ r, one (f x ++ r) (.ok (x, r))) → ∀ r, EachIs one l.length (l.flatMap f ++ r) (.ok (l, r))
  | [], _, r => rfl
  | x :: l, h, r => by
    refine ⟨.ok (x, l.flatMap f ++ r), ?_, .ok (l, r), EachIs.put l (fun y hy => h y (.tail _ hy)) r, rfl⟩
    rw [List.flatMap_cons, List.append_assoc]
    exact h x (.head _) _
theorem ManyIs.put {A : Type} {one : List UInt8 → Except Int (A × List UInt8) → Prop} {f : A → List UInt8} {most : Nat} (l : List A) (hl : l.length ≤ most) (hm : most ≤ 60) (h : ∀ x ∈ l, ∀ r, one (f x ++ r) (.ok (x, r))) (r : List UInt8) : ManyIs one most (putL l.length ++ l.flatMap f ++ r) (.ok (l, r)) := by
  unfold ManyIs
  rw [List.append_assoc, numL_put l.length (by omega)]
  dsimp only
  rw [if_neg (by omega)]
  exact EachIs.put l h r
theorem GetIs.put {o : Int} {p : List TL} (hm : MayP o p) (hl : ∀ t ∈ p, LimR t.c) (r : List UInt8) : GetIs o (putPs p ++ r) (.ok (p, r)) :=
  ⟨.ok (p, r), ManyIs.put p hm.len (by omega) (fun t ht r => TmIs.put (hm.may t ht) (hl t ht) r) r, fun _ => rfl, fun h => absurd hm h⟩

/-! ### The sum -/

def TXT : List UInt8 := [50, 42, 120, 32, 45, 32, 51, 47, 52]
def P1 : Prd := ⟨false, [⟨-1, [50], []⟩, ⟨0, [49], []⟩]⟩
def P2 : Prd := ⟨true, [⟨-1, [51], [52]⟩]⟩
set_option maxRecDepth 100000 in
theorem sumT : (sumF TXT).1 = [P1, P2] := by rfl
set_option maxRecDepth 100000 in
theorem badT : badF TXT = false := by rfl

theorem isNum1 {c : UInt8} (h0 : 48 ≤ c.toNat) (h1 : c.toNat ≤ 57) : IsNum [c] := ⟨fun d hd => by simp at hd; subst hd; exact ⟨h0, h1⟩, .inl rfl⟩
theorem nv1 (c : UInt8) : nv [c] = (c.toNat : Int) - 48 := by simp [nv, dlist, dval]
theorem okP1 : okP P1 := by
  refine ⟨fun f hf => ?_, by simp [P1], by simp [P1, aN, fN, nv1]⟩
  simp [P1] at hf
  rcases hf with rfl | rfl
  · exact .inl ⟨rfl, ⟨isNum1 (by decide) (by decide), by simp [nv1], fun h => absurd rfl h, by simp⟩, by simp [nv1], by simp [lowN]⟩
  · exact .inr rfl
theorem okP2 : okP P2 := by
  refine ⟨fun f hf => ?_, by simp [P2], by simp [P2, aN, fN, nv1]⟩
  simp [P2] at hf
  subst hf
  exact .inl ⟨rfl, ⟨isNum1 (by decide) (by decide), by simp [nv1], fun _ => ⟨isNum1 (by decide) (by decide), by simp [nv1], by simp [nv1]⟩, by simp⟩, by simp [nv1], by simp [lowN, nv1]⟩

theorem Is.nz {r : RatL} {N D : Int} (h : Is r N D) (hN : N ≠ 0) : r.top ≠ 0 := by
  intro e
  have h1 := h.eq
  rw [e, Int.zero_mul] at h1
  rcases Int.mul_eq_zero.1 h1.symm with h2 | h2
  · exact hN h2
  · have := h.may.bot_pos h.lim; omega

theorem made_T {ls ms : List TL} {k : Int} (h : MakeIs 0 ls ms k) (hl : ls.length = 2) (ho : ∀ (i : Nat) p t, [P1, P2][i]? = some p → ls[i]? = some t → TmOf p t) : MayP 0 ms ∧ ms.length = 2 ∧ ∀ t ∈ ms, LimR t.c := by
  match ls, hl with
  | [t1, t2], _ =>
    have h1 := ho 0 P1 t1 rfl rfl
    have h2 := ho 1 P2 t2 rfl rfl
    have e1 : t1.m = ⟨1, 0, 0, 0⟩ := h1.2
    have e2 : t2.m = ⟨0, 0, 0, 0⟩ := h2.2
    have i1 := h1.1
    have i2 := h2.1
    have z1 : t1.c.top ≠ 0 := i1.nz (by simp [P1, aN, fN, nv1])
    have z2 : t2.c.top ≠ 0 := i2.nz (by simp [P2, aN, fN, nv1])
    have x0 : Mn.Ex 0 := ⟨by omega, by omega⟩
    have x1 : Mn.Ex 1 := ⟨by omega, by omega⟩
    have m1 : MayT t1 := ⟨i1.may, by unfold MayM; rw [e1]; exact ⟨x1, x0, x0, x0⟩⟩
    have m2 : MayT t2 := ⟨i2.may, by unfold MayM; rw [e2]; exact ⟨x0, x0, x0, x0⟩⟩
    have o0 : Ord 0 := ⟨by omega, by omega⟩
    have hne : t2.m ≠ t1.m := by rw [e1, e2]; intro e; injection e with e; omega
    have hup : UpM 0 t1.m t2.m := by rw [e1, e2]; exact ⟨fun _ => .inl (show (0 : Int) < 1 by omega), fun h => by omega, fun h => by omega⟩
    have hf : Falls 0 [t1, t2] := by
      refine List.pairwise_cons.2 ⟨fun t ht => ?_, List.pairwise_cons.2 ⟨fun t ht => by simp at ht, List.Pairwise.nil⟩⟩
      simp at ht
      subst ht
      exact hup
    have hmay : ∀ t ∈ [t1, t2], MayT t := by
      intro t ht
      simp at ht
      rcases ht with rfl | rfl
      · exact m1
      · exact m2
    obtain ⟨g, j, ha, _, hj⟩ := (h.ok ⟨o0, hmay⟩).out
    have ha1 := ha.1 rfl
    have ha2 := ha1.1 (by simp only [upd]; rw [if_neg hne])
    obtain ⟨hg, hj0⟩ := ha2
    obtain ⟨q, hq, hmem, hbig, hfew⟩ := hj hj0
    have hq2 : q = [t1, t2] := by
      refine falls_one o0 _ _ hq hf (fun t => ?_)
      rw [hmem, hg]
      constructor
      · rintro ⟨ht, _⟩
        by_cases c2 : t.m = t2.m
        · rw [c2, upd_self] at ht
          injection ht with ht
          have : t = t2 := TL.ext3 ht.symm c2
          simp [this]
        · rw [upd_ne c2] at ht
          by_cases c1 : t.m = t1.m
          · rw [c1, upd_self] at ht
            injection ht with ht
            have : t = t1 := TL.ext3 ht.symm c1
            simp [this]
          · rw [upd_ne c1] at ht
            cases ht
      · intro ht
        simp at ht
        rcases ht with rfl | rfl
        · exact ⟨by rw [upd_ne (Ne.symm hne), upd_self], z1⟩
        · exact ⟨by rw [upd_self], z2⟩
    obtain ⟨rfl, _⟩ := hfew (by rw [hq2]; simp)
    subst hq2
    refine ⟨⟨o0, by simp, hmay, ?_, hf⟩, rfl, ?_⟩
    · intro t ht
      simp at ht
      rcases ht with rfl | rfl
      · exact z1
      · exact z2
    · intro t ht
      simp at ht
      rcases ht with rfl | rfl
      · exact i1.lim
      · exact i2.lim
end Go.Proofs.YtnedghhcidohnaaGreat

/-! shown: that a polynomial is bytes, and back. -/
namespace Go.Proofs.YtnedghhcidohnaaGreat
open Go.RowKit

set_option maxRecDepth 100000 in
set_option maxHeartbeats 4000000 in
theorem shown_b (w : World) : Calls Tryz.prog 9 #[] w fun e w' => e = .returned (.bool true) ∧ Below w.heap.size w w' := by
  go_enter Tryz.func9, Tryz.ntmps9
  go_wp2_with fail
  refine (parse_ok TXT _ (by decide) badT (by rw [sumT]; intro p hp; simp at hp; rcases hp with rfl | rfl; exact okP1; exact okP2) (by rw [sumT]; simp)).mono ?_
  rintro e w1 ⟨lo, n, cap, qs, ms, k, ls, rfl, q1, q2, q3, q4, q5⟩
  rw [sumT] at q3 q4
  obtain ⟨hm, hlen, hlim⟩ := made_T q2 q3 q4
  have hn := q1.len
  rw [hlen] at hn
  subst hn
  obtain ⟨S, hS⟩ : ∃ S, S = putPs ms := ⟨_, rfl⟩
  have H1 : Hid (PolyAt w1 lo 2 cap qs ms ∧ MayP 0 ms ∧ (∀ t ∈ ms, LimR t.c) ∧ Below w.heap.size w w1 ∧ S = putPs ms) := ⟨q1, hm, hlim, q5, hS⟩
  have hsz : S.length ≤ 18249 := by rw [hS]; exact putPs_len (.inl hm)
  have hsz2 : ((str S).size : Int) ≤ 18249 := by rw [str_size]; omega
  have hap : str S ++ ({ data := #[122] } : ByteArray) = str (S ++ [122]) := str_append S [122]
  have hz1 : ({ data := #[122] } : ByteArray).size = 1 := rfl
  clear q1 q2 q3 q4 q5 hm hlen hlim hS
  go_wp2_with fail
  refine (put_b _ _ _ _ ms S 0 _ H1.out.1 (.inl ⟨.inl H1.out.2.1, H1.out.2.2.2.2, rfl⟩)).mono ?_
  rintro e w2 ⟨rfl, q1⟩
  have H2 : Hid (PolyAt w2 lo 2 cap qs ms ∧ Below w.heap.size w w2) := ⟨H1.out.1.below q1, chain H1.out.2.2.2.1 q1⟩
  clear q1
  go_wp2_with fail
  refine (get_b 0 (S ++ [122]) (.ok (ms, [122])) _ (by rw [H1.out.2.2.2.2]; exact GetIs.put H1.out.2.1 H1.out.2.2.1 [122]) (by simp; omega)).mono ?_
  rintro e w3 ⟨lo3, n3, cap3, qs3, ms3, R, k3, rfl, q1, ⟨rfl, rfl, rfl⟩, _, q2⟩
  have H3 : Hid (PolyAt w3 lo3 n3 cap3 qs3 ms3 ∧ PolyAt w3 lo 2 cap qs ms3 ∧ Below w.heap.size w w3) := ⟨q1, H2.out.1.below q2, chain H2.out.2 q2⟩
  clear q1 q2 hap hsz2 hz1 hsz
  have heq : ((str [122]).toList == [122]) = true := by rw [Lib.toList_data]; rfl
  go_wp2_with fail
  refine (rsame_b _ _ _ _ _ _ _ _ _ _ _ H3.out.2.1 H3.out.1 true ⟨fun _ => rfl, fun _ => rfl⟩).mono ?_
  rintro e w4 ⟨rfl, q1⟩
  have H4 : Hid (Below w.heap.size w w4) := chain H3.out.2.2 q1
  clear q1 heq
  go_wp2_with fail
  go_ret
  exact ⟨rfl, H4.out⟩

/-- Do the bounds hold? -/
def HvT (t : TL) : Prop := t.c.num.length ≤ 12 ∧ t.c.den.length ≤ 12
def Light (l : List (List TL)) : Prop := l.length ≤ 30 ∧ ∀ p ∈ l, p.length ≤ 80 ∧ ∀ t ∈ p, HvT t

set_option maxRecDepth 100000 in
set_option maxHeartbeats 4000000 in
theorem heavy_b (lo : Option Addr) (n cap : Nat) (lss : List (List TL)) (w : World) (h : ListAt w lo n lss) :
    Calls Tryz.prog 8 #[.slice lo n cap] w fun e w' => ∃ b : Bool, e = .returned (.bool b) ∧ (b = false → Light lss) ∧ Below w.heap.size w w' := by
  have hN := h.most
  have H : Hid (ListAt w lo n lss) := h
  clear h
  by_cases hn : n ≤ 30
  · have hn' : ¬ (30 : Int) < (n : Int) := by omega
    have hn0 : (0 : Int) ≤ (n : Int) := by omega
    have HL : Hid (n ≤ 30) := hn
    clear hn
    go_enter Tryz.func8, Tryz.ntmps8
    go_wp2_with fail
    go_loopg [3] n (fun m s3 wr => ∃ j : Nat, j ≤ n ∧ n - j ≤ m ∧ s3 = .int .i64 j ∧ Hid (wr = w ∧ ∀ (i : Nat) p, i < j → lss[i]? = some p → p.length ≤ 80 ∧ ∀ t ∈ p, HvT t))
    case atStart => exact ⟨0, Nat.zero_le _, by omega, rfl, rfl, fun i p hi => absurd hi (by omega)⟩
    case round =>
      obtain ⟨j, hj, hjr, rfl, hO⟩ := hrel
      obtain rfl := hO.out.1
      by_cases h0 : j < n
      · obtain ⟨bk, off, po, pn, pc, ps, x, rfl, hcell, hxj, hat, hblt⟩ := H.out.elem j h0
        have hjn : (j : Int) < (n : Int) := by omega
        have hj0 : (0 : Int) ≤ (j : Int) := by omega
        have hpm := hat.most'
        have HJ : Hid (j < n ∧ n - j ≤ _ ∧ lss[j]? = some x ∧ PolyAt wr po pn pc ps x) := ⟨h0, hjr, hxj, hat⟩
        clear hxj hat hblt hj hjr h0
        by_cases hp : pn ≤ 80
        · have hp' : ¬ (80 : Int) < (pn : Int) := by omega
          have hp0 : (0 : Int) ≤ (pn : Int) := by omega
          have HP : Hid (pn ≤ 80) := hp
          clear hp
          go_wp2_with fail
          go_loopg [4] pn (fun m s4 wy => ∃ i : Nat, i ≤ pn ∧ pn - i ≤ m ∧ s4 = .int .i64 i ∧ Hid (wy = wr ∧ ∀ (a : Nat) t, a < i → x[a]? = some t → HvT t))
          case atStart => exact ⟨0, Nat.zero_le _, by omega, rfl, rfl, fun i p hi => absurd hi (by omega)⟩
          case round =>
            obtain ⟨i, hi, hir, rfl, hI⟩ := hrel
            obtain rfl := hI.out.1
            by_cases i0 : i < pn
            · obtain ⟨tb, toff, p, t, rfl, hpi, hti, htat, hel, htlt⟩ := HJ.out.2.2.2.elem i0
              have hin : (i : Int) < (pn : Int) := by omega
              have hi0' : (0 : Int) ≤ (i : Int) := by omega
              obtain ⟨neg, no, nn, nc, eo, en, ec, pa, pb, pc', pd⟩ := p
              obtain ⟨_, e1, e2, _, _, _, _⟩ := hel
              dsimp only at e1 e2
              have l1 := htat.rat.num.len
              have l2 := htat.rat.den.len
              dsimp only at l1 l2
              have u1 := htat.rat.num.fits
              have u2 := htat.rat.den.fits
              have u3 := htat.rat.num.most
              have u4 := htat.rat.den.most
              dsimp only at u1 u2 u3 u4
              have v1 : (nn : Int) ≤ 9223372036854775807 := by unfold maxLen at u3; omega
              have v2 : (en : Int) ≤ 9223372036854775807 := by unfold maxLen at u4; omega
              have HI : Hid (i < pn ∧ pn - i ≤ _ ∧ x[i]? = some t ∧ t.c.num.length = nn ∧ t.c.den.length = en) := ⟨i0, hir, hti, l1, l2⟩
              clear hpi hti htat htlt hi hir i0 l1 l2 u1 u2 u3 u4
              by_cases a1 : nn ≤ 12
              · by_cases a2 : en ≤ 12
                · have a1' : ¬ (12 : Int) < (nn : Int) := by omega
                  have a2' : ¬ (12 : Int) < (en : Int) := by omega
                  have HA : Hid (nn ≤ 12 ∧ en ≤ 12) := ⟨a1, a2⟩
                  clear a1 a2
                  go_wp2_with fail
                  go_roundg (pn - (i + 1))
                  case measure => have := HI.out.1; have := HI.out.2.1; omega
                  case rel =>
                    refine ⟨i + 1, by have := HI.out.1; omega, Nat.le_refl _, by go_num, rfl, fun a s ha hs => ?_⟩
                    by_cases e : a = i
                    · subst e
                      rw [HI.out.2.2.1] at hs
                      injection hs with hs
                      subst hs
                      exact ⟨by rw [HI.out.2.2.2.1]; exact HA.out.1, by rw [HI.out.2.2.2.2]; exact HA.out.2⟩
                    · exact hI.out.2 a s (by omega) hs
                · have a1' : ¬ (12 : Int) < (nn : Int) := by omega
                  have a2' : (12 : Int) < (en : Int) := by omega
                  clear a1 a2
                  go_wp2_with fail
                  go_ret
                  first | exact ⟨true, rfl, fun e => (by cases e), Below.refl _ _⟩ | exact .inr ⟨rfl, Below.refl _ _⟩
              · have a1' : (12 : Int) < (nn : Int) := by omega
                clear a1
                go_wp2_with fail
                go_ret
                first | exact ⟨true, rfl, fun e => (by cases e), Below.refl _ _⟩ | exact .inr ⟨rfl, Below.refl _ _⟩
            · have hin : i = pn := by omega
              have HF : Hid (∀ t ∈ x, HvT t) := fun t ht => by
                obtain ⟨a, ha, rfl⟩ := List.mem_iff_getElem.1 ht
                exact hI.out.2 a _ (by have := HJ.out.2.2.2.len; omega) (List.getElem?_eq_getElem ha)
              subst hin
              clear hI hi hir i0
              go_wp2_with fail
              go_roundg (n - (j + 1))
              case measure => have := HJ.out.1; have := HJ.out.2.1; omega
              case rel =>
                refine ⟨j + 1, by have := HJ.out.1; omega, Nat.le_refl _, by go_num, rfl, fun a s ha hs => ?_⟩
                by_cases e : a = j
                · subst e
                  rw [HJ.out.2.2.1] at hs
                  injection hs with hs
                  subst hs
                  exact ⟨by have := HJ.out.2.2.2.len; have := HP.out; omega, HF.out⟩
                · exact hO.out.2 a s (by omega) hs
        · have hp' : (80 : Int) < (pn : Int) := by omega
          clear hp
          go_wp2_with fail
          go_ret
          first | exact ⟨true, rfl, fun e => (by cases e), Below.refl _ _⟩ | exact .inr ⟨rfl, Below.refl _ _⟩
      · have hjn : j = n := by omega
        have HF : Hid (Light lss) := ⟨by have := H.out.len; have := HL.out; omega, fun p hp => by
          obtain ⟨a, ha, rfl⟩ := List.mem_iff_getElem.1 hp
          exact hO.out.2 a _ (by have := H.out.len; omega) (List.getElem?_eq_getElem ha)⟩
        subst hjn
        clear hO hj hjr h0
        go_wp2_with fail
        go_ret
        first | exact ⟨false, rfl, fun _ => HF.out, Below.refl _ _⟩ | exact .inl ⟨rfl, HF.out, Below.refl _ _⟩
  · have hn' : (30 : Int) < (n : Int) := by omega
    clear hn
    go_enter Tryz.func8, Tryz.ntmps8
    go_wp2_with fail
    go_ret
    first | exact ⟨true, rfl, fun e => (by cases e), Below.refl _ _⟩ | exact .inr ⟨rfl, Below.refl _ _⟩
end Go.Proofs.YtnedghhcidohnaaGreat
