/-
  Joined: PolyH · PolyI.
-/
import Derived.Test.YtbdldijgcmgfaaaGreatJR1
import Derived.Maps.RangeWalk
import Derived.Maps.OwnSet
import Derived.DeepKeys4
import Derived.MapViews
import Derived.Test.YtbdldijgcmgfaaaGreatJN1

/-! Monomials as keys of a map; what a map of numbers has. -/
namespace Go.Proofs.YtbdldijgcmgfaaaGreat
open Go.RowKit Go.Maps Go.ChangeShapes Go.WideShapes Go.ChangeAt

def Mval (m : Mo) : Value := .agg #[.int .i64 m.a, .int .i64 m.b, .int .i64 m.c, .int .i64 m.d]

theorem laidOut' : laidOutB Tryz.prog = true := by kernel_rfl
theorem row37 : 37 < Tryz.prog.types.size := by
  have : decide (37 < Tryz.prog.types.size) = true := by kernel_rfl
  exact of_decide_eq_true this
theorem wide37 : (match Tryz.prog.underlying 37 with | some (.array _ _) | some (.struct _) => true | _ => false) = true := by kernel_rfl
theorem deep37 : Tryz.prog.keyTypeAt (Tryz.prog.types.size + 1) 37 = true := by kernel_rfl
set_option maxRecDepth 100000 in
theorem keyed37 : Keyed Tryz.prog 37 := Keyed.of_law (deep_law_laid laidOut' (m := 2) (by omega) row37 (by kernel_rfl) wide37)
theorem cells37 : Tryz.prog.cellsOf 37 = 4 := by kernel_rfl
theorem cells3' : Tryz.prog.cellsOf 3 = 1 := by kernel_rfl
set_option maxRecDepth 100000 in
theorem formed37 {c0 c1 c2 c3 : Value} : (Value.agg #[c0, c1, c2, c3]).formed Tryz.prog 37 = true := by
  simp [Value.formed, Tryz.underlying37, cells37]

set_option maxRecDepth 100000 in
theorem wf_may {a : Int} (h : Mn.Ex a) : (Lit.int .i64 a).wf = true := by
  have h0 := h.lo
  have h1 := h.hi
  refine WalkArith.wf_i64 ?_
  omega

set_option maxRecDepth 100000 in
theorem key_ex (m : Mo) (h : MayM m) : ∃ l, keyOf Tryz.prog 37 (Mval m) = some l := by
  have w0 := wf_may h.x
  have w1 := wf_may h.y
  have w2 := wf_may h.z
  have w3 := wf_may h.u
  have hd : DataW.Trod (H := Unit) (fun _ => ()) Tryz.prog default 0 (fun _ => false) false 37 (Mval m) (.agg [.lit (.int .i64 m.a), .lit (.int .i64 m.b), .lit (.int .i64 m.c), .lit (.int .i64 m.d)]) [] := by
    refine ⟨2, ?_⟩
    have r4 : List.range 4 = [0, 1, 2, 3] := rfl
    show DataW.trod _ Tryz.prog _ _ _ _ 2 37 [.int .i64 m.a, .int .i64 m.b, .int .i64 m.c, .int .i64 m.d] = _
    unfold DataW.trod
    rw [Tryz.underlying37]
    simp [r4, cells3', cells37, DataW.trod, Tryz.underlying3, w0, w1, w2, w3]
  exact ⟨_, (keyOf_asKey deep37 wide37 formed37 hd).1⟩

set_option maxRecDepth 100000 in
theorem lit_int {d : Nat} {c : Value} {L : List Lit} (h : Tryz.prog.keyLits (d + 1) 3 [c] = some L) : ∃ n, c = .int .i64 n := by
  unfold Program.keyLits at h
  rw [Tryz.underlying3] at h
  cases c <;> simp at h
  rename_i q n
  obtain ⟨⟨rfl, _⟩, _⟩ := h
  exact ⟨n, rfl⟩

set_option maxRecDepth 100000 in
theorem key_inv {v : Value} {l : Lit} (h : keyOf Tryz.prog 37 v = some l) : ∃ m, v = Mval m := by
  obtain ⟨xs, L, rfl, hL, _⟩ := keyOf_top wide37 h
  obtain ⟨ys⟩ := xs
  have r4 : List.range 4 = [0, 1, 2, 3] := rfl
  unfold Program.keyLits at hL
  rw [Tryz.underlying37] at hL
  simp only [cells37, cells3', r4] at hL
  split at hL
  · rename_i hlen
    match ys, hlen with
    | [c0, c1, c2, c3], _ =>
      simp at hL
      obtain ⟨L0, h0, hL⟩ := Option.bind_eq_some_iff.1 hL
      simp only [Function.comp, Option.map_eq_some_iff] at hL
      obtain ⟨Z, hL, _⟩ := hL
      obtain ⟨Z1, hL, _⟩ := Option.bind_eq_some_iff.1 hL
      obtain ⟨L1, h1, hL⟩ := Option.bind_eq_some_iff.1 hL
      obtain ⟨Z2, hL, _⟩ := Option.bind_eq_some_iff.1 hL
      obtain ⟨L2, h2, hL⟩ := Option.bind_eq_some_iff.1 hL
      obtain ⟨Z3, hL, _⟩ := Option.bind_eq_some_iff.1 hL
      obtain ⟨L3, h3, hL⟩ := Option.bind_eq_some_iff.1 hL
      obtain ⟨n0, rfl⟩ := lit_int h0
      obtain ⟨n1, rfl⟩ := lit_int h1
      obtain ⟨n2, rfl⟩ := lit_int h2
      obtain ⟨n3, rfl⟩ := lit_int h3
      exact ⟨⟨n0, n1, n2, n3⟩, rfl⟩
  · cases hL

/-- How a number stands as a map's element. -/
def ratElem : Value → Option (DataW Value × List MemPlace)
  | .agg ⟨[.bool g, .slice no nn nc, .slice eo en ec]⟩ => some (.held (.agg #[.bool g, .slice no nn nc, .slice eo en ec]), [])
  | _ => none

structure RQ where
  g : Bool
  no : Option Addr
  nn : Nat
  nc : Nat
  eo : Option Addr
  en : Nat
  ec : Nat
def RQ.v (p : RQ) : Value := .agg #[.bool p.g, .slice p.no p.nn p.nc, .slice p.eo p.en p.ec]

theorem ratElem_mk (p : RQ) : ratElem p.v = some (.held p.v, []) := rfl
theorem ratElem_inv {v : Value} {y : DataW Value × List MemPlace} (h : ratElem v = some y) : ∃ c : RQ, v = c.v := by
  unfold ratElem at h
  split at h
  · exact ⟨⟨_, _, _, _, _, _, _⟩, rfl⟩
  · cases h
theorem ratElem_one {p q : RQ} {ps : List MemPlace} (h : ratElem p.v = some (.held q.v, ps)) : p = q := by
  rw [ratElem_mk] at h
  simp [RQ.v] at h
  cases p; cases q; simp_all

/-- A number's parts in memory. -/
structure RQAt (W : World) (p : RQ) (r : RatL) : Prop where
  rat : RatAt W p.no p.nn p.nc p.eo p.en p.ec r
  neg : r.neg = p.g
theorem RQAt.below {w w' : World} {p : RQ} {r : RatL} (h : RQAt w p r) (hb : Below w.heap.size w w') : RQAt w' p r := ⟨h.rat.below hb, h.neg⟩

/-- What a map of numbers has. -/
structure MapAt (W : World) (D : DataW Value) (f : Mo → Option RatL) : Prop where
  map : IsMap D
  no : ∀ m l, keyOf Tryz.prog 37 (Mval m) = some l → f m = none → has D l = false
  yes : ∀ m l r, keyOf Tryz.prog 37 (Mval m) = some l → f m = some r → has D l = true ∧ ∃ p : RQ, (∀ z, D.atKey l z = .held p.v) ∧ RQAt W p r
  all : ∀ l, has D l = true → ∃ m r, keyOf Tryz.prog 37 (Mval m) = some l ∧ f m = some r
  may : ∀ m r, f m = some r → MayM m ∧ MayR r

theorem MapAt.none (W : World) : MapAt W (.map []) (fun _ => none) := ⟨isMap_empty, fun _ _ _ _ => rfl, (fun _ _ _ _ h => by cases h), (fun _ h => by simp [has] at h), (fun _ _ h => by cases h)⟩

theorem mval_inj {m n : Mo} (h : Mval m = Mval n) : m = n := by
  simp [Mval] at h
  exact Mo.ext4 h.1 h.2.1 h.2.2.1 h.2.2.2
theorem key_one {m n : Mo} {l : Lit} (h : keyOf Tryz.prog 37 (Mval m) = some l) (g : keyOf Tryz.prog 37 (Mval n) = some l) : m = n := mval_inj (keyed37.inj h g)

theorem MapAt.put {W W' : World} {D : DataW Value} {f : Mo → Option RatL} (h : MapAt W D f) {m : Mo} {l : Lit} (hl : keyOf Tryz.prog 37 (Mval m) = some l) {p : RQ} {x : RatL} (hx : RQAt W' p x) (hm : MayM m) (hr : MayR x)
    (hk : ∀ p r, RQAt W p r → RQAt W' p r) : MapAt W' (D.put l (.held p.v)) (upd f m x) := by
  have hkl := keyed37.key hl
  refine ⟨h.map.put _ _, fun n j hj hf => ?_, fun n j r hj hf => ?_, fun j hj => ?_, fun n r hf => ?_⟩
  · by_cases e : n = m
    · rw [e, upd_self] at hf; cases hf
    · rw [upd_ne e] at hf
      have hne : j ≠ l := fun e2 => e (key_one hj (e2 ▸ hl))
      rw [has_put_other hne]
      exact h.no n j hj hf
  · by_cases e : n = m
    · rw [e] at hf hj
      rw [upd_self] at hf
      injection hf with hf
      subst hf
      have e2 : j = l := Option.some.inj (hj.symm.trans hl)
      subst e2
      exact ⟨has_put_same h.map hkl _, p, fun z => atKey_put_same h.map hkl _ z, hx⟩
    · rw [upd_ne e] at hf
      have hne : j ≠ l := fun e2 => e (key_one hj (e2 ▸ hl))
      obtain ⟨h1, q, h2, h3⟩ := h.yes n j r hj hf
      exact ⟨by rw [has_put_other hne]; exact h1, q, fun z => by rw [atKey_put_other hne]; exact h2 z, hk _ _ h3⟩
  · by_cases e : j = l
    · exact ⟨m, x, by rw [e]; exact hl, upd_self _ _ _⟩
    · rw [has_put_other e] at hj
      obtain ⟨n, r, h1, h2⟩ := h.all j hj
      have hne : n ≠ m := fun e2 => e (Option.some.inj (h1.symm.trans (e2 ▸ hl)))
      exact ⟨n, r, h1, by rw [upd_ne hne]; exact h2⟩
  · by_cases e : n = m
    · rw [e, upd_self] at hf
      injection hf with hf
      rw [e, ← hf]
      exact ⟨hm, hr⟩
    · rw [upd_ne e] at hf
      exact h.may n r hf
theorem MapAt.below {w w' : World} {D : DataW Value} {f : Mo → Option RatL} (h : MapAt w D f) (hb : Below w.heap.size w w') : MapAt w' D f :=
  ⟨h.map, h.no, fun m l r hl hf => let ⟨a, p, b, c⟩ := h.yes m l r hl hf; ⟨a, p, b, c.below hb⟩, h.all, h.may⟩
end Go.Proofs.YtbdldijgcmgfaaaGreat

/-! likeTerms: the map of the sums of like terms. -/
namespace Go.Proofs.YtbdldijgcmgfaaaGreat
open Go.RowKit Go.Maps

theorem drop_at2 {A : Type} (l : List A) (i : Nat) (a : A) (h : l[i]? = some a) : l.drop i = a :: l.drop (i + 1) := by
  obtain ⟨hl, rfl⟩ := List.getElem?_eq_some_iff.1 h
  exact List.drop_eq_getElem_cons hl

theorem zero35 (w : World) : (zeroValue 35).run Tryz.prog w = .ok (.agg #[.bool false, .slice none 0 0, .slice none 0 0]) w := by kernel_rfl

theorem wpList_look_yes {w : World} {ops : Array Oper} {rest : List Oper} {o : Oper} {a : Act} {Q : Exit → Act → World → Prop} (hg : o.guard = none) (m x : Operand) (hop : o.op = Op.lookup 85 m x true)
    (b n : Nat) (D : DataW Value) (hm : a.eval m = .map (some b)) (hown : w.ownsMap Tryz.prog 37 ratElem b n D) (key : Value) (kl : Lit) (hx : a.eval x = key) (hkey : keyOf Tryz.prog 37 key = some kl)
    (p : RQ) (hh : has D kl = true) (hD : ∀ z, D.atKey kl z = .held p.v)
    (hK : wpList Tryz.prog ops Q rest (a.put o.dst (.tuple #[.agg #[.bool p.g, .slice p.no p.nn p.nc, .slice p.eo p.en p.ec], .bool true])) w) : wpList Tryz.prog ops Q (o :: rest) a w := by
  refine wpList_lookup_own_ok _ hg m x 85 hop 37 35 keyed37 Tryz.underlying85 ratElem (zero35 w) _ _ (ratElem_mk ⟨false, none, 0, 0, none, 0, 0⟩) b n D hm hown key kl hx hkey ?_
  intro v ps hv
  obtain ⟨c, rfl⟩ := ratElem_inv hv
  rw [hD] at hv
  obtain rfl := ratElem_one hv
  rw [hh]
  exact hK
theorem wpList_look_no {w : World} {ops : Array Oper} {rest : List Oper} {o : Oper} {a : Act} {Q : Exit → Act → World → Prop} (hg : o.guard = none) (m x : Operand) (hop : o.op = Op.lookup 85 m x true)
    (b n : Nat) (D : DataW Value) (hm : a.eval m = .map (some b)) (hown : w.ownsMap Tryz.prog 37 ratElem b n D) (key : Value) (kl : Lit) (hx : a.eval x = key) (hkey : keyOf Tryz.prog 37 key = some kl)
    (hh : has D kl = false)
    (hK : wpList Tryz.prog ops Q rest (a.put o.dst (.tuple #[.agg #[.bool false, .slice none 0 0, .slice none 0 0], .bool false])) w) : wpList Tryz.prog ops Q (o :: rest) a w := by
  refine wpList_lookup_own_ok _ hg m x 85 hop 37 35 keyed37 Tryz.underlying85 ratElem (zero35 w) _ _ (ratElem_mk ⟨false, none, 0, 0, none, 0, 0⟩) b n D hm hown key kl hx hkey ?_
  intro v ps hv
  obtain ⟨c, rfl⟩ := ratElem_inv hv
  rw [atKey_of_not_has hh] at hv
  obtain rfl := ratElem_one hv
  rw [hh]
  exact hK

/-- A map's block holds no limbs. -/
theorem RowAt.grownMap {w w' : World} {b : Nat} {es : Array MapEntry} {cl : Nat} {ao : Option Addr} {n cap : Nat} {xs : List Int} (h : RowAt w ao n cap xs) (hg : w.grownBy w' (some b)) (hm : w.heap[b]? = some (.map es cl)) : RowAt w' ao n cap xs := by
  refine ⟨h.len, h.limbs, h.fits, h.most, h.bare, fun hne => ?_⟩
  obtain ⟨b1, off, e1, hlt, hcc⟩ := h.cells hne
  have hbr : some b1 ≠ some b := by
    intro e
    injection e with e
    subst e
    have := hcc 0 (List.length_pos_iff.2 hne)
    simp [World.cell?, hm] at this
  exact ⟨b1, off, e1, Nat.lt_of_lt_of_le hlt hg.size, fun j hj => (World.cell?_of_block (a := ⟨b1, off + j, none⟩) (hg.block b1 hlt hbr)).trans (hcc j hj)⟩
theorem RQAt.grownMap {w w' : World} {b n : Nat} {D : DataW Value} {p : RQ} {r : RatL} (h : RQAt w p r) (hg : w.grownBy w' (some b)) (hm : w.ownsMap Tryz.prog 37 ratElem b n D) : RQAt w' p r := by
  obtain ⟨es, cl, hb, _⟩ := hm
  exact ⟨⟨h.rat.num.grownMap hg hb, h.rat.den.grownMap hg hb⟩, h.neg⟩

theorem owns_below {w w' : World} {b n : Nat} {D : DataW Value} (h : w.ownsMap Tryz.prog 37 ratElem b n D) (hb : Below w.heap.size w w') : w'.ownsMap Tryz.prog 37 ratElem b n D := by
  have hlt := h.lt
  obtain ⟨es, clock, hb', F, hs, hD⟩ := h
  exact ⟨es, clock, (hb.block b hlt).trans hb', F, hs, hD⟩

/-- The map, and what it has. -/
structure LikeSt (w W : World) (k : Nat) (D : DataW Value) (f : Mo → Option RatL) : Prop where
  bel : Below w.heap.size w W
  own : W.ownsMap Tryz.prog 37 ratElem w.heap.size k D
  map : MapAt W D f
theorem LikeSt.below {w W W' : World} {k : Nat} {D : DataW Value} {f : Mo → Option RatL} (h : LikeSt w W k D f) (hb : Below W.heap.size W W') : LikeSt w W' k D f := ⟨chain h.bel hb, owns_below h.own hb, h.map.below hb⟩

theorem Acc.step0 {t : TL} {l : List TL} {f g : Mo → Option RatL} {k : Int} (hf : f t.m = none) (h : Acc l (upd f t.m t.c) g k) : Acc (t :: l) f g k := ⟨fun _ => h, fun r hr => by rw [hf] at hr; cases hr⟩
theorem Acc.step1 {t : TL} {l : List TL} {f g : Mo → Option RatL} {k : Int} {r x : RatL} (hf : f t.m = some r) (hx : AddOut r t.c x 0) (h : Acc l (upd f t.m x) g k) : Acc (t :: l) f g k :=
  ⟨(fun e => by rw [hf] at e; cases e), fun s hs => by rw [hf] at hs; injection hs with hs; subst hs; exact ⟨x, 0, hx, fun _ => h, fun e => absurd rfl e⟩⟩
theorem Acc.stop {t : TL} {l : List TL} {f g : Mo → Option RatL} {k : Int} {r x : RatL} (hf : f t.m = some r) (hx : AddOut r t.c x k) (hk : k ≠ 0) : Acc (t :: l) f g k :=
  ⟨(fun e => by rw [hf] at e; cases e), fun s hs => by rw [hf] at hs; injection hs with hs; subst hs; exact ⟨x, k, hx, fun e => absurd e hk, fun _ => rfl⟩⟩

set_option maxRecDepth 100000 in
set_option maxHeartbeats 16000000 in
theorem like_r (lo : Option Addr) (n cap : Nat) (ps : List TP) (ls : List TL) (w : World) (h : PolyAt w lo n cap ps ls) (hm : ∀ s ∈ ls, MayT s) :
    Calls Tryz.prog 59 #[.slice lo n cap] w fun e w' => ∃ mo k f, e = .returned (.tuple #[.map mo, .int .i64 k]) ∧ Acc ls (fun _ => none) f k ∧ (k = 0 → mo = some w.heap.size ∧ ∃ kk D, LikeSt w w' kk D f ∧ kk ≤ n) ∧ Below w.heap.size w w' := by
  have hN := h.most'
  have hNm : n ≤ maxLen := Nat.le_trans h.fits h.most
  have H : Hid (PolyAt w lo n cap ps ls ∧ (∀ s ∈ ls, MayT s) ∧ n ≤ maxLen) := ⟨h, hm, hNm⟩
  have H0 : Hid (LikeSt w (w.alloc (.map #[] 0)) 0 (.map []) (fun _ => none)) := ⟨bel1 _ _, World.ownsMap_made w Tryz.prog 37 ratElem, MapAt.none _⟩
  have hmm := @run_makeMap Tryz.prog
  clear h hm hNm
  go_enter Tryz.func59, Tryz.ntmps59
  go_wp2_with fail
  go_loopg [14] n (fun m i wr => ∃ (j kk : Nat) (D : DataW Value) (f : Mo → Option RatL), j ≤ n ∧ n - j ≤ m ∧ i = .int .i64 j ∧ Hid (LikeSt w wr kk D f ∧ kk ≤ j ∧ ∀ g k, Acc (ls.drop j) f g k → Acc ls (fun _ => none) g k))
  case atStart => exact ⟨0, 0, _, _, Nat.zero_le _, by omega, rfl, H0.out, Nat.le_refl _, fun g k h => h⟩
  case round =>
    obtain ⟨j, kk, D, f, hj, hjr, rfl, hO⟩ := hrel
    by_cases h0 : j < n
    · obtain ⟨bk, off, p, t, rfl, hpj, htj, hat, hel, hblt⟩ := (H.out.1.below hO.out.1.bel).elem h0
      have hjn : (j : Int) < (n : Int) := by omega
      have hj0 : (0 : Int) ≤ (j : Int) := by omega
      obtain ⟨pg, no, nn, nc, eo, en, ec, pa, pb, pc, pd⟩ := p
      obtain ⟨e0, e1, e2, e3, e4, e5, e6⟩ := hel
      dsimp only at e0 e1 e2 e3 e4 e5 e6
      have hmt := H.out.2.1 t (List.mem_of_getElem? htj)
      obtain ⟨kl, hkl⟩ := key_ex t.m hmt.m
      have hb2 : Below wr.heap.size wr ((wr.alloc (.cells #[.bool pg, .slice no nn nc, .slice eo en ec, .int .i64 pa, .int .i64 pb, .int .i64 pc, .int .i64 pd] 39)).alloc (.cells #[.bool pg, .slice no nn nc, .slice eo en ec] 35)) := below2' _ _ _
      have bx := (MBx.new wr ⟨pg, no, nn, nc, eo, en, ec, pa, pb, pc, pd⟩).below (bel1 _ (.cells #[.bool pg, .slice no nn nc, .slice eo en ec] 35))
      have cx := RBox.new (wr.alloc (.cells #[.bool pg, .slice no nn nc, .slice eo en ec, .int .i64 pa, .int .i64 pb, .int .i64 pc, .int .i64 pd] 39)) pg no nn nc eo en ec
      rw [World.size_alloc] at cx
      dsimp only at bx
      have HJ : Hid (j < n ∧ n - j ≤ _ ∧ ls[j]? = some t ∧ MayT t ∧ keyOf Tryz.prog 37 (Mval t.m) = some kl ∧ t.m = ⟨pa, pb, pc, pd⟩ ∧ ls.drop j = t :: ls.drop (j + 1)) := ⟨h0, hjr, htj, hmt, hkl, hat.mo, drop_at2 ls j t htj⟩
      have HL : Hid (LikeSt w ((wr.alloc (.cells #[.bool pg, .slice no nn nc, .slice eo en ec, .int .i64 pa, .int .i64 pb, .int .i64 pc, .int .i64 pd] 39)).alloc (.cells #[.bool pg, .slice no nn nc, .slice eo en ec] 35)) kk D f ∧ TermAt ((wr.alloc (.cells #[.bool pg, .slice no nn nc, .slice eo en ec, .int .i64 pa, .int .i64 pb, .int .i64 pc, .int .i64 pd] 39)).alloc (.cells #[.bool pg, .slice no nn nc, .slice eo en ec] 35)) ⟨pg, no, nn, nc, eo, en, ec, pa, pb, pc, pd⟩ t ∧ MBx ((wr.alloc (.cells #[.bool pg, .slice no nn nc, .slice eo en ec, .int .i64 pa, .int .i64 pb, .int .i64 pc, .int .i64 pd] 39)).alloc (.cells #[.bool pg, .slice no nn nc, .slice eo en ec] 35)) wr.heap.size ⟨pg, no, nn, nc, eo, en, ec, pa, pb, pc, pd⟩ ∧ RBox ((wr.alloc (.cells #[.bool pg, .slice no nn nc, .slice eo en ec, .int .i64 pa, .int .i64 pb, .int .i64 pc, .int .i64 pd] 39)).alloc (.cells #[.bool pg, .slice no nn nc, .slice eo en ec] 35)) (wr.heap.size + 1) pg no nn nc eo en ec) := ⟨hO.out.1.below hb2, hat.below hb2, bx, cx⟩
      have hkey : Hid (keyOf Tryz.prog 37 (.agg #[.int .i64 pa, .int .i64 pb, .int .i64 pc, .int .i64 pd]) = some kl) := by
        have h := hkl
        rw [hat.mo] at h
        exact h
      have HB : Hid (w.heap.size < wr.heap.size) := hO.out.1.own.lt
      clear hpj htj hat hblt hj hjr h0 hkl hb2 bx cx hmt
      cases hf : f t.m with
      | none =>
        have HF : Hid (f t.m = none ∧ has D kl = false) := ⟨hf, HL.out.1.map.no _ _ HJ.out.2.2.2.2.1 hf⟩
        clear hf
        have hb3 := bel1 ((wr.alloc (.cells #[.bool pg, .slice no nn nc, .slice eo en ec, .int .i64 pa, .int .i64 pb, .int .i64 pc, .int .i64 pd] 39)).alloc (.cells #[.bool pg, .slice no nn nc, .slice eo en ec] 35)) (.cells #[.bool false, .slice none 0 0, .slice none 0 0] 35)
        have HV : Hid (LikeSt w (((wr.alloc (.cells #[.bool pg, .slice no nn nc, .slice eo en ec, .int .i64 pa, .int .i64 pb, .int .i64 pc, .int .i64 pd] 39)).alloc (.cells #[.bool pg, .slice no nn nc, .slice eo en ec] 35)).alloc (.cells #[.bool false, .slice none 0 0, .slice none 0 0] 35)) kk D f ∧ RQAt (((wr.alloc (.cells #[.bool pg, .slice no nn nc, .slice eo en ec, .int .i64 pa, .int .i64 pb, .int .i64 pc, .int .i64 pd] 39)).alloc (.cells #[.bool pg, .slice no nn nc, .slice eo en ec] 35)).alloc (.cells #[.bool false, .slice none 0 0, .slice none 0 0] 35)) ⟨pg, no, nn, nc, eo, en, ec⟩ t.c) := ⟨HL.out.1.below hb3, ⟨(HL.out.2.1.below hb3).rat, HL.out.2.1.neg⟩⟩
        clear hb3
        go_wp2_with (first
          | (at_lookup; refine wpList_look_no rfl _ _ rfl w.heap.size kk D rfl HL.out.1.own _ kl rfl hkey.out HF.out.2 ?_)
          | (at_mapUpdate; refine wpList_mapUpdate_own _ rfl _ _ _ 85 rfl 37 35 keyed37 Tryz.underlying85 ratElem w.heap.size kk D rfl HV.out.1.own (by have := hO.out.2.1; have := H.out.2.2; have := HJ.out.1; omega) _ _ kl rfl rfl hkey.out _ _ (ratElem_mk ⟨pg, no, nn, nc, eo, en, ec⟩) ?_))
        intro w5 hown hgrow
        have H5 : Hid (LikeSt w w5 (kk + 1) (D.put kl (.held (RQ.v ⟨pg, no, nn, nc, eo, en, ec⟩))) (upd f t.m t.c)) := ⟨HV.out.1.bel.grown hgrow HV.out.1.bel.size (fun k hk => by cases hk; exact Nat.le_refl _), hown, HV.out.1.map.put HJ.out.2.2.2.2.1 (HV.out.2.grownMap hgrow HV.out.1.own) HJ.out.2.2.2.1.m HJ.out.2.2.2.1.c (fun p r h => h.grownMap hgrow HV.out.1.own)⟩
        clear hown hgrow e0 e1 e2 e3 e4 e5 e6
        go_wp2
        go_roundg (n - (j + 1))
        case measure => have := HJ.out.1; have := HJ.out.2.1; omega
        case rel => exact ⟨j + 1, kk + 1, _, _, by have := HJ.out.1; omega, Nat.le_refl _, by go_num, H5.out, by have := hO.out.2.1; omega, fun g k h => hO.out.2.2 g k (by rw [HJ.out.2.2.2.2.2.2]; exact Acc.step0 HF.out.1 h)⟩
      | some r =>
        obtain ⟨hh, q, hq1, hq2⟩ := HL.out.1.map.yes _ _ r HJ.out.2.2.2.2.1 hf
        obtain ⟨qg, qo, qn, qc, ro, rn, rc⟩ := q
        have HF : Hid (f t.m = some r ∧ has D kl = true ∧ (∀ z, D.atKey kl z = .held (RQ.v ⟨qg, qo, qn, qc, ro, rn, rc⟩)) ∧ MayR r) := ⟨hf, hh, hq1, (HL.out.1.map.may _ _ hf).2⟩
        have hb3 := bel1 ((wr.alloc (.cells #[.bool pg, .slice no nn nc, .slice eo en ec, .int .i64 pa, .int .i64 pb, .int .i64 pc, .int .i64 pd] 39)).alloc (.cells #[.bool pg, .slice no nn nc, .slice eo en ec] 35)) (.cells #[.bool qg, .slice qo qn qc, .slice ro rn rc] 35)
        have HV : Hid (LikeSt w (((wr.alloc (.cells #[.bool pg, .slice no nn nc, .slice eo en ec, .int .i64 pa, .int .i64 pb, .int .i64 pc, .int .i64 pd] 39)).alloc (.cells #[.bool pg, .slice no nn nc, .slice eo en ec] 35)).alloc (.cells #[.bool qg, .slice qo qn qc, .slice ro rn rc] 35)) kk D f ∧ RQAt (((wr.alloc (.cells #[.bool pg, .slice no nn nc, .slice eo en ec, .int .i64 pa, .int .i64 pb, .int .i64 pc, .int .i64 pd] 39)).alloc (.cells #[.bool pg, .slice no nn nc, .slice eo en ec] 35)).alloc (.cells #[.bool qg, .slice qo qn qc, .slice ro rn rc] 35)) ⟨qg, qo, qn, qc, ro, rn, rc⟩ r ∧ TermAt (((wr.alloc (.cells #[.bool pg, .slice no nn nc, .slice eo en ec, .int .i64 pa, .int .i64 pb, .int .i64 pc, .int .i64 pd] 39)).alloc (.cells #[.bool pg, .slice no nn nc, .slice eo en ec] 35)).alloc (.cells #[.bool qg, .slice qo qn qc, .slice ro rn rc] 35)) ⟨pg, no, nn, nc, eo, en, ec, pa, pb, pc, pd⟩ t ∧ MBx (((wr.alloc (.cells #[.bool pg, .slice no nn nc, .slice eo en ec, .int .i64 pa, .int .i64 pb, .int .i64 pc, .int .i64 pd] 39)).alloc (.cells #[.bool pg, .slice no nn nc, .slice eo en ec] 35)).alloc (.cells #[.bool qg, .slice qo qn qc, .slice ro rn rc] 35)) wr.heap.size ⟨pg, no, nn, nc, eo, en, ec, pa, pb, pc, pd⟩ ∧ RBox (((wr.alloc (.cells #[.bool pg, .slice no nn nc, .slice eo en ec, .int .i64 pa, .int .i64 pb, .int .i64 pc, .int .i64 pd] 39)).alloc (.cells #[.bool pg, .slice no nn nc, .slice eo en ec] 35)).alloc (.cells #[.bool qg, .slice qo qn qc, .slice ro rn rc] 35)) (wr.heap.size + 1) pg no nn nc eo en ec) := ⟨HL.out.1.below hb3, hq2.below hb3, HL.out.2.1.below hb3, HL.out.2.2.1.below hb3, HL.out.2.2.2.below hb3⟩
        clear hf hh hq1 hq2 hb3
        go_wp2_with (first
          | (at_lookup; refine wpList_look_yes rfl _ _ rfl w.heap.size kk D rfl HL.out.1.own _ kl rfl hkey.out ⟨qg, qo, qn, qc, ro, rn, rc⟩ HF.out.2.1 HF.out.2.2.1 ?_))
        refine (radd_r _ _ _ _ _ _ _ _ _ _ _ _ _ _ r t.c _ HV.out.2.1.rat HV.out.2.2.1.rat HV.out.2.1.neg HV.out.2.2.1.neg).mono ?_
        rintro e w4 ⟨xg, xo, xn, xc, xeo, xen, xec, x, k, rfl, q1, q2, q3, q4⟩
        have cb := HV.out.2.2.2.2.below q4
        have HX : Hid (LikeSt w w4 kk D f ∧ RatAt w4 xo xn xc xeo xen xec x ∧ x.neg = xg ∧ AddOut r t.c x k ∧ MBx w4 wr.heap.size ⟨pg, no, nn, nc, eo, en, ec, pa, pb, pc, pd⟩ ∧ RBox w4 (wr.heap.size + 1) pg no nn nc eo en ec) := ⟨HV.out.1.below q4, q2, q1, q3, HV.out.2.2.2.1.below q4, cb⟩
        have c0 := cb.c0
        have c1 := cb.c1
        have c2 := cb.c2
        have f0 := cb.f 0
        have f1 := cb.f 1
        have f2 := cb.f 2
        clear q1 q2 q3 q4 cb e0 e1 e2 e3 e4 e5 e6
        by_cases hk : k = 0
        · subst hk
          have hset := RBox.set HX.out.2.2.2.2.2 xg xo xn xc xeo xen xec
          have hbs : Below w.heap.size w (((w4.setCell ⟨wr.heap.size + 1, 0, none⟩ (.bool xg)).setCell ⟨wr.heap.size + 1, 1, none⟩ (.slice xo xn xc)).setCell ⟨wr.heap.size + 1, 2, none⟩ (.slice xeo xen xec)) := below_set HX.out.1.bel (by have := HB.out; omega) _ _ _
          have hown2 : (((w4.setCell ⟨wr.heap.size + 1, 0, none⟩ (.bool xg)).setCell ⟨wr.heap.size + 1, 1, none⟩ (.slice xo xn xc)).setCell ⟨wr.heap.size + 1, 2, none⟩ (.slice xeo xen xec)).ownsMap Tryz.prog 37 ratElem w.heap.size kk D := by
            have hne : w.heap.size ≠ wr.heap.size + 1 := by have := HB.out; omega
            exact ((HX.out.1.own.setCell (a := ⟨wr.heap.size + 1, 0, none⟩) hne _).setCell (a := ⟨wr.heap.size + 1, 1, none⟩) hne _).setCell (a := ⟨wr.heap.size + 1, 2, none⟩) hne _
          have hbm : MBx (((w4.setCell ⟨wr.heap.size + 1, 0, none⟩ (.bool xg)).setCell ⟨wr.heap.size + 1, 1, none⟩ (.slice xo xn xc)).setCell ⟨wr.heap.size + 1, 2, none⟩ (.slice xeo xen xec)) wr.heap.size ⟨pg, no, nn, nc, eo, en, ec, pa, pb, pc, pd⟩ :=
            (Below.heap_setCell _ ⟨wr.heap.size + 1, 2, none⟩ _ wr.heap.size (by simp)).trans ((Below.heap_setCell _ ⟨wr.heap.size + 1, 1, none⟩ _ wr.heap.size (by simp)).trans ((Below.heap_setCell w4 ⟨wr.heap.size + 1, 0, none⟩ _ wr.heap.size (by simp)).trans HX.out.2.2.2.2.1))
          have hx2 : RQAt (((w4.setCell ⟨wr.heap.size + 1, 0, none⟩ (.bool xg)).setCell ⟨wr.heap.size + 1, 1, none⟩ (.slice xo xn xc)).setCell ⟨wr.heap.size + 1, 2, none⟩ (.slice xeo xen xec)) ⟨xg, xo, xn, xc, xeo, xen, xec⟩ x := ⟨HX.out.2.1.setR HX.out.2.2.2.2.2 _ _ _, HX.out.2.2.1⟩
          have hmap2 : MapAt (((w4.setCell ⟨wr.heap.size + 1, 0, none⟩ (.bool xg)).setCell ⟨wr.heap.size + 1, 1, none⟩ (.slice xo xn xc)).setCell ⟨wr.heap.size + 1, 2, none⟩ (.slice xeo xen xec)) D f :=
            ⟨HX.out.1.map.map, HX.out.1.map.no, fun m l r hl hf => let ⟨a, p, b, c⟩ := HX.out.1.map.yes m l r hl hf; ⟨a, p, b, ⟨c.rat.setR HX.out.2.2.2.2.2 _ _ _, c.neg⟩⟩, HX.out.1.map.all, HX.out.1.map.may⟩
          have HS : Hid (LikeSt w (((w4.setCell ⟨wr.heap.size + 1, 0, none⟩ (.bool xg)).setCell ⟨wr.heap.size + 1, 1, none⟩ (.slice xo xn xc)).setCell ⟨wr.heap.size + 1, 2, none⟩ (.slice xeo xen xec)) kk D f ∧ RQAt (((w4.setCell ⟨wr.heap.size + 1, 0, none⟩ (.bool xg)).setCell ⟨wr.heap.size + 1, 1, none⟩ (.slice xo xn xc)).setCell ⟨wr.heap.size + 1, 2, none⟩ (.slice xeo xen xec)) ⟨xg, xo, xn, xc, xeo, xen, xec⟩ x) := ⟨⟨hbs, hown2, hmap2⟩, hx2⟩
          obtain ⟨_, _, _, g3, g4, g5, g6⟩ := hbm.el
          dsimp only at g3 g4 g5 g6
          have s0 := hset.c0
          have s1 := hset.c1
          have s2 := hset.c2
          have HXM : Hid (MayR x) := HX.out.2.2.2.1.may HF.out.2.2.2 HJ.out.2.2.2.1.c
          clear hset hbs hown2 hbm hx2 hmap2
          go_wp2_with (first
            | (at_mapUpdate; refine wpList_mapUpdate_own _ rfl _ _ _ 85 rfl 37 35 keyed37 Tryz.underlying85 ratElem w.heap.size kk D rfl HS.out.1.own (by have := hO.out.2.1; have := H.out.2.2; have := HJ.out.1; omega) _ _ kl rfl rfl hkey.out _ _ (ratElem_mk ⟨xg, xo, xn, xc, xeo, xen, xec⟩) ?_))
          intro w5 hown hgrow
          have H5 : Hid (LikeSt w w5 (kk + 1) (D.put kl (.held (RQ.v ⟨xg, xo, xn, xc, xeo, xen, xec⟩))) (upd f t.m x)) := ⟨HS.out.1.bel.grown hgrow HS.out.1.bel.size (fun k hk => by cases hk; exact Nat.le_refl _), hown, HS.out.1.map.put HJ.out.2.2.2.2.1 (HS.out.2.grownMap hgrow HS.out.1.own) HJ.out.2.2.2.1.m HXM.out (fun p r h => h.grownMap hgrow HS.out.1.own)⟩
          clear hown hgrow s0 s1 s2 g3 g4 g5 g6 c0 c1 c2 f0 f1 f2
          go_wp2
          go_roundg (n - (j + 1))
          case measure => have := HJ.out.1; have := HJ.out.2.1; omega
          case rel => exact ⟨j + 1, kk + 1, _, _, by have := HJ.out.1; omega, Nat.le_refl _, by go_num, H5.out, by have := hO.out.2.1; omega, fun g k h => hO.out.2.2 g k (by rw [HJ.out.2.2.2.2.2.2]; exact Acc.step1 HF.out.1 HX.out.2.2.2.1 h)⟩
        · have HK : Hid (k ≠ 0) := hk
          go_wp2_with fail
          go_ret2
          exact ⟨none, k, f, rfl, hO.out.2.2 f k (by rw [HJ.out.2.2.2.2.2.2]; exact Acc.stop HF.out.1 HX.out.2.2.2.1 HK.out), fun e => absurd e HK.out, below_set HX.out.1.bel (by have := HB.out; omega) _ _ _⟩
    · have hjn : j = n := by omega
      subst hjn
      have hlen : ls.length ≤ j := by rw [H.out.1.len]; exact Nat.le_refl _
      have HA : Hid (Acc ls (fun _ => none) f 0) := hO.out.2.2 f 0 (by rw [List.drop_of_length_le hlen]; exact ⟨rfl, rfl⟩)
      clear hj hjr h0 hlen
      go_wp2_with fail
      go_ret2
      exact ⟨_, 0, f, rfl, HA.out, fun _ => ⟨rfl, kk, D, hO.out.1, hO.out.2.1⟩, hO.out.1.bel⟩
end Go.Proofs.YtbdldijgcmgfaaaGreat
