/-
  Joined: PolyU1 · PolyU · PolyCC · PolyDD · PolyX · PolyV · PolyW · PolyGG · PolyMade · PolyInt2.
-/
import Derived.Test.YtbdldijgcmgfaaaGreatJT1
import Derived.Test.YtbdldijgcmgfaaaGreatJS1
import Derived.Sort.OwnSorted
import Derived.Test.YtbdldijgcmgfaaaGreatJN1
import Derived.Test.YtbdldijgcmgfaaaGreatJR1
import Derived.Test.YtbdldijgcmgfaaaGreatJQ1
import Derived.Test.YtbdldijgcmgfaaaGreatOwnS
import Derived.Deep.RegionHeld3
import Derived.Test.YtbdldijgcmgfaaaGreatJO1

/-! together: terms that may be, put together. -/
namespace Go.Proofs.YtbdldijgcmgfaaaGreat
open Go.RowKit Go.Maps Go.ChangeMaps Go.MapKept Go.WideShapes
open Go.WideElems (Fit rd rg pl rd_key rd_val rg_of other_key)

theorem size_own {w : World} {b n : Nat} {D : DataW Value} (h : w.ownsMap Tryz.prog 37 ratElem b n D) : Maps.size D ≤ n := by
  obtain ⟨es, clock, _, F, hs, rfl⟩ := h
  simp [Maps.size, length_sorted]
  exact hs

/-- What was gone through. -/
structure Col (f : Mo → Option RatL) (left : Lit → Bool) (ls : List TL) : Prop where
  mem : ∀ t, t ∈ ls ↔ (∀ kl, keyOf Tryz.prog 37 (Mval t.m) = some kl → left kl = false) ∧ f t.m = some t.c ∧ t.c.top ≠ 0
  dis : (ls.map TL.m).Nodup

theorem RowAt.grownIter {w w' : World} {b : Nat} {mo : Option Nat} {s c0 : Nat} {seen : Array Nat} {ao : Option Addr} {n cap : Nat} {xs : List Int} (h : RowAt w ao n cap xs) (hg : w.grownBy w' (some b)) (hm : w.heap[b]? = some (.mapIter mo s seen c0)) : RowAt w' ao n cap xs := by
  refine ⟨h.len, h.limbs, h.fits, h.most, h.bare, fun hne => ?_⟩
  obtain ⟨b1, off, e1, hlt, hcc⟩ := h.cells hne
  have hbr : some b1 ≠ some b := by
    intro e
    injection e with e
    subst e
    have := hcc 0 (List.length_pos_iff.2 hne)
    simp [World.cell?, hm] at this
  exact ⟨b1, off, e1, Nat.lt_of_lt_of_le hlt hg.size, fun j hj => (World.cell?_of_block (a := ⟨b1, off + j, none⟩) (hg.block b1 hlt hbr)).trans (hcc j hj)⟩

/-- The loop under way. -/
structure TogSt (W : World) (b r kk : Nat) (D : DataW Value) (f : Mo → Option RatL) (left : Lit → Bool) (cnt : Nat) (v : Value) (qs : List TP) (ms : List TL) (wr : World) : Prop where
  rng : wr.ranges Tryz.prog 37 ratElem b r kk D left cnt
  own : TermsOwn wr (r + 1) v qs ms
  map : MapAt wr D f
  bel : Below W.heap.size W wr
  col : Col f left ms
  cnt : qs.length + cnt ≤ kk
  lt : b < r
  le : W.heap.size ≤ r

variable {W : World} {b r kk : Nat} {D : DataW Value} {f : Mo → Option RatL} {left : Lit → Bool} {cnt : Nat} {v : Value} {qs : List TP} {ms : List TL} {wr : World}

theorem gb_of {w w' : World} (h : Below w.heap.size w w') : w.grownBy w' none := ⟨h.os, h.tape, h.output, h.size, fun k hk _ => h.block k hk⟩
theorem TogSt.below {wr' : World} (h : TogSt W b r kk D f left cnt v qs ms wr) (hb : Below wr.heap.size wr wr') : TogSt W b r kk D f left cnt v qs ms wr' :=
  ⟨h.rng.kept (gb_of hb) (by simp) (by simp), h.own.below hb, h.map.below hb, chain h.bel hb, h.col, h.cnt, h.lt, h.le⟩

/-- Behind a step of the iterator. -/
theorem TogSt.next {wr' : World} (h : TogSt W b r kk D f left cnt v qs ms wr) (hg : wr.grownBy wr' (some r)) :
    TermsOwn wr' (r + 1) v qs ms ∧ MapAt wr' D f ∧ Below W.heap.size W wr' := by
  have hit : ∃ mo s seen c0, wr.heap[r]? = some (.mapIter mo s seen c0) := by
    obtain ⟨_, _, _, _, _, _, _, _, _, hr, _⟩ := h.rng
    exact ⟨_, _, _, _, hr⟩
  obtain ⟨mo, s, seen, c0, hit⟩ := hit
  have key : ∀ {no : Option Addr} {nn nc : Nat} {eo : Option Addr} {en ec : Nat} {x : RatL}, RatAt wr no nn nc eo en ec x → RatAt wr' no nn nc eo en ec x := fun h => ⟨h.num.grownIter hg hit, h.den.grownIter hg hit⟩
  refine ⟨⟨h.own.own.kept hg (.inr fun e => row_ne_low h.own.own.row (show r < r + 1 by omega) e.symm), h.own.len, fun i p t hp ht => ⟨key (h.own.each i p t hp ht).rat, (h.own.each i p t hp ht).neg, (h.own.each i p t hp ht).mo⟩⟩, ⟨h.map.map, h.map.no, fun m l x hl hf => ?_, h.map.all, h.map.may⟩, h.bel.grown hg h.bel.size (fun k hk => by cases hk; exact h.le)⟩
  obtain ⟨a, p, b, c⟩ := h.map.yes m l x hl hf
  exact ⟨a, p, b, key c.rat, c.neg⟩

/-- Behind an append. -/
theorem TogSt.put {wr' : World} {v' : Value} {p : TP} {t : TL} {n : Nat} (h : TogSt W b r kk D f left cnt v qs ms wr) (ht : TermAt wr p t) (hn : qs.length = n) (ho : OwnS wr' (r + 1) 39 7 v' (n + 1) (tcells qs ++ p.cs)) (hg : wr.grownBy wr' v.ownBlock) (hl : n + 1 + cnt ≤ kk)
    (hc : Col f left (ms ++ [t])) : TogSt W b r kk D f left cnt v' (qs ++ [p]) (ms ++ [t]) wr' := by
  have hcl : ∀ g, v.ownBlock = some g → CleanB wr 39 g := h.own.own.clean
  have hlo : ∀ k, v.ownBlock = some k → r + 1 ≤ k := fun k hk => (h.own.own.row.lt k hk).1
  refine ⟨h.rng.kept hg (row_ne_low h.own.own.row (by have := h.lt; omega)) (row_ne_low h.own.own.row (by omega)), h.own.put1 ht hn ho hg, ⟨h.map.map, h.map.no, fun m l x hl hf => ?_, h.map.all, h.map.may⟩, h.bel.grown hg h.bel.size (fun k hk => by have := hlo k hk; have := h.le; omega), hc, by simp; omega, h.lt, h.le⟩
  obtain ⟨a, p, b, c⟩ := h.map.yes m l x hl hf
  exact ⟨a, p, b, c.rat.grown hg hcl, c.neg⟩

set_option maxRecDepth 100000 in
/-- One more was gone through, of 0. -/
theorem Col.skip (h : Col f left ms) {m : Mo} {kl : Lit} {x : RatL} (hk : keyOf Tryz.prog 37 (Mval m) = some kl) (hf : f m = some x) (hx : x.top = 0) : Col f (fun z => left z && !z.sameKey kl) ms := by
  refine ⟨fun t => ?_, h.dis⟩
  rw [h.mem]
  constructor
  · rintro ⟨h1, h2, h3⟩
    exact ⟨fun j hj => by rw [h1 j hj]; rfl, h2, h3⟩
  · rintro ⟨h1, h2, h3⟩
    refine ⟨fun j hj => ?_, h2, h3⟩
    have := h1 j hj
    cases e : left j with
    | false => rfl
    | true =>
      rw [e] at this
      simp at this
      have e2 : j = kl := WideAt.sameKey_eq this
      have e3 : t.m = m := key_one (e2 ▸ hj) hk
      rw [e3, hf] at h2
      injection h2 with h2
      rw [← h2] at h3
      exact absurd hx h3
set_option maxRecDepth 100000 in
/-- .. not of 0. -/
theorem Col.more (h : Col f left ms) {m : Mo} {kl : Lit} {x : RatL} (hk : keyOf Tryz.prog 37 (Mval m) = some kl) (hf : f m = some x) (hx : x.top ≠ 0) (hl : left kl = true) : Col f (fun z => left z && !z.sameKey kl) (ms ++ [⟨x, m⟩]) := by
  refine ⟨fun t => ?_, ?_⟩
  · rw [List.mem_append, h.mem, List.mem_singleton]
    constructor
    · rintro (⟨h1, h2, h3⟩ | rfl)
      · exact ⟨fun j hj => by rw [h1 j hj]; rfl, h2, h3⟩
      · refine ⟨fun j hj => ?_, hf, hx⟩
        have e : j = kl := Option.some.inj (hj.symm.trans hk)
        rw [e, WideAt.sameKey_self (keyed37.key hk)]
        simp
    · rintro ⟨h1, h2, h3⟩
      by_cases e : t.m = m
      · right
        rw [e, hf] at h2
        injection h2 with h2
        exact TL.ext3 h2.symm e
      · left
        refine ⟨fun j hj => ?_, h2, h3⟩
        have := h1 j hj
        cases e1 : left j with
        | false => rfl
        | true =>
          rw [e1] at this
          simp at this
          have e2 : j = kl := WideAt.sameKey_eq this
          exact absurd (key_one (e2 ▸ hj) hk) e
  · rw [List.map_append, List.nodup_append]
    refine ⟨h.dis, by simp, fun a ha b hb => ?_⟩
    simp at hb
    obtain ⟨t, ht, rfl⟩ := List.mem_map.1 ha
    rintro e
    have := ((h.mem t).1 ht).1 kl (by rw [e, hb]; exact hk)
    rw [hl] at this
    cases this

theorem Col.start (h : MapAt wr D f) : Col f (has D) [] := by
  refine ⟨fun t => ⟨fun h => by simp at h, ?_⟩, List.nodup_nil⟩
  rintro ⟨h1, h2, h3⟩
  obtain ⟨kl, hk⟩ := key_ex t.m (h.may _ _ h2).1
  have := (h.yes _ _ _ hk h2).1
  rw [h1 kl hk] at this
  cases this

theorem ranges_has {H : Type} {P : Program} {k : TypeId} {R : Value → Option (DataW H × List MemPlace)} {w : World} {b r n : Nat} {D : DataW H} {left : Lit → Bool} {cnt : Nat} (h : w.ranges P k R b r n D left cnt) (K : Keyed P k) {kl : Lit} (hk : left kl = true) : has D kl = true := by
  obtain ⟨es, clock, since, seen, c0, hb, F, hs, rfl, hr, hold, hc, hl1, hl2, _⟩ := h
  obtain ⟨x, hx, rfl⟩ := hl2 kl hk
  obtain ⟨y, hy⟩ := F.reads x hx
  exact List.any_eq_true.2 ⟨rg P k R x, mem_sorted.2 (List.mem_map.2 ⟨x, hx, rfl⟩), WideAt.sameKey_self (by rw [rg_of hy]; exact K.key (rd_key hy))⟩

/-- Any terms of different monomials can be sorted. -/
theorem falls_ex {o : Int} (ho : Ord o) (ms : List TL) (hm : ∀ t ∈ ms, MayM t.m) (hn : (ms.map TL.m).Nodup) : ∃ q : List TL, Falls o q ∧ q.Perm ms := by
  haveI := TM.inh
  obtain ⟨d, _, rfl⟩ := tms_ex (ms.map fun t => (⟨false, none, 0, 0, none, 0, 0, t.m.a, t.m.b, t.m.c, t.m.d⟩ : TP)) ms (by simp) (fun i p t hp ht => by
    rw [List.getElem?_map, ht] at hp
    cases hp
    exact ⟨hm t (List.mem_of_getElem? ht), rfl⟩)
  obtain ⟨⟨h1, _, h2⟩, h3⟩ := Go.Sort.pdq_sorts (ltOf (cfT o)) (swoT ho) d.toArray 0 d.toArray.size 0 true true (Nat.zero_le _) (Nat.le_refl _) (Or.inl rfl)
  generalize Go.Sort.pdq (ltOf (cfT o)) d.toArray 0 d.toArray.size 0 true true = d' at h1 h2 h3
  have hps : d'.toList.Perm d := by
    have e1 : d'.extract 0 d.toArray.size = d' := by rw [← h1]; simp
    have e2 : d.toArray.extract 0 d.toArray.size = d.toArray := by simp
    rw [e1, e2] at h2
    exact h2
  have ed : d' = d'.toList.toArray := by simp
  refine ⟨d'.toList.map TM.t, falls_sorted ho (by rw [← ed]; have : d'.toList.length = d.toArray.size := by simpa using h1
                                                  rw [this]; exact h3) ?_, hps.map _⟩
  rw [List.map_map] at hn
  exact (hps.map _).nodup_iff.2 hn

theorem Col.tog {o : Int} {ls q : List TL} {k : Int} {out : List TL} (h : Col f left ms) (hl : ∀ kl, left kl = false) (ha : Acc ls (fun _ => none) f 0) (hq : Falls o q) (hp : q.Perm ms) (h1 : 60 < ms.length → out = [] ∧ k = 90) (h2 : ms.length ≤ 60 → out = q ∧ k = 0) : TogIs o ls out k := by
  refine ⟨f, 0, ha, fun e => absurd rfl e, fun _ => ⟨q, hq, fun t => ?_, fun e => h1 (by rw [← hp.length_eq]; exact e), fun e => h2 (by rw [← hp.length_eq]; exact e)⟩⟩
  rw [hp.mem_iff, h.mem]
  exact ⟨fun h => h.2, fun h => ⟨fun kl _ => hl kl, h⟩⟩

theorem zero37 (w : World) : (zeroValue 37).run Tryz.prog w = .ok (.agg #[.int .i64 0, .int .i64 0, .int .i64 0, .int .i64 0]) w := by kernel_rfl

end Go.Proofs.YtbdldijgcmgfaaaGreat

/-! together: walked. -/
namespace Go.Proofs.YtbdldijgcmgfaaaGreat
open Go.RowKit Go.Maps

/-- Behind an append. -/
theorem tog_put {W w w' : World} {b r kk : Nat} {D : DataW Value} {f : Mo → Option RatL} {left : Lit → Bool} {cnt : Nat} {v v' : Value} {qs : List TP} {ms : List TL} {p : TP} {t : TL}
    (hr : w.ranges Tryz.prog 37 ratElem b r kk D left cnt) (ho : TermsOwn w (r + 1) v qs ms) (hm : MapAt w D f) (hb : Below W.heap.size W w) (hlt : b < r) (hle : W.heap.size ≤ r) (ht : TermAt w p t) (hw : OwnS w' (r + 1) 39 7 v' (qs.length + 1) (tcells qs ++ p.cs)) (hg : w.grownBy w' v.ownBlock)
    (hl : qs.length + 1 + cnt ≤ kk) (hc : Col f left (ms ++ [t])) : TogSt W b r kk D f left cnt v' (qs ++ [p]) (ms ++ [t]) w' := by
  have hcl : ∀ g, v.ownBlock = some g → CleanB w 39 g := ho.own.clean
  have hlo : ∀ k, v.ownBlock = some k → r + 1 ≤ k := fun k hk => (ho.own.row.lt k hk).1
  refine ⟨hr.kept hg (row_ne_low ho.own.row (by omega)) (row_ne_low ho.own.row (by omega)), ho.put1 ht rfl hw hg, ⟨hm.map, hm.no, fun m l x hl hf => ?_, hm.all, hm.may⟩, hb.grown hg hb.size (fun k hk => by have := hlo k hk; omega), hc, by simp; omega, hlt, hle⟩
  obtain ⟨a, p, b, c⟩ := hm.yes m l x hl hf
  exact ⟨a, p, b, c.rat.grown hg hcl, c.neg⟩

set_option maxRecDepth 100000 in
set_option maxHeartbeats 2000000 in
theorem together_b (o : Int) (lo : Option Addr) (n cap : Nat) (ps : List TP) (ls : List TL) (w : World) (ho : Ord o) (h : PolyAt w lo n cap ps ls) (hm : ∀ s ∈ ls, MayT s) (hn : n ≤ 1000000) :
    Calls Tryz.prog 34 #[.int .i64 o, .slice lo n cap] w fun e w' => ∃ lo' n' cap' qs ms k, e = .returned (.tuple #[.slice lo' n' cap', .int .i64 k]) ∧ PolyAt w' lo' n' cap' qs ms ∧ TogIs o ls ms k ∧ Below w.heap.size w w' := by
  obtain ⟨i0, hi0, hz0, hz1, hz2⟩ := info_parts info39
  have b1 := bel1 w (.cells #[.int .i64 o] 3)
  have H : Hid (PolyAt (w.alloc (.cells #[.int .i64 o] 3)) lo n cap ps ls ∧ (∀ s ∈ ls, MayT s) ∧ n ≤ 1000000 ∧ Ord o ∧ Below w.heap.size w (w.alloc (.cells #[.int .i64 o] 3)) ∧ (w.alloc (.cells #[.int .i64 o] 3)).cell? ⟨w.heap.size, 0, none⟩ = some (.int .i64 o)) := ⟨h.below b1, hm, hn, ho, b1, by unfold World.cell?; rw [heap_alloc_new w (.cells #[.int .i64 o] 3)]; rfl⟩
  clear h hm hn ho b1
  go_enter Tryz.func34, Tryz.ntmps34
  go_wp2_with fail
  refine (like_r _ _ _ _ _ _ H.out.1 H.out.2.1).mono ?_
  rintro e w1 ⟨mo, k, f, rfl, hA, hS, hb⟩
  by_cases hk : k = 0
  · subst hk
    obtain ⟨rfl, kk, D, hD, hkk⟩ := hS rfl
    have HD : Hid (LikeSt (w.alloc (.cells #[.int .i64 o] 3)) w1 kk D f ∧ kk ≤ n ∧ Acc ls (fun _ => none) f 0 ∧ Maps.size D ≤ kk) := ⟨hD, hkk, hA, size_own hD.own⟩
    have HO : Hid (w1.ownsMap Tryz.prog 37 ratElem (w.heap.size + 1) kk D) := by
      have := hD.own
      rwa [World.size_alloc] at this
    clear hA hS hb hD hkk
    go_wp2_with (first
      | (at_range; refine wpList_range_own _ rfl _ 85 rfl 37 35 keyed37 Tryz.underlying85 ratElem _ kk D rfl HO.out ?_; intro w0 hrg0 hg0 hs0))
    go_frame
    have hr0 : w.heap.size + 1 < w1.heap.size := HO.out.lt
    have T0 : Hid (TogSt w1 (w.heap.size + 1) w1.heap.size kk D f (has D) (Maps.size D) (.slice none 0 0) [] [] w0) := by
      have hb0 : Below w1.heap.size w1 w0 := (Below.refl _ _).grown hg0 (Nat.le_refl _) (fun k hk => by cases hk)
      exact ⟨hrg0, TermsOwn.nil _ _, HD.out.1.map.below hb0, hb0, Col.start HD.out.1.map, by simpa using HD.out.2.2.2, hr0, Nat.le_refl _⟩
    clear hrg0 hg0 hs0
    go_loopg [8] (Maps.size D) (fun m v wr => ∃ (left : Lit → Bool) (cnt : Nat) (qs : List TP) (ms : List TL), cnt ≤ m ∧ Hid (TogSt w1 (w.heap.size + 1) w1.heap.size kk D f left cnt v qs ms wr))
    case atStart => exact ⟨_, _, [], [], Nat.le_refl _, T0.out⟩
    case round =>
      obtain ⟨left, cnt, qs, ms, hcm, hT⟩ := hrel
      go_wp2_with (first
        | (at_next; refine wpList_next_ranges _ rfl _ rfl 37 keyed37 ratElem (fun m : Mo => Value.agg #[.int .i64 m.a, .int .i64 m.b, .int .i64 m.c, .int .i64 m.d]) (fun p : RQ => Value.agg #[.bool p.g, .slice p.no p.nn p.nc, .slice p.eo p.en p.ec]) (fun _ _ h => key_inv h) (fun _ _ h => ratElem_inv h) (w.heap.size + 1) w1.heap.size kk D _ _ rfl hT.out.rng ?_ ?_))
      · intro hc0 hl0
        have HL : Hid (∀ kl, left kl = false) := hl0
        clear hl0
        obtain ⟨lo2, cap2, rfl, _⟩ := hT.out.own.poly
        have hl : qs.length = ms.length := hT.out.own.len
        have HB : Hid (w.heap.size < wr.heap.size ∧ wr.cell? ⟨w.heap.size, 0, none⟩ = some (.int .i64 o)) := by
          have s1 := hT.out.bel.size
          have h1 : w1.cell? ⟨w.heap.size, 0, none⟩ = some (.int .i64 o) := (HD.out.1.bel.cell (p := ⟨w.heap.size, 0, none⟩) (by rw [World.size_alloc]; exact Nat.lt_succ_self _)).trans H.out.2.2.2.2.2
          exact ⟨by omega, (hT.out.bel.cell (p := ⟨w.heap.size, 0, none⟩) (by show w.heap.size < w1.heap.size; omega)).trans h1⟩
        have HM : Hid (∀ t ∈ ms, MayM t.m) := fun t ht => (hT.out.map.may _ _ ((hT.out.col.mem t).1 ht).2.1).1
        have HBl : Hid (Below w.heap.size w wr) := H.out.2.2.2.2.1.trans ((HD.out.1.bel.mono (by rw [World.size_alloc]; omega)).trans (hT.out.bel.mono (by omega)))
        by_cases h60 : qs.length ≤ 60
        · have h6 : (qs.length : Int) ≤ 60 := by omega
          have hsz : ms.length < 4611686018427387904 := by omega
          have hbl : w.heap.size < w1.heap.size + 1 := by omega
          have HS : Hid (Calls Tryz.prog 60 #[.slice lo2 qs.length cap2, .func (.func 61) #[] #[.pointer (some ⟨w.heap.size, 0, none⟩)]] wr fun e w' =>
              e = .returned (.tuple #[]) ∧ ∃ qs2 ms2, TermsOwn w' (w1.heap.size + 1) (.slice lo2 qs.length cap2) qs2 ms2 ∧ Falls o ms2 ∧ ms2.Perm ms ∧ Below (w1.heap.size + 1) wr w') :=
            sort_terms H.out.2.2.2.1 w.heap.size (w1.heap.size + 1) wr (.slice lo2 qs.length cap2) qs ms hbl HB.out.1 HB.out.2 hT.out.own HM.out hT.out.col.dis hsz
          clear hsz hbl hl
          go_wp2_with fail
          refine HS.out.mono ?_
          rintro e w3 ⟨rfl, qs2, ms2, s1, s2, s3, s4⟩
          have H3 : Hid (TermsOwn w3 (w1.heap.size + 1) (.slice lo2 qs.length cap2) qs2 ms2 ∧ Falls o ms2 ∧ ms2.Perm ms ∧ Below (w1.heap.size + 1) wr w3) := ⟨s1, s2, s3, s4⟩
          clear s1 s2 s3 s4
          go_wp2_with fail
          go_ret2
          obtain ⟨lo3, cap3, ev, hpa, _⟩ := H3.out.1.poly
          injection ev with e1 e2 e3
          subst e1 e3
          rw [← e2] at hpa
          exact ⟨_, _, _, qs2, ms2, 0, rfl, hpa, hT.out.col.tog HL.out HD.out.2.2.1 H3.out.2.1 H3.out.2.2.1 (fun e => by have := hT.out.own.len; omega) (fun _ => ⟨rfl, rfl⟩), HBl.out.trans (H3.out.2.2.2.mono (by omega))⟩
        · have h6 : ¬ (qs.length : Int) ≤ 60 := by omega
          go_wp2_with fail
          go_ret2
          obtain ⟨q, hq1, hq2⟩ := falls_ex H.out.2.2.2.1 ms HM.out hT.out.col.dis
          exact ⟨none, 0, 0, [], [], 90, rfl, PolyAt.nil _, hT.out.col.tog HL.out HD.out.2.2.1 hq1 hq2 (fun _ => ⟨rfl, rfl⟩) (fun e => by omega), HBl.out⟩
      · intro x c kl y yp w2 cnt2 hkey hlk hv hat hrg hlt hgr hsz hen
        obtain ⟨xa, xb, xc, xd⟩ := x
        obtain ⟨cg, co, cn, cc, ceo, cen, cec⟩ := c
        dsimp only at hkey hv hen ⊢
        obtain ⟨q1, q2, q3⟩ := hT.out.next hgr
        have hh := ranges_has hT.out.rng keyed37 hlk
        obtain ⟨m0, r, hk0, hf0⟩ := q2.all kl hh
        have em : m0 = ⟨xa, xb, xc, xd⟩ := key_one hk0 hkey
        rw [em] at hf0
        obtain ⟨_, p, hp1, hp2⟩ := q2.yes ⟨xa, xb, xc, xd⟩ kl r hkey hf0
        have ep : p = ⟨cg, co, cn, cc, ceo, cen, cec⟩ := by
          have e1 : y = .held p.v := (hat (.held p.v)).symm.trans (hp1 _)
          have e2 : ratElem (RQ.v ⟨cg, co, cn, cc, ceo, cen, cec⟩) = some (.held p.v, yp) := by rw [← e1]; exact hv
          exact (ratElem_one e2).symm
        subst ep
        have b2 : Below w2.heap.size w2 ((w2.alloc (.cells #[.int .i64 xa, .int .i64 xb, .int .i64 xc, .int .i64 xd] 37)).alloc (.cells #[.bool cg, .slice co cn cc, .slice ceo cen cec] 35)) := below2' _ _ _
        have HW : Hid (RQAt ((w2.alloc (.cells #[.int .i64 xa, .int .i64 xb, .int .i64 xc, .int .i64 xd] 37)).alloc (.cells #[.bool cg, .slice co cn cc, .slice ceo cen cec] 35)) ⟨cg, co, cn, cc, ceo, cen, cec⟩ r ∧ f ⟨xa, xb, xc, xd⟩ = some r ∧ MayR r ∧ keyOf Tryz.prog 37 (Mval ⟨xa, xb, xc, xd⟩) = some kl ∧ left kl = true ∧ cnt2 < cnt ∧ Below w2.heap.size w2 ((w2.alloc (.cells #[.int .i64 xa, .int .i64 xb, .int .i64 xc, .int .i64 xd] 37)).alloc (.cells #[.bool cg, .slice co cn cc, .slice ceo cen cec] 35)) ∧ Mn.MBox ((w2.alloc (.cells #[.int .i64 xa, .int .i64 xb, .int .i64 xc, .int .i64 xd] 37)).alloc (.cells #[.bool cg, .slice co cn cc, .slice ceo cen cec] 35)) w2.heap.size xa xb xc xd ∧ RBox ((w2.alloc (.cells #[.int .i64 xa, .int .i64 xb, .int .i64 xc, .int .i64 xd] 37)).alloc (.cells #[.bool cg, .slice co cn cc, .slice ceo cen cec] 35)) (w2.heap.size + 1) cg co cn cc ceo cen cec) :=
          ⟨hp2.below b2, hf0, (q2.may _ _ hf0).2, hkey, hlk, hlt, b2, (Mn.MBox.new _ _ _ _ _).alloc _, by have h := RBox.new (w2.alloc (.cells #[.int .i64 xa, .int .i64 xb, .int .i64 xc, .int .i64 xd] 37)) cg co cn cc ceo cen cec; rw [World.size_alloc] at h; exact h⟩
        have HN : Hid (∀ {vv : Value} {ps2 : List TP} {ms2 : List TL}, vv = u8 → ps2 = qs → ms2 = ms → Col f (fun z => left z && !z.sameKey kl) ms → TogSt w1 (w.heap.size + 1) w1.heap.size kk D f (fun z => left z && !z.sameKey kl) cnt2 vv ps2 ms2 w2) := by
          rintro _ _ _ rfl rfl rfl hc
          exact ⟨hrg, q1, q2, q3, hc, by have := hT.out.cnt; omega, hT.out.lt, hT.out.le⟩
        have hNs : Hid (w2.heap.size = wr.heap.size) := hsz
        have HF : Hid (∀ {W' wx : World} {vx : Value}, Below w2.heap.size w2 wx → TermsOwn wx (w1.heap.size + 1) u8 qs ms → TermAt wx ⟨cg, co, cn, cc, ceo, cen, cec, xa, xb, xc, xd⟩ ⟨r, ⟨xa, xb, xc, xd⟩⟩ → OwnS W' (w1.heap.size + 1) 39 7 vx (qs.length + 1) (tcells qs ++ TP.cs ⟨cg, co, cn, cc, ceo, cen, cec, xa, xb, xc, xd⟩) → wx.grownBy W' u8.ownBlock → qs.length + 1 + cnt2 ≤ kk → Col f (fun z => left z && !z.sameKey kl) (ms ++ [⟨r, ⟨xa, xb, xc, xd⟩⟩]) →
            TogSt w1 (w.heap.size + 1) w1.heap.size kk D f (fun z => left z && !z.sameKey kl) cnt2 vx (qs ++ [⟨cg, co, cn, cc, ceo, cen, cec, xa, xb, xc, xd⟩]) (ms ++ [⟨r, ⟨xa, xb, xc, xd⟩⟩]) W') := by
          intro W' wx vx hb ho ht hw hg hl hc
          exact tog_put (hrg.kept (gb_of hb) (by simp) (by simp)) ho (q2.below hb) (chain q3 hb) hT.out.lt hT.out.le ht hw hg hl hc
        have HQ : Hid (TermsOwn w2 (w1.heap.size + 1) u8 qs ms ∧ qs.length + cnt ≤ kk) := ⟨q1, hT.out.cnt⟩
        clear q1 q2 q3 hrg hkey hlk hlt hsz hgr hv hat hh hk0 hf0 em hp1 hp2 b2
        by_cases hz : r.top = 0
        · go_wp2_with fail
          refine (zeroR_b _ _ _ _ _ _ _ r _ HW.out.1.rat HW.out.2.2.1 true (yes_iff hz)).mono ?_
          rintro e w3 ⟨rfl, b3⟩
          have H3 : Hid (TogSt w1 (w.heap.size + 1) w1.heap.size kk D f (fun z => left z && !z.sameKey kl) cnt2 u8 qs ms w3) := (HN.out rfl rfl rfl (hT.out.col.skip HW.out.2.2.2.1 HW.out.2.1 hz)).below (chain HW.out.2.2.2.2.2.2.1 b3)
          clear b3
          go_wp2_with fail
          go_roundg cnt2
          case measure => have := HW.out.2.2.2.2.2.1; omega
          case rel => exact ⟨_, cnt2, qs, ms, Nat.le_refl _, H3.out⟩
        · go_wp2_with fail
          refine (zeroR_b _ _ _ _ _ _ _ r _ HW.out.1.rat HW.out.2.2.1 false (no_iff hz)).mono ?_
          rintro e w3 ⟨rfl, b3⟩
          obtain ⟨lo2, cap2, rfl, _⟩ := HQ.out.1.poly
          have bx := HW.out.2.2.2.2.2.2.2.1.below b3
          have rx := HW.out.2.2.2.2.2.2.2.2.below b3
          have d0 := bx.c0
          have d1 := bx.c1
          have d2 := bx.c2
          have d3 := bx.c3
          have e0 := rx.c0
          have e1 := rx.c1
          have e2 := rx.c2
          have b4 := chain (chain HW.out.2.2.2.2.2.2.1 b3) (bel1 w3 (.cells #[.bool cg, .slice co cn cc, .slice ceo cen cec, .int .i64 xa, .int .i64 xb, .int .i64 xc, .int .i64 xd] 39))
          have H3 : Hid (TermsOwn (w3.alloc (.cells #[.bool cg, .slice co cn cc, .slice ceo cen cec, .int .i64 xa, .int .i64 xb, .int .i64 xc, .int .i64 xd] 39)) (w1.heap.size + 1) (.slice lo2 qs.length cap2) qs ms ∧ Below w2.heap.size w2 (w3.alloc (.cells #[.bool cg, .slice co cn cc, .slice ceo cen cec, .int .i64 xa, .int .i64 xb, .int .i64 xc, .int .i64 xd] 39)) ∧ TermAt (w3.alloc (.cells #[.bool cg, .slice co cn cc, .slice ceo cen cec, .int .i64 xa, .int .i64 xb, .int .i64 xc, .int .i64 xd] 39)) ⟨cg, co, cn, cc, ceo, cen, cec, xa, xb, xc, xd⟩ ⟨r, ⟨xa, xb, xc, xd⟩⟩) :=
            ⟨HQ.out.1.below b4, b4, ⟨(HW.out.1.rat.below b3).below (bel1 _ _), HW.out.1.neg, rfl⟩⟩
          have HC : Hid (Col f (fun z => left z && !z.sameKey kl) (ms ++ [⟨r, ⟨xa, xb, xc, xd⟩⟩])) := hT.out.col.more HW.out.2.2.2.1 HW.out.2.1 hz HW.out.2.2.2.2.1
          have HK : Hid (qs.length + 1 ≤ 1000000 ∧ qs.length + 1 + cnt2 ≤ kk ∧ w1.heap.size + 1 ≤ (w3.alloc (.cells #[.bool cg, .slice co cn cc, .slice ceo cen cec, .int .i64 xa, .int .i64 xb, .int .i64 xc, .int .i64 xd] 39)).heap.size) := by
            have h1 := HQ.out.2
            have h2 := HD.out.2.1
            have h3 := H.out.2.2.1
            have h4 := HW.out.2.2.2.2.2.1
            have h5 := hT.out.rng.lt
            have h6 := b4.size
            have h7 := hNs.out
            exact ⟨by omega, by omega, by omega⟩
          clear b3 bx rx b4
          go_wp2_with (at_builtin; refine wpList_append_put _ rfl _ _ _ rfl (w1.heap.size + 1) 39 i0 _ 7 88 Tryz.underlying23 hi0 hz0 hz1 hz2 rfl (by omega) zero39 _ qs.length (tcells qs) rfl H3.out.1.own ⟨w3.heap.size, 0, none⟩ 1 1 (TP.cs (⟨cg, co, cn, cc, ceo, cen, cec, xa, xb, xc, xd⟩ : TP)) rfl rfl (World.news_of_block (heap_alloc_new w3 _)) (TP.cs_one (⟨cg, co, cn, cc, ceo, cen, cec, xa, xb, xc, xd⟩ : TP)) (TP.cs_clean (⟨cg, co, cn, cc, ceo, cen, cec, xa, xb, xc, xd⟩ : TP)) (by omega) (by have := HK.out.1; unfold maxLen; omega) (by have := HK.out.1; omega) HK.out.2.2 ?_)
          intro g4 c4 w4 o4 k4
          have H4 : Hid (TogSt w1 (w.heap.size + 1) w1.heap.size kk D f (fun z => left z && !z.sameKey kl) cnt2 (.slice (some ⟨g4, 0, none⟩) (qs.length + 1) c4) (qs ++ [(⟨cg, co, cn, cc, ceo, cen, cec, xa, xb, xc, xd⟩ : TP)]) (ms ++ [⟨r, ⟨xa, xb, xc, xd⟩⟩]) w4) :=
            HF.out H3.out.2.1 H3.out.1 H3.out.2.2 o4 k4 HK.out.2.1 HC.out
          clear o4 k4 d0 d1 d2 d3 e0 e1 e2
          go_wp2_with fail
          go_roundg cnt2
          case measure => have := HW.out.2.2.2.2.2.1; omega
          case rel => exact ⟨_, cnt2, _, _, Nat.le_refl _, H4.out⟩
  · have HK : Hid (k ≠ 0 ∧ Acc ls (fun _ => none) f k ∧ Below w.heap.size w w1) := ⟨hk, hA, chain H.out.2.2.2.2.1 hb⟩
    clear hA hS hb
    go_wp2_with fail
    go_ret2
    exact ⟨none, 0, 0, [], [], k, rfl, PolyAt.nil _, ⟨f, k, HK.out.2.1, fun _ => ⟨rfl, rfl⟩, fun e => absurd e HK.out.1⟩, HK.out.2.2⟩
end Go.Proofs.YtbdldijgcmgfaaaGreat

/-! The bound of the laws. -/
namespace Go.Proofs.YtbdldijgcmgfaaaGreat
open Go.RowKit

set_option maxRecDepth 100000 in
set_option maxHeartbeats 2000000 in
theorem heavy_b (lo : Option Addr) (n cap : Nat) (ps : List TP) (ls : List TL) (w : World) (h : PolyAt w lo n cap ps ls) :
    Calls Tryz.prog 10 #[.slice lo n cap] w fun e w' => ∃ b : Bool, e = .returned (.bool b) ∧ (b = false → n ≤ 80) ∧ Below w.heap.size w w' := by
  have hN := h.most'
  have H : Hid (PolyAt w lo n cap ps ls) := h
  clear h
  by_cases h80 : n ≤ 80
  · have h8 : (n : Int) ≤ 80 := by omega
    go_enter Tryz.func10, Tryz.ntmps10
    go_wp2_with fail
    go_loopg [3] n (fun m i wr => ∃ j : Nat, j ≤ n ∧ n - j ≤ m ∧ i = .int .i64 j ∧ Hid (Below w.heap.size w wr))
    case atStart => exact ⟨0, Nat.zero_le _, by omega, rfl, Below.refl _ _⟩
    case round =>
      obtain ⟨j, hj, hjr, rfl, hO⟩ := hrel
      by_cases h0 : j < n
      · obtain ⟨bk, off, p, t, rfl, hpj, htj, hat, hel, hblt⟩ := (H.out.below hO.out).elem h0
        have hjn : (j : Int) < (n : Int) := by omega
        have hj0 : (0 : Int) ≤ (j : Int) := by omega
        obtain ⟨neg, no, nn, nc, eo, en, ec, pa, pb, pc, pd⟩ := p
        obtain ⟨e0, e1, e2, _, _, _, _⟩ := hel
        dsimp only at e0 e1 e2
        have HJ : Hid (j < n ∧ n - j ≤ _) := ⟨h0, hjr⟩
        have hn1 : (nn : Int) ≤ 9223372036854775807 := nn_most hat.rat.num
        have hn2 : (en : Int) ≤ 9223372036854775807 := nn_most hat.rat.den
        clear hpj htj hat hblt hj hjr h0
        by_cases ha : nn ≤ 12
        · have ha' : (nn : Int) ≤ 12 := by omega
          by_cases hb : en ≤ 12
          · have hb' : (en : Int) ≤ 12 := by omega
            go_wp2_with fail
            go_roundg (n - (j + 1))
            case measure => have := HJ.out.1; have := HJ.out.2; omega
            case rel => exact ⟨j + 1, by have := HJ.out.1; omega, Nat.le_refl _, by go_num, hO.out⟩
          · have hb' : ¬ (en : Int) ≤ 12 := by omega
            go_wp2_with fail
            go_ret
            exact ⟨.inr rfl, hO.out⟩
        · have ha' : ¬ (nn : Int) ≤ 12 := by omega
          go_wp2_with fail
          go_ret
          exact ⟨.inr rfl, hO.out⟩
      · have hjn : j = n := by omega
        subst hjn
        clear hj hjr h0
        go_wp2_with fail
        go_ret
        exact ⟨false, rfl, fun _ => h80, hO.out⟩
  · have h8 : ¬ (n : Int) ≤ 80 := by omega
    go_enter Tryz.func10, Tryz.ntmps10
    go_wp2_with fail
    go_ret
    exact ⟨rfl, Below.refl _ _⟩
end Go.Proofs.YtbdldijgcmgfaaaGreat

/-! A number as a term. -/
namespace Go.Proofs.YtbdldijgcmgfaaaGreat
open Go.RowKit

/-- A term is stored into its variable. -/
def set7 (W : World) (B : Nat) (p : TP) : World := ((((((W.setCell ⟨B, 0, none⟩ (.bool p.neg)).setCell ⟨B, 1, none⟩ (.slice p.no p.nn p.nc)).setCell ⟨B, 2, none⟩ (.slice p.eo p.en p.ec)).setCell ⟨B, 3, none⟩ (.int .i64 p.a)).setCell ⟨B, 4, none⟩ (.int .i64 p.b)).setCell ⟨B, 5, none⟩ (.int .i64 p.c)).setCell ⟨B, 6, none⟩ (.int .i64 p.d)
theorem MBx.s0 {W : World} {B : Nat} {g : Bool} {no : Option Addr} {nn nc : Nat} {eo : Option Addr} {en ec : Nat} {a b c d : Int} (h : MBx W B ⟨g, no, nn, nc, eo, en, ec, a, b, c, d⟩) (x : Bool) : MBx (W.setCell ⟨B, 0, none⟩ (.bool x)) B ⟨x, no, nn, nc, eo, en, ec, a, b, c, d⟩ := set_cells h 0 (.bool x)
theorem MBx.s1 {W : World} {B : Nat} {g : Bool} {no : Option Addr} {nn nc : Nat} {eo : Option Addr} {en ec : Nat} {a b c d : Int} (h : MBx W B ⟨g, no, nn, nc, eo, en, ec, a, b, c, d⟩) (x : Option Addr) (y z : Nat) : MBx (W.setCell ⟨B, 1, none⟩ (.slice x y z)) B ⟨g, x, y, z, eo, en, ec, a, b, c, d⟩ := set_cells h 1 (.slice x y z)
theorem MBx.s2 {W : World} {B : Nat} {g : Bool} {no : Option Addr} {nn nc : Nat} {eo : Option Addr} {en ec : Nat} {a b c d : Int} (h : MBx W B ⟨g, no, nn, nc, eo, en, ec, a, b, c, d⟩) (x : Option Addr) (y z : Nat) : MBx (W.setCell ⟨B, 2, none⟩ (.slice x y z)) B ⟨g, no, nn, nc, x, y, z, a, b, c, d⟩ := set_cells h 2 (.slice x y z)
theorem MBx.s3 {W : World} {B : Nat} {g : Bool} {no : Option Addr} {nn nc : Nat} {eo : Option Addr} {en ec : Nat} {a b c d : Int} (h : MBx W B ⟨g, no, nn, nc, eo, en, ec, a, b, c, d⟩) (x : Int) : MBx (W.setCell ⟨B, 3, none⟩ (.int .i64 x)) B ⟨g, no, nn, nc, eo, en, ec, x, b, c, d⟩ := set_cells h 3 (.int .i64 x)
theorem MBx.s4 {W : World} {B : Nat} {g : Bool} {no : Option Addr} {nn nc : Nat} {eo : Option Addr} {en ec : Nat} {a b c d : Int} (h : MBx W B ⟨g, no, nn, nc, eo, en, ec, a, b, c, d⟩) (x : Int) : MBx (W.setCell ⟨B, 4, none⟩ (.int .i64 x)) B ⟨g, no, nn, nc, eo, en, ec, a, x, c, d⟩ := set_cells h 4 (.int .i64 x)
theorem MBx.s5 {W : World} {B : Nat} {g : Bool} {no : Option Addr} {nn nc : Nat} {eo : Option Addr} {en ec : Nat} {a b c d : Int} (h : MBx W B ⟨g, no, nn, nc, eo, en, ec, a, b, c, d⟩) (x : Int) : MBx (W.setCell ⟨B, 5, none⟩ (.int .i64 x)) B ⟨g, no, nn, nc, eo, en, ec, a, b, x, d⟩ := set_cells h 5 (.int .i64 x)
theorem MBx.s6 {W : World} {B : Nat} {g : Bool} {no : Option Addr} {nn nc : Nat} {eo : Option Addr} {en ec : Nat} {a b c d : Int} (h : MBx W B ⟨g, no, nn, nc, eo, en, ec, a, b, c, d⟩) (x : Int) : MBx (W.setCell ⟨B, 6, none⟩ (.int .i64 x)) B ⟨g, no, nn, nc, eo, en, ec, a, b, c, x⟩ := set_cells h 6 (.int .i64 x)
theorem MBx.set {W : World} {B : Nat} {q : TP} (h : MBx W B q) (p : TP) : MBx (set7 W B p) B p := by
  obtain ⟨g, no, nn, nc, eo, en, ec, a, b, c, d⟩ := q
  obtain ⟨g', no', nn', nc', eo', en', ec', a', b', c', d'⟩ := p
  unfold set7
  exact (((((((h.s0 g').s1 no' nn' nc').s2 eo' en' ec').s3 a').s4 b').s5 c').s6 d')
theorem set7_grown (W : World) (B : Nat) (p : TP) : W.grownBy (set7 W B p) (some B) := by
  have s1 : ∀ (V : World) (k : Nat) (y : Value), (V.setCell ⟨B, k, none⟩ y).heap.size = V.heap.size := fun V k y => by simp [World.setCell]
  have o1 : ∀ (V : World) (k : Nat) (y : Value), (V.setCell ⟨B, k, none⟩ y).os = V.os := fun V k y => rfl
  have o2 : ∀ (V : World) (k : Nat) (y : Value), (V.setCell ⟨B, k, none⟩ y).tape = V.tape := fun V k y => rfl
  have o3 : ∀ (V : World) (k : Nat) (y : Value), (V.setCell ⟨B, k, none⟩ y).output = V.output := fun V k y => rfl
  refine ⟨?_, ?_, ?_, ?_, fun k hk hne => ?_⟩
  · unfold set7
    rw [o1, o1, o1, o1, o1, o1, o1]
  · unfold set7
    rw [o2, o2, o2, o2, o2, o2, o2]
  · unfold set7
    rw [o3, o3, o3, o3, o3, o3, o3]
  · unfold set7
    rw [s1, s1, s1, s1, s1, s1, s1]
    exact Nat.le_refl _
  · have hb : k ≠ B := fun e => hne (by rw [e])
    have e1 : ∀ (V : World) (j : Nat) (y : Value), (V.setCell ⟨B, j, none⟩ y).heap[k]? = V.heap[k]? := fun V j y => Below.heap_setCell V ⟨B, j, none⟩ y k hb
    unfold set7
    rw [e1, e1, e1, e1, e1, e1, e1]
theorem MBx.clean {W : World} {B : Nat} {q : TP} (h : MBx W B q) : CleanB W 39 B := ⟨_, (0, 0), h, by
  intro u hu z
  simp at hu
  rcases hu with rfl | rfl | rfl | rfl | rfl | rfl | rfl <;> simp⟩
theorem RatAt.set7 {W : World} {B : Nat} {q : TP} {po : Option Addr} {pn pc : Nat} {qo : Option Addr} {qn qc : Nat} {r : RatL} (h : RatAt W po pn pc qo qn qc r) (hB : MBx W B q) (p : TP) : RatAt (set7 W B p) po pn pc qo qn qc r :=
  h.grown (set7_grown W B p) (fun g hg => by cases hg; exact hB.clean)
theorem below_set7 {n₀ : Nat} {a W : World} (h : Below n₀ a W) {B : Nat} (hB : n₀ ≤ B) (p : TP) : Below n₀ a (set7 W B p) := ((((((h.setCell hB _).setCell hB _).setCell hB _).setCell hB _).setCell hB _).setCell hB _).setCell hB _

theorem load_t {w : World} {B : Nat} {p : TP} (h : MBx w B p) : (loadVar 39 ⟨B, 0, none⟩).run Tryz.prog w = .ok (.agg #[.bool p.neg, .slice p.no p.nn p.nc, .slice p.eo p.en p.ec, .int .i64 p.a, .int .i64 p.b, .int .i64 p.c, .int .i64 p.d]) w :=
  run_loadVar_row w B 39 39 _ (0, 0) _ h Tryz.underlying39 rfl (by kernel_rfl)
theorem results_t1 {fn : Func} {t : Tmp} (hf : fn.results = #[.cell t 39]) (tmps : Array Value) {w : World} {B : Nat} {p : TP} (h : MBx w B p) (ht : tmps[t]?.getD undef = .pointer (some ⟨B, 0, none⟩)) :
    (results fn tmps).run Tryz.prog w = .ok (.agg #[.bool p.neg, .slice p.no p.nn p.nc, .slice p.eo p.en p.ec, .int .i64 p.a, .int .i64 p.b, .int .i64 p.c, .int .i64 p.d]) w := by
  simp only [results, hf]
  simp [asAddr, ht, load_t h]

set_option maxRecDepth 100000 in
set_option maxHeartbeats 2000000 in
theorem one_b (n a b c d : Int) (w : World) (h0 : -9223372036854775808 ≤ n) (h1 : n ≤ 9223372036854775807) :
    Calls Tryz.prog 29 #[.int .i64 n, .agg #[.int .i64 a, .int .i64 b, .int .i64 c, .int .i64 d]] w fun e w' => ∃ p r, e = .returned (.agg #[.bool p.neg, .slice p.no p.nn p.nc, .slice p.eo p.en p.ec, .int .i64 p.a, .int .i64 p.b, .int .i64 p.c, .int .i64 p.d]) ∧ TermAt w' p ⟨r, ⟨a, b, c, d⟩⟩ ∧ Is r n 1 ∧ Below w.heap.size w w' := by
  have b2 : Below w.heap.size w ((w.alloc (.cells #[.int .i64 a, .int .i64 b, .int .i64 c, .int .i64 d] 37)).alloc (.cells #[.bool false, .slice none 0 0, .slice none 0 0, .int .i64 0, .int .i64 0, .int .i64 0, .int .i64 0] 39)) := below2' _ _ _
  have m1 : Mn.MBox ((w.alloc (.cells #[.int .i64 a, .int .i64 b, .int .i64 c, .int .i64 d] 37)).alloc (.cells #[.bool false, .slice none 0 0, .slice none 0 0, .int .i64 0, .int .i64 0, .int .i64 0, .int .i64 0] 39)) w.heap.size a b c d := (Mn.MBox.new _ _ _ _ _).alloc _
  have m2 : MBx ((w.alloc (.cells #[.int .i64 a, .int .i64 b, .int .i64 c, .int .i64 d] 37)).alloc (.cells #[.bool false, .slice none 0 0, .slice none 0 0, .int .i64 0, .int .i64 0, .int .i64 0, .int .i64 0] 39)) (w.heap.size + 1) ⟨false, none, 0, 0, none, 0, 0, 0, 0, 0, 0⟩ := by
    have h := MBx.new (w.alloc (.cells #[.int .i64 a, .int .i64 b, .int .i64 c, .int .i64 d] 37)) ⟨false, none, 0, 0, none, 0, 0, 0, 0, 0, 0⟩
    rw [World.size_alloc] at h
    exact h
  have H : Hid (Below w.heap.size w ((w.alloc (.cells #[.int .i64 a, .int .i64 b, .int .i64 c, .int .i64 d] 37)).alloc (.cells #[.bool false, .slice none 0 0, .slice none 0 0, .int .i64 0, .int .i64 0, .int .i64 0, .int .i64 0] 39)) ∧ Mn.MBox ((w.alloc (.cells #[.int .i64 a, .int .i64 b, .int .i64 c, .int .i64 d] 37)).alloc (.cells #[.bool false, .slice none 0 0, .slice none 0 0, .int .i64 0, .int .i64 0, .int .i64 0, .int .i64 0] 39)) w.heap.size a b c d ∧ MBx ((w.alloc (.cells #[.int .i64 a, .int .i64 b, .int .i64 c, .int .i64 d] 37)).alloc (.cells #[.bool false, .slice none 0 0, .slice none 0 0, .int .i64 0, .int .i64 0, .int .i64 0, .int .i64 0] 39)) (w.heap.size + 1) ⟨false, none, 0, 0, none, 0, 0, 0, 0, 0, 0⟩) := ⟨b2, m1, m2⟩
  have c0 := m1.c0
  have c1 := m1.c1
  have c2 := m1.c2
  have c3 := m1.c3
  clear b2 m1 m2
  go_enter Tryz.func29, Tryz.ntmps29
  go_wp2_with fail
  have hbz : Below ((w.alloc (.cells #[.int .i64 a, .int .i64 b, .int .i64 c, .int .i64 d] 37)).alloc (.cells #[.bool false, .slice none 0 0, .slice none 0 0, .int .i64 0, .int .i64 0, .int .i64 0, .int .i64 0] 39)).heap.size ((w.alloc (.cells #[.int .i64 a, .int .i64 b, .int .i64 c, .int .i64 d] 37)).alloc (.cells #[.bool false, .slice none 0 0, .slice none 0 0, .int .i64 0, .int .i64 0, .int .i64 0, .int .i64 0] 39)) ((w.alloc (.cells #[.int .i64 a, .int .i64 b, .int .i64 c, .int .i64 d] 37)).alloc (.cells #[.bool false, .slice none 0 0, .slice none 0 0, .int .i64 0, .int .i64 0, .int .i64 0, .int .i64 0] 39)).drew := (Below.refl _ _).drew
  have HZ : Hid _ := hbz
  clear hbz
  go_region_with (first
    | (go_at_call 31; refine (rof_r n _ h0 h1).mono ?_; rintro e w1 ⟨neg, no, nn, nc, eo, en, ec, r, rfl, q1, q2, q3, q4⟩; have q5 := HZ.out.trans (q4.mono HZ.out.size); have mb := H.out.2.1.below q5; have tb := H.out.2.2.below q5; have d0 := mb.c0; have d1 := mb.c1; have d2 := mb.c2; have d3 := mb.c3; have g0 := tb.f 0; have g1 := tb.f 1; have g2 := tb.f 2; have g3 := tb.f 3; have g4 := tb.f 4; have g5 := tb.f 5; have g6 := tb.f 6; obtain ⟨z0, z1, z2, z3, z4, z5, z6⟩ := tb.el; dsimp only at z0 z1 z2 z3 z4 z5 z6; have HX : Hid (r.neg = neg ∧ RatAt w1 no nn nc eo en ec r ∧ Is r n 1 ∧ Below w.heap.size w w1 ∧ MBx w1 (w.heap.size + 1) ⟨false, none, 0, 0, none, 0, 0, 0, 0, 0, 0⟩) := ⟨q1, q2, q3, chain H.out.1 q5, tb⟩; clear q1 q2 q3 q4 q5 mb tb))
  all_goals
    have HS : Hid (MBx (set7 w1 (w.heap.size + 1) ⟨neg, no, nn, nc, eo, en, ec, a, b, c, d⟩) (w.heap.size + 1) ⟨neg, no, nn, nc, eo, en, ec, a, b, c, d⟩ ∧ RatAt (set7 w1 (w.heap.size + 1) ⟨neg, no, nn, nc, eo, en, ec, a, b, c, d⟩) no nn nc eo en ec r ∧ Below w.heap.size w (set7 w1 (w.heap.size + 1) ⟨neg, no, nn, nc, eo, en, ec, a, b, c, d⟩)) :=
      ⟨HX.out.2.2.2.2.set _, HX.out.2.1.set7 HX.out.2.2.2.2 _, below_set7 HX.out.2.2.2.1 (by omega) _⟩
    clear d0 d1 d2 d3 g0 g1 g2 g3 g4 g5 g6 z0 z1 z2 z3 z4 z5 z6
    go_wp2_with fail
    exact bodyPost_ret (results_t1 rfl _ HS.out.1 rfl) rfl ⟨⟨neg, no, nn, nc, eo, en, ec, a, b, c, d⟩, r, rfl, ⟨HS.out.2.1, HX.out.1, rfl⟩, HX.out.2.2.1, HS.out.2.2⟩
end Go.Proofs.YtbdldijgcmgfaaaGreat

/-! Lists of polynomials: do all of them may be. -/
namespace Go.Proofs.YtbdldijgcmgfaaaGreat
open Go.RowKit

/-- A slice of polynomials. -/
structure ListAt (W : World) (lo : Option Addr) (m : Nat) (lss : List (List TL)) : Prop where
  len : lss.length = m
  most : (m : Int) ≤ 9223372036854775807
  elem : ∀ i, i < m → ∃ b off po pn pc ps ls, lo = some ⟨b, off, none⟩ ∧ W.cell? ⟨b, off + i, none⟩ = some (.slice po pn pc) ∧ lss[i]? = some ls ∧ PolyAt W po pn pc ps ls ∧ b < W.heap.size
theorem ListAt.below {W W' : World} {lo : Option Addr} {m : Nat} {lss : List (List TL)} (h : ListAt W lo m lss) (hb : Below W.heap.size W W') : ListAt W' lo m lss := by
  refine ⟨h.len, h.most, fun i hi => ?_⟩
  obtain ⟨b, off, po, pn, pc, ps, ls, h1, h2, h3, h4, h5⟩ := h.elem i hi
  exact ⟨b, off, po, pn, pc, ps, ls, h1, (hb.cell (p := ⟨b, off + i, none⟩) h5).trans h2, h3, h4.below hb, Nat.lt_of_lt_of_le h5 hb.size⟩

set_option maxRecDepth 100000 in
set_option maxHeartbeats 1000000 in
theorem notMay_b (o : Int) (B : Nat) (po : Option Addr) (pn pc : Nat) (ps : List TP) (ls : List TL) (w : World) (h : PolyAt w po pn pc ps ls) (hc : w.cell? ⟨B, 0, none⟩ = some (.int .i64 o)) (b : Bool) (hb : b = true ↔ MayP o ls) :
    Calls Tryz.prog 46 #[.slice po pn pc, .pointer (some ⟨B, 0, none⟩)] w fun e w' => e = .returned (.bool (!b)) ∧ Below w.heap.size w w' := by
  have H : Hid (PolyAt w po pn pc ps ls ∧ (b = true ↔ MayP o ls)) := ⟨h, hb⟩
  clear h hb
  go_enter Tryz.func46, Tryz.ntmps46
  go_wp2_with fail
  refine (may_b o _ _ _ _ _ _ H.out.1 b H.out.2).mono ?_
  rintro e w1 ⟨rfl, b1⟩
  have B1 : Hid (Below w.heap.size w w1) := b1
  clear b1
  go_wp2_with fail
  go_ret
  exact ⟨rfl, B1.out⟩

set_option maxRecDepth 100000 in
set_option maxHeartbeats 2000000 in
theorem index_b (o : Int) (B : Nat) (lo : Option Addr) (m cap : Nat) (lss : List (List TL)) (w : World) (h : ListAt w lo m lss) (hB : B < w.heap.size) (hc : w.cell? ⟨B, 0, none⟩ = some (.int .i64 o)) :
    Calls Tryz.prog 71 #[.slice lo m cap, .func (.func 46) #[] #[.pointer (some ⟨B, 0, none⟩)]] w fun e w' => ∃ r : Int, e = .returned (.int .i64 r) ∧ (0 ≤ r ↔ ¬ ∀ p ∈ lss, MayP o p) ∧ Below w.heap.size w w' := by
  have hN := h.most
  have H : Hid (ListAt w lo m lss ∧ B < w.heap.size ∧ w.cell? ⟨B, 0, none⟩ = some (.int .i64 o)) := ⟨h, hB, hc⟩
  clear h hB hc
  go_enter Tryz.func71, Tryz.ntmps71
  go_wp2_with fail
  go_loopg [8] m (fun g i wr => ∃ j : Nat, j ≤ m ∧ m - j ≤ g ∧ i = .int .i64 j ∧ Hid (Below w.heap.size w wr ∧ ∀ i t, i < j → lss[i]? = some t → MayP o t))
  case atStart => exact ⟨0, Nat.zero_le _, by omega, rfl, Below.refl _ _, fun i t h => absurd h (by omega)⟩
  case round =>
    obtain ⟨j, hj, hjr, rfl, hO⟩ := hrel
    by_cases h0 : j < m
    · obtain ⟨bk, off, po, pn, pc, ps, ls, rfl, hcell, hls, hpo, hblt⟩ := (H.out.1.below hO.out.1).elem j h0
      have hjn : (j : Int) < (m : Int) := by omega
      have hj0 : (0 : Int) ≤ (j : Int) := by omega
      have HC := (hO.out.1.cell (p := ⟨B, 0, none⟩) H.out.2.1).trans H.out.2.2
      have HP : Hid (PolyAt _ po pn pc ps ls ∧ lss[j]? = some ls ∧ j < m ∧ m - j ≤ _) := ⟨hpo, hls, h0, hjr⟩
      clear hls hpo hblt hj hjr h0
      by_cases hm : MayP o ls
      · have HM : Hid (MayP o ls) := hm
        clear hm
        go_wp2_with fail
        refine (notMay_b o B _ _ _ _ _ _ HP.out.1 HC true (yes_iff HM.out)).mono ?_
        rintro e w3 ⟨rfl, b3⟩
        have H3 : Hid (Below w.heap.size w w3) := chain hO.out.1 b3
        clear b3 hcell
        go_wp2_with fail
        go_roundg (m - (j + 1))
        case measure => have := HP.out.2.2.1; have := HP.out.2.2.2; omega
        case rel =>
          refine ⟨j + 1, by have := HP.out.2.2.1; omega, Nat.le_refl _, by go_num, H3.out, fun i s hi hs => ?_⟩
          by_cases hij : i = j
          · subst hij
            have := HP.out.2.1.symm.trans hs
            injection this with this
            rw [← this]
            exact HM.out
          · exact hO.out.2 i s (by omega) hs
      · have HM : Hid (¬ MayP o ls) := hm
        clear hm
        go_wp2_with fail
        refine (notMay_b o B _ _ _ _ _ _ HP.out.1 HC false (no_iff HM.out)).mono ?_
        rintro e w3 ⟨rfl, b3⟩
        have H3 : Hid (Below w.heap.size w w3) := chain hO.out.1 b3
        clear b3 hcell
        go_wp2_with fail
        go_ret
        exact ⟨_, rfl, ⟨fun _ h => HM.out (h _ (List.mem_of_getElem? HP.out.2.1)), fun _ => by omega⟩, H3.out⟩
    · have hjn : j = m := by omega
      subst hjn
      have HM : Hid ((∀ p ∈ lss, MayP o p) ∧ Below w.heap.size w _) := ⟨fun t ht => by
        obtain ⟨i, hi⟩ := List.mem_iff_getElem?.1 ht
        refine hO.out.2 i t ?_ hi
        have := (List.getElem?_eq_some_iff.1 hi).1
        rw [← H.out.1.len]
        exact this, hO.out.1⟩
      clear hj hjr h0
      go_wp2_with fail
      go_ret
      exact ⟨_, rfl, ⟨fun h => absurd h (by omega), fun h => absurd HM.out.1 h⟩, HM.out.2⟩

set_option maxRecDepth 100000 in
set_option maxHeartbeats 1000000 in
theorem contains_b (o : Int) (B : Nat) (lo : Option Addr) (m cap : Nat) (lss : List (List TL)) (w : World) (h : ListAt w lo m lss) (hB : B < w.heap.size) (hc : w.cell? ⟨B, 0, none⟩ = some (.int .i64 o)) (b : Bool) (hb : b = true ↔ ¬ ∀ p ∈ lss, MayP o p) :
    Calls Tryz.prog 47 #[.slice lo m cap, .func (.func 46) #[] #[.pointer (some ⟨B, 0, none⟩)]] w fun e w' => e = .returned (.bool b) ∧ Below w.heap.size w w' := by
  have hi := index_b o B lo m cap lss w h hB hc
  clear h hB hc
  go_enter Tryz.func47, Tryz.ntmps47
  go_wp2_with fail
  refine hi.mono ?_
  rintro e w1 ⟨r, rfl, hr, b1⟩
  have eb : decide (0 ≤ r) = b := by
    rw [Bool.eq_iff_iff, decide_eq_true_iff, hr, hb]
  have B1 : Hid (Below w.heap.size w w1) := b1
  clear b1 hr hb
  subst eb
  go_wp2_with fail
  go_ret
  exact ⟨by simp, B1.out⟩
end Go.Proofs.YtbdldijgcmgfaaaGreat

/-! Make. -/
namespace Go.Proofs.YtbdldijgcmgfaaaGreat
open Go.RowKit

set_option maxRecDepth 100000 in
set_option maxHeartbeats 4000000 in
theorem make_b (o : Int) (lo : Option Addr) (n cap : Nat) (ps : List TP) (ls : List TL) (w : World) (h : PolyAt w lo n cap ps ls) (hn : n ≤ 1000000) :
    Calls Tryz.prog 12 #[.int .i64 o, .slice lo n cap] w fun e w' => ∃ lo' n' cap' qs ms k, e = .returned (.tuple #[.slice lo' n' cap', .int .i64 k]) ∧ PolyAt w' lo' n' cap' qs ms ∧ MakeIs o ls ms k ∧ Below w.heap.size w w' := by
  have hN := h.most'
  have H : Hid (PolyAt w lo n cap ps ls ∧ n ≤ 1000000) := ⟨h, hn⟩
  clear h hn
  go_enter Tryz.func12, Tryz.ntmps12
  go_wp2_with fail
  by_cases ho : Ord o
  · have HO : Hid (Ord o) := ho
    refine (isOrder_b o true _ (yes_iff ho)).mono ?_
    rintro e w1 ⟨rfl, b1⟩
    have H1 : Hid (Below w.heap.size w w1) := b1
    clear b1 ho
    go_wp2_with fail
    go_loopg [13] n (fun m i wr => ∃ j : Nat, j ≤ n ∧ n - j ≤ m ∧ i = .int .i64 j ∧ Hid (Below w.heap.size w wr ∧ ∀ i t, i < j → ls[i]? = some t → MayT t))
    case atStart => exact ⟨0, Nat.zero_le _, by omega, rfl, H1.out, fun i t h => absurd h (by omega)⟩
    case round =>
      obtain ⟨j, hj, hjr, rfl, hO⟩ := hrel
      by_cases h0 : j < n
      · obtain ⟨bk, off, p, t, rfl, hpj, htj, hat, hel, hblt⟩ := (H.out.1.below hO.out.1).elem h0
        have hjn : (j : Int) < (n : Int) := by omega
        have hj0 : (0 : Int) ≤ (j : Int) := by omega
        obtain ⟨pg, no, nn, nc, eo, en, ec, pa, pb, pc, pd⟩ := p
        obtain ⟨e0, e1, e2, e3, e4, e5, e6⟩ := hel
        dsimp only at e0 e1 e2 e3 e4 e5 e6
        have HA : Hid (TermAt (wr.alloc (.cells #[.bool pg, .slice no nn nc, .slice eo en ec, .int .i64 pa, .int .i64 pb, .int .i64 pc, .int .i64 pd] 39)) ⟨pg, no, nn, nc, eo, en, ec, pa, pb, pc, pd⟩ t ∧ ls[j]? = some t ∧ j < n ∧ n - j ≤ _ ∧ Below w.heap.size w (wr.alloc (.cells #[.bool pg, .slice no nn nc, .slice eo en ec, .int .i64 pa, .int .i64 pb, .int .i64 pc, .int .i64 pd] 39))) := ⟨hat.below (bel1 _ _), htj, h0, hjr, chain hO.out.1 (bel1 _ _)⟩
        clear hpj htj hat hblt hj hjr h0
        by_cases hm : MayT t
        · have HM : Hid (MayT t) := hm
          clear hm
          go_wp2_with fail
          refine (termMay_b _ t true _ HA.out.1 (yes_iff HM.out)).mono ?_
          rintro e w3 ⟨rfl, b3⟩
          have H3 : Hid (Below w.heap.size w w3) := chain HA.out.2.2.2.2 b3
          clear b3 e0 e1 e2 e3 e4 e5 e6
          go_wp2_with fail
          go_roundg (n - (j + 1))
          case measure => have := HA.out.2.2.1; have := HA.out.2.2.2.1; omega
          case rel =>
            refine ⟨j + 1, by have := HA.out.2.2.1; omega, Nat.le_refl _, by go_num, H3.out, fun i s hi hs => ?_⟩
            by_cases hij : i = j
            · subst hij
              have := HA.out.2.1.symm.trans hs
              injection this with this
              rw [← this]
              exact HM.out
            · exact hO.out.2 i s (by omega) hs
        · have HM : Hid (¬ MayT t) := hm
          clear hm
          go_wp2_with fail
          refine (termMay_b _ t false _ HA.out.1 (no_iff HM.out)).mono ?_
          rintro e w3 ⟨rfl, b3⟩
          have H3 : Hid (Below w.heap.size w w3) := chain HA.out.2.2.2.2 b3
          clear b3 e0 e1 e2 e3 e4 e5 e6
          go_wp2_with fail
          go_ret2
          exact ⟨none, 0, 0, [], [], 1, rfl, PolyAt.nil _, ⟨fun _ => ⟨rfl, rfl⟩, fun h => absurd (h.2 t (List.mem_of_getElem? HA.out.2.1)) HM.out⟩, H3.out⟩
      · have hjn : j = n := by omega
        subst hjn
        have HM : Hid (∀ t ∈ ls, MayT t) := fun t ht => by
          obtain ⟨i, hi⟩ := List.mem_iff_getElem?.1 ht
          refine hO.out.2 i t ?_ hi
          have := (List.getElem?_eq_some_iff.1 hi).1
          rw [← H.out.1.len]
          exact this
        clear hj hjr h0
        go_wp2_with fail
        refine (together_b o _ _ _ _ _ _ HO.out (H.out.1.below hO.out.1) HM.out H.out.2).mono ?_
        rintro e w3 ⟨lo3, n3, cap3, qs, ms, k, rfl, q1, q2, q3⟩
        have H3 : Hid (PolyAt w3 lo3 n3 cap3 qs ms ∧ TogIs o ls ms k ∧ Below w.heap.size w w3) := ⟨q1, q2, chain hO.out.1 q3⟩
        clear q1 q2 q3
        go_wp2_with fail
        go_ret2
        exact ⟨lo3, n3, cap3, qs, ms, k, rfl, H3.out.1, ⟨fun h => absurd ⟨HO.out, HM.out⟩ h, fun _ => H3.out.2.1⟩, H3.out.2.2⟩
  · have HO : Hid (¬ Ord o) := ho
    refine (isOrder_b o false _ (no_iff ho)).mono ?_
    rintro e w1 ⟨rfl, b1⟩
    have H1 : Hid (Below w.heap.size w w1) := b1
    clear b1 ho
    go_wp2_with fail
    go_ret2
    exact ⟨none, 0, 0, [], [], 1, rfl, PolyAt.nil _, ⟨fun _ => ⟨rfl, rfl⟩, fun h => absurd h.1 HO.out⟩, H1.out⟩
end Go.Proofs.YtbdldijgcmgfaaaGreat

/-! The reference's Make. -/
namespace Go.Proofs.YtbdldijgcmgfaaaGreat
open Go.RowKit

/-- A step of the reference's list. -/
theorem Ins.acc {o : Int} {t : TL} {us out : List TL} {k : Int} {f : Mo → Option RatL} (h : Ins o t us out k) (ho : Ord o) (ht : MayT t) (hu : ∀ s ∈ us, MayT s) (hf : Has o us f) :
    (k ≠ 0 → ∀ l g, Acc (t :: l) f g k) ∧ (k = 0 → ∃ f', Has o out f' ∧ (∀ l g j, Acc l f' g j → Acc (t :: l) f g j) ∧ ∀ s ∈ out, MayT s) := by
  obtain ⟨h1, h2, h3⟩ := Ins.ok ho ht hu hf h
  cases e : f t.m with
  | none =>
    obtain ⟨a, b⟩ := h1 e
    exact ⟨fun hk => absurd a hk, fun hk => ⟨_, b, fun l g j hj => Acc.step0 e hj, h3 hk⟩⟩
  | some r =>
    obtain ⟨x, j, a, b, c⟩ := h2 r e
    by_cases hj : j = 0
    · subst hj
      exact ⟨fun hk => absurd (c rfl).1 hk, fun hk => ⟨_, (c rfl).2, fun l g i hi => Acc.step1 e a hi, h3 hk⟩⟩
    · have := b hj
      subst this
      exact ⟨fun hk l g => Acc.stop e a hk, fun hk => absurd hk hj⟩

def nz (t : TL) : Bool := decide (t.c.top ≠ 0)
theorem Has.tog {o : Int} {ls us out : List TL} {k : Int} {f : Mo → Option RatL} (h : Has o us f) (ha : Acc ls (fun _ => none) f 0) (h1 : 60 < (us.filter nz).length → out = [] ∧ k = 90) (h2 : (us.filter nz).length ≤ 60 → out = us.filter nz ∧ k = 0) : TogIs o ls out k := by
  refine ⟨f, 0, ha, fun e => absurd rfl e, fun _ => ⟨us.filter nz, h.falls.sublist List.filter_sublist, fun t => ?_, h1, h2⟩⟩
  rw [List.mem_filter, h.mem]
  simp [nz]

theorem PolyAt.made' (w : World) : PolyAt (w.alloc (.cells #[] 39)) (some ⟨w.heap.size, 0, none⟩) 0 0 [] [] := by
  obtain ⟨lo, cap, e, h, _⟩ := (TermsOwn.made w w.heap.size (Nat.le_refl _)).poly
  injection e with e1 e2 e3
  subst e1 e3
  exact h

/-- The reference's list so far. -/
structure RMk (o : Int) (w wr : World) (po : Option Addr) (pn pc : Nat) (vs : List TP) (us : List TL) (ls : List TL) (j : Nat) : Prop where
  bel : Below w.heap.size w wr
  at' : PolyAt wr po pn pc vs us
  len : pn ≤ j
  may : ∀ s ∈ us, MayT s
  has : ∃ f, Has o us f ∧ ∀ g k, Acc (ls.drop j) f g k → Acc ls (fun _ => none) g k

theorem RMk.step {o : Int} {w wr w' : World} {po ro : Option Addr} {pn pc rn rc : Nat} {vs qs : List TP} {us out ls : List TL} {j : Nat} {t : TL} (h : RMk o w wr po pn pc vs us ls j) (ht : ls[j]? = some t) (hm : MayT t) (ho : Ord o) (hi : Ins o t us out 0) (hp : PolyAt w' ro rn rc qs out) (hn : rn ≤ pn + 1) (hb : Below wr.heap.size wr w') :
    RMk o w w' ro rn rc qs out ls (j + 1) := by
  obtain ⟨f, h1, h2⟩ := h.has
  obtain ⟨f', g1, g2, g3⟩ := (hi.acc ho hm h.may h1).2 rfl
  exact ⟨chain h.bel hb, hp, by have := h.len; omega, g3, f', g1, fun g k ha => h2 g k (by rw [drop_at2 ls j t ht]; exact g2 _ _ _ ha)⟩
theorem RMk.stop {o : Int} {w wr : World} {po : Option Addr} {pn pc : Nat} {vs : List TP} {us out ls : List TL} {j : Nat} {t : TL} {k : Int} (h : RMk o w wr po pn pc vs us ls j) (ht : ls[j]? = some t) (hm : MayT t) (ho : Ord o) (hi : Ins o t us out k) (hk : k ≠ 0) : TogIs o ls [] k := by
  obtain ⟨f, h1, h2⟩ := h.has
  have := (hi.acc ho hm h.may h1).1 hk (ls.drop (j + 1)) f
  exact ⟨f, k, h2 f k (by rw [drop_at2 ls j t ht]; exact this), fun _ => ⟨rfl, rfl⟩, fun e => absurd e hk⟩

/-- What is not 0, so far. -/
structure RNz (w wr : World) (v : Value) (qs : List TP) (ms us : List TL) (j : Nat) : Prop where
  bel : Below w.heap.size w wr
  own : TermsOwn wr w.heap.size v qs ms
  ms : ms = (us.take j).filter nz

theorem RNz.len {w wr : World} {v : Value} {qs : List TP} {ms us : List TL} {j : Nat} (h : RNz w wr v qs ms us j) : qs.length ≤ j := by
  rw [h.own.len, h.ms]
  exact Nat.le_trans (List.length_filter_le _ _) (by rw [List.length_take]; exact Nat.min_le_left _ _)
theorem RNz.skip {w wr w' : World} {v : Value} {qs : List TP} {ms us : List TL} {j : Nat} {t : TL} (h : RNz w wr v qs ms us j) (ht : us[j]? = some t) (hz : t.c.top = 0) (hb : Below wr.heap.size wr w') : RNz w w' v qs ms us (j + 1) :=
  ⟨chain h.bel hb, h.own.below hb, by rw [h.ms, List.take_add_one, ht]; simp [nz, hz]⟩
theorem RNz.put {w wr wx w' : World} {v v' : Value} {qs : List TP} {ms us : List TL} {j : Nat} {t : TL} {p : TP} (h : RNz w wr v qs ms us j) (ht : us[j]? = some t) (hz : t.c.top ≠ 0) (hb : Below wr.heap.size wr wx) (hp : TermAt wx p t) (ho : OwnS w' w.heap.size 39 7 v' (qs.length + 1) (tcells qs ++ p.cs)) (hg : wx.grownBy w' v.ownBlock) :
    RNz w w' v' (qs ++ [p]) (ms ++ [t]) us (j + 1) := by
  have hx := h.own.below hb
  exact ⟨(chain h.bel hb).grown hg (chain h.bel hb).size (fun k hk => (hx.own.row.lt k hk).1), hx.put1 hp rfl ho hg, by rw [h.ms, List.take_add_one, ht, List.filter_append]; simp [nz, hz]⟩
theorem RNz.start {w : World} {us : List TL} : RNz w (w.alloc (.cells #[] 39)) (.slice (some ⟨w.heap.size, 0, none⟩) 0 0) [] [] us 0 := ⟨bel1 _ _, TermsOwn.made w _ (Nat.le_refl _), by simp⟩

set_option maxRecDepth 100000 in
set_option maxHeartbeats 4000000 in
theorem rmake_b (o : Int) (lo : Option Addr) (n cap : Nat) (ps : List TP) (ls : List TL) (w : World) (h : PolyAt w lo n cap ps ls) (hn : n ≤ 90000) :
    Calls Tryz.prog 13 #[.int .i64 o, .slice lo n cap] w fun e w' => ∃ lo' n' cap' qs ms k, e = .returned (.tuple #[.slice lo' n' cap', .int .i64 k]) ∧ PolyAt w' lo' n' cap' qs ms ∧ MakeIs o ls ms k ∧ Below w.heap.size w w' := by
  obtain ⟨i0, hi0, hz0, hz1, hz2⟩ := info_parts info39
  have hN := h.most'
  have H : Hid (PolyAt w lo n cap ps ls ∧ n ≤ 90000) := ⟨h, hn⟩
  have hNN : (n : Int) ≤ 90000 := by omega
  clear h hn
  go_enter Tryz.func13, Tryz.ntmps13
  go_wp2_with fail
  by_cases ho : Ord o
  · have HO : Hid (Ord o) := ho
    refine (ordered_b o true _ (yes_iff ho)).mono ?_
    rintro e w1 ⟨rfl, b1⟩
    have H1 : Hid (Below w.heap.size w w1) := b1
    clear b1 ho
    go_wp2_with fail
    go_loopg [6] n (fun m i wr => ∃ j : Nat, j ≤ n ∧ n - j ≤ m ∧ i = .int .i64 j ∧ Hid (Below w.heap.size w wr ∧ ∀ i t, i < j → ls[i]? = some t → MayT t))
    case atStart => exact ⟨0, Nat.zero_le _, by omega, rfl, H1.out, fun i t h => absurd h (by omega)⟩
    case round =>
      obtain ⟨j, hj, hjr, rfl, hO⟩ := hrel
      by_cases h0 : j < n
      · obtain ⟨bk, off, p, t, rfl, hpj, htj, hat, hel, hblt⟩ := (H.out.1.below hO.out.1).elem h0
        have hjn : (j : Int) < (n : Int) := by omega
        have hj0 : (0 : Int) ≤ (j : Int) := by omega
        obtain ⟨neg, no, nn, nc, eo, en, ec, pa, pb, pc, pd⟩ := p
        have HJ : Hid (j < n ∧ n - j ≤ _ ∧ ls[j]? = some t ∧ TermAt wr ⟨neg, no, nn, nc, eo, en, ec, pa, pb, pc, pd⟩ t) := ⟨h0, hjr, htj, hat⟩
        have HE : Hid (ElemAt wr bk (off + j * 7) ⟨neg, no, nn, nc, eo, en, ec, pa, pb, pc, pd⟩ ∧ bk < wr.heap.size) := ⟨hel, hblt⟩
        obtain ⟨e0, e1, e2, _, _, _, _⟩ := hel
        dsimp only at e0 e1 e2
        clear hat htj hpj hj hjr h0 hblt
        by_cases hr : MayR t.c
        · have HR : Hid (MayR t.c) := hr
          clear hr
          go_wp2_with fail
          refine (rrmay_r _ _ _ _ _ _ _ t.c _ HJ.out.2.2.2.rat HJ.out.2.2.2.neg true (yes_iff HR.out)).mono ?_
          rintro e w3 ⟨rfl, b3⟩
          obtain ⟨_, _, _, e3, e4, e5, e6⟩ := HE.out.1.below HE.out.2 b3
          have e4' : w3.cell? ⟨bk, off + j * 7 + 3 + 1, none⟩ = some (.int .i64 pb) := e4
          have e5' : w3.cell? ⟨bk, off + j * 7 + 3 + 2, none⟩ = some (.int .i64 pc) := e5
          have e6' : w3.cell? ⟨bk, off + j * 7 + 3 + 3, none⟩ = some (.int .i64 pd) := e6
          dsimp only at e3
          have H3 : Hid (Below w.heap.size w w3) := chain hO.out.1 b3
          clear b3 e4 e5 e6
          by_cases hm : Mn.May4 pa pb pc pd
          · have HM : Hid (Mn.May4 pa pb pc pd) := hm
            clear hm
            go_wp2_with fail
            refine (Mn.rmay_yes _ _ _ _ _ HM.out).mono ?_
            rintro e w4 ⟨rfl, b4⟩
            have B4 : Hid (Below w.heap.size w w4) := chain H3.out b4
            clear b4 e0 e1 e2 e3 e4' e5' e6'
            go_wp2_with fail
            go_roundg (n - (j + 1))
            case measure => have := HJ.out.1; have := HJ.out.2.1; omega
            case rel =>
              refine ⟨j + 1, by have := HJ.out.1; omega, Nat.le_refl _, by go_num, B4.out, fun i s hi hs => ?_⟩
              by_cases hij : i = j
              · subst hij
                have := HJ.out.2.2.1.symm.trans hs
                injection this with this
                rw [← this]
                exact ⟨HR.out, HJ.out.2.2.2.may4.2 HM.out⟩
              · exact hO.out.2 i s (by omega) hs
          · have HM : Hid (¬ Mn.May4 pa pb pc pd) := hm
            clear hm
            go_wp2_with fail
            refine (Mn.rmay_no _ _ _ _ _ HM.out).mono ?_
            rintro e w4 ⟨rfl, b4⟩
            have B4 : Hid (Below w.heap.size w w4) := chain H3.out b4
            clear b4 e0 e1 e2 e3 e4' e5' e6'
            go_wp2_with fail
            go_ret2
            exact ⟨none, 0, 0, [], [], 1, rfl, PolyAt.nil _, ⟨fun _ => ⟨rfl, rfl⟩, fun h => absurd (HJ.out.2.2.2.may4.1 (h.2 t (List.mem_of_getElem? HJ.out.2.2.1)).m) HM.out⟩, B4.out⟩
        · have HR : Hid (¬ MayR t.c) := hr
          clear hr
          go_wp2_with fail
          refine (rrmay_r _ _ _ _ _ _ _ t.c _ HJ.out.2.2.2.rat HJ.out.2.2.2.neg false (no_iff HR.out)).mono ?_
          rintro e w4 ⟨rfl, b4⟩
          have B4 : Hid (Below w.heap.size w w4) := chain hO.out.1 b4
          clear b4 e0 e1 e2
          go_wp2_with fail
          go_ret2
          exact ⟨none, 0, 0, [], [], 1, rfl, PolyAt.nil _, ⟨fun _ => ⟨rfl, rfl⟩, fun h => absurd (h.2 t (List.mem_of_getElem? HJ.out.2.2.1)).c HR.out⟩, B4.out⟩
      · have hjn : j = n := by omega
        subst hjn
        have HM : Hid (∀ t ∈ ls, MayT t) := fun t ht => by
          obtain ⟨i, hi⟩ := List.mem_iff_getElem?.1 ht
          refine hO.out.2 i t ?_ hi
          have := (List.getElem?_eq_some_iff.1 hi).1
          rw [← H.out.1.len]
          exact this
        have HB : Hid (Below w.heap.size w wr) := hO.out.1
        clear hj hjr h0 hO
        go_wp2_with fail
        go_loopg [7, 8] j (fun m vp i wx => ∃ (q : Nat) (po : Option Addr) (pn pc : Nat) (vs : List TP) (us : List TL), q ≤ j ∧ j - q ≤ m ∧ i = .int .i64 q ∧ vp = .slice po pn pc ∧ Hid (RMk o w wx po pn pc vs us ls q))
        case atStart => exact ⟨0, _, 0, 0, [], [], Nat.zero_le _, by omega, rfl, rfl, chain HB.out (bel1 _ _), PolyAt.made' _, Nat.zero_le _, (fun s hs => by simp at hs), _, has_nil o, fun g k h => h⟩
        case round =>
          obtain ⟨q, po, pn, pc, vs, us, hq, hqr, rfl, rfl, hR⟩ := hrel
          by_cases h0 : q < j
          · obtain ⟨bk, off, p, t, rfl, hpj, htj, hat, hel, hblt⟩ := (H.out.1.below hR.out.bel).elem h0
            have hqj : (q : Int) < (j : Int) := by omega
            have hq0 : (0 : Int) ≤ (q : Int) := by omega
            obtain ⟨neg, no, nn, nc, eo, en, ec, pa, pb, pc', pd⟩ := p
            obtain ⟨e0, e1, e2, e3, e4, e5, e6⟩ := hel
            dsimp only at e0 e1 e2 e3 e4 e5 e6
            have HJ : Hid (q < j ∧ j - q ≤ _ ∧ ls[q]? = some t ∧ TermAt _ ⟨neg, no, nn, nc, eo, en, ec, pa, pb, pc', pd⟩ t) := ⟨h0, hqr, htj, hat⟩
            have HT : Hid (MayT t) := HM.out t (List.mem_of_getElem? htj)
            have HP : Hid (Falls o us ∧ pn ≤ 100000) := by
              obtain ⟨_, hf1, _⟩ := hR.out.has
              exact ⟨hf1.falls, by have := hR.out.len; have := H.out.2; omega⟩
            clear hat htj hpj hq hqr h0 hblt
            go_wp2_with fail
            refine (put_r o _ _ _ _ _ _ _ _ hR.out.at' HJ.out.2.2.2 HP.out.2 HO.out hR.out.may HT.out HP.out.1).mono ?_
            rintro e w4 ⟨ro, rn, rc, k, qs, out, rfl, q1, q2, q3, q4⟩
            have H4 : Hid ((k ≠ 0 → ro = none ∧ rn = 0 ∧ rc = 0) ∧ (k = 0 → PolyAt w4 ro rn rc qs out ∧ rn ≤ pn + 1) ∧ Ins o t us out k ∧ Below _ _ w4) := ⟨q1, q2, q3, q4⟩
            clear q1 q2 q3 q4 e0 e1 e2 e3 e4 e5 e6
            by_cases hk : k = 0
            · subst hk
              have H5 := hR.out.step HJ.out.2.2.1 HT.out HO.out H4.out.2.2.1 (H4.out.2.1 rfl).1 (H4.out.2.1 rfl).2 H4.out.2.2.2
              have H6 : Hid (RMk o w w4 ro rn rc qs out ls (q + 1)) := H5
              clear H5
              go_wp2_with fail
              go_roundg (j - (q + 1))
              case measure => have := HJ.out.1; have := HJ.out.2.1; omega
              case rel => exact ⟨q + 1, _, _, _, _, _, by have := HJ.out.1; omega, Nat.le_refl _, by go_num, rfl, H6.out⟩
            · have HK : Hid (k ≠ 0) := hk
              go_wp2_with fail
              go_ret2
              exact ⟨none, 0, 0, [], [], k, rfl, PolyAt.nil _, ⟨fun h => absurd ⟨HO.out, HM.out⟩ h, fun _ => hR.out.stop HJ.out.2.2.1 HT.out HO.out H4.out.2.2.1 HK.out⟩, chain hR.out.bel H4.out.2.2.2⟩
          · have hqj : q = j := by omega
            subst hqj
            clear hq hqr h0
            obtain ⟨f, hf1, hf2⟩ := hR.out.has
            have HF : Hid (Has o us f ∧ Acc ls (fun _ => none) f 0) := ⟨hf1, hf2 f 0 (by rw [List.drop_of_length_le (by rw [H.out.1.len]; exact Nat.le_refl _)]; exact ⟨rfl, rfl⟩)⟩
            have hpN := hR.out.at'.most'
            clear hf1 hf2
            go_wp2_with fail
            go_loopg [11, 12] pn (fun m vo i wx => ∃ (j : Nat) (qs : List TP) (ms : List TL), j ≤ pn ∧ pn - j ≤ m ∧ i = .int .i64 j ∧ Hid (RNz wr wx vo qs ms us j))
            case atStart => exact ⟨0, [], [], Nat.zero_le _, by omega, rfl, RNz.start⟩
            case round =>
              obtain ⟨j, qs, ms, hj, hjr, rfl, hZ⟩ := hrel
              by_cases h0 : j < pn
              · obtain ⟨bk, off, p, t, rfl, hpj, htj, hat, hel, hblt⟩ := (hR.out.at'.below hZ.out.bel).elem h0
                have hjn : (j : Int) < (pn : Int) := by omega
                have hj0 : (0 : Int) ≤ (j : Int) := by omega
                obtain ⟨neg, no, nn, nc, eo, en, ec, pa, pb, pc', pd⟩ := p
                have HE : Hid (ElemAt _ bk (off + j * 7) ⟨neg, no, nn, nc, eo, en, ec, pa, pb, pc', pd⟩ ∧ bk < _) := ⟨hel, hblt⟩
                have HJ : Hid (j < pn ∧ pn - j ≤ _ ∧ us[j]? = some t ∧ TermAt _ ⟨neg, no, nn, nc, eo, en, ec, pa, pb, pc', pd⟩ t) := ⟨h0, hjr, htj, hat⟩
                have HT : Hid (MayT t) := hR.out.may t (List.mem_of_getElem? htj)
                obtain ⟨e0, e1, e2, _, _, _, _⟩ := hel
                dsimp only at e0 e1 e2
                clear hat htj hpj hj hjr h0 hblt
                by_cases hz : t.c.top = 0
                · go_wp2_with fail
                  refine (rzeroR_b _ _ _ _ _ _ _ t.c _ HJ.out.2.2.2.rat HT.out.c true (yes_iff hz)).mono ?_
                  rintro e w4 ⟨rfl, b4⟩
                  have H4 : Hid (RNz _ w4 _ qs ms us (j + 1)) := hZ.out.skip HJ.out.2.2.1 hz b4
                  clear b4 e0 e1 e2
                  go_wp2_with fail
                  go_roundg (pn - (j + 1))
                  case measure => have := HJ.out.1; have := HJ.out.2.1; omega
                  case rel => exact ⟨j + 1, _, _, by have := HJ.out.1; omega, Nat.le_refl _, by go_num, H4.out⟩
                · have HZ : Hid (t.c.top ≠ 0) := hz
                  clear hz
                  obtain ⟨lo2, cap2, rfl, _⟩ := hZ.out.own.poly
                  go_wp2_with fail
                  refine (rzeroR_b _ _ _ _ _ _ _ t.c _ HJ.out.2.2.2.rat HT.out.c false (no_iff HZ.out)).mono ?_
                  rintro e w4 ⟨rfl, b4⟩
                  obtain ⟨f0, f1, f2, f3, f4, f5, f6⟩ := HE.out.1.below HE.out.2 b4
                  dsimp only at f0 f1 f2 f3 f4 f5 f6
                  have b5 := chain b4 (bel1 w4 (.cells #[.bool neg, .slice no nn nc, .slice eo en ec, .int .i64 pa, .int .i64 pb, .int .i64 pc', .int .i64 pd] 39))
                  have H3 : Hid (TermsOwn (w4.alloc (.cells #[.bool neg, .slice no nn nc, .slice eo en ec, .int .i64 pa, .int .i64 pb, .int .i64 pc', .int .i64 pd] 39)) _ (.slice lo2 qs.length cap2) qs ms ∧ Below _ _ (w4.alloc (.cells #[.bool neg, .slice no nn nc, .slice eo en ec, .int .i64 pa, .int .i64 pb, .int .i64 pc', .int .i64 pd] 39)) ∧ TermAt (w4.alloc (.cells #[.bool neg, .slice no nn nc, .slice eo en ec, .int .i64 pa, .int .i64 pb, .int .i64 pc', .int .i64 pd] 39)) ⟨neg, no, nn, nc, eo, en, ec, pa, pb, pc', pd⟩ t) :=
                    ⟨hZ.out.own.below b5, b5, HJ.out.2.2.2.below b5⟩
                  have HK : Hid (qs.length + 1 ≤ 1000000 ∧ _ ≤ (w4.alloc (.cells #[.bool neg, .slice no nn nc, .slice eo en ec, .int .i64 pa, .int .i64 pb, .int .i64 pc', .int .i64 pd] 39)).heap.size) :=
                    ⟨by have := hZ.out.len; have := HJ.out.1; have := hR.out.len; have := H.out.2; omega, Nat.le_trans hZ.out.bel.size b5.size⟩
                  clear b4 b5 e0 e1 e2
                  go_wp2_with (at_builtin; refine wpList_append_put _ rfl _ _ _ rfl _ 39 i0 _ 7 88 Tryz.underlying23 hi0 hz0 hz1 hz2 rfl (by omega) zero39 _ qs.length (tcells qs) rfl H3.out.1.own ⟨w4.heap.size, 0, none⟩ 1 1 (TP.cs (⟨neg, no, nn, nc, eo, en, ec, pa, pb, pc', pd⟩ : TP)) rfl rfl (World.news_of_block (heap_alloc_new w4 _)) (TP.cs_one (⟨neg, no, nn, nc, eo, en, ec, pa, pb, pc', pd⟩ : TP)) (TP.cs_clean (⟨neg, no, nn, nc, eo, en, ec, pa, pb, pc', pd⟩ : TP)) (by omega) (by have := HK.out.1; unfold maxLen; omega) (by have := HK.out.1; omega) HK.out.2 ?_)
                  intro g4 c4 w5 o4 k4
                  have H4 : Hid (RNz _ w5 (.slice (some ⟨g4, 0, none⟩) (qs.length + 1) c4) (qs ++ [(⟨neg, no, nn, nc, eo, en, ec, pa, pb, pc', pd⟩ : TP)]) (ms ++ [t]) us (j + 1)) := hZ.out.put HJ.out.2.2.1 HZ.out H3.out.2.1 H3.out.2.2 o4 k4
                  clear o4 k4 f0 f1 f2 f3 f4 f5 f6
                  go_wp2_with fail
                  go_roundg (pn - (j + 1))
                  case measure => have := HJ.out.1; have := HJ.out.2.1; omega
                  case rel => exact ⟨j + 1, _, _, by have := HJ.out.1; omega, Nat.le_refl _, by go_num, H4.out⟩
              · have hjn : j = pn := by omega
                subst hjn
                clear hj hjr h0
                obtain ⟨lo2, cap2, rfl, hpa⟩ := hZ.out.own.poly
                have hms : ms = us.filter nz := by rw [hZ.out.ms, List.take_of_length_le (by rw [hR.out.at'.len]; exact Nat.le_refl _)]
                have HQ : Hid (PolyAt _ lo2 qs.length cap2 qs ms ∧ ms = us.filter nz ∧ qs.length = ms.length ∧ Below w.heap.size w _) := ⟨hpa.1, hms, hZ.out.own.len, chain hR.out.bel hZ.out.bel⟩
                clear hms hpa
                by_cases h60 : qs.length ≤ 60
                · have h6 : (qs.length : Int) ≤ 60 := by omega
                  go_wp2_with fail
                  go_ret2
                  exact ⟨_, _, _, qs, ms, 0, rfl, HQ.out.1, ⟨fun h => absurd ⟨HO.out, HM.out⟩ h, fun _ => HF.out.1.tog HF.out.2 (fun e => by rw [← HQ.out.2.1, ← HQ.out.2.2.1] at e; omega) (fun _ => ⟨HQ.out.2.1, rfl⟩)⟩, HQ.out.2.2.2⟩
                · have h6 : ¬ (qs.length : Int) ≤ 60 := by omega
                  go_wp2_with fail
                  go_ret2
                  exact ⟨none, 0, 0, [], [], 90, rfl, PolyAt.nil _, ⟨fun h => absurd ⟨HO.out, HM.out⟩ h, fun _ => HF.out.1.tog HF.out.2 (fun _ => ⟨rfl, rfl⟩) (fun e => by rw [← HQ.out.2.1, ← HQ.out.2.2.1] at e; omega)⟩, HQ.out.2.2.2⟩
  · have HO : Hid (¬ Ord o) := ho
    refine (ordered_b o false _ (no_iff ho)).mono ?_
    rintro e w1 ⟨rfl, b1⟩
    have H1 : Hid (Below w.heap.size w w1) := b1
    clear b1 ho
    go_wp2_with fail
    go_ret2
    exact ⟨none, 0, 0, [], [], 1, rfl, PolyAt.nil _, ⟨fun _ => ⟨rfl, rfl⟩, fun h => absurd h.1 HO.out⟩, H1.out⟩
end Go.Proofs.YtbdldijgcmgfaaaGreat

/-! A term stored into a row of one's own. -/
namespace Go.Proofs.YtbdldijgcmgfaaaGreat
open Go.RowKit

def setL (xs : List Value) (k : Nat) (p : TP) : List Value := ((((((xs.set k (.bool p.neg)).set (k + 1) (.slice p.no p.nn p.nc)).set (k + 2) (.slice p.eo p.en p.ec)).set (k + 3) (.int .i64 p.a)).set (k + 4) (.int .i64 p.b)).set (k + 5) (.int .i64 p.c)).set (k + 6) (.int .i64 p.d)

theorem setL_skip (a0 a1 a2 a3 a4 a5 a6 : Value) (xs : List Value) (k : Nat) (p : TP) : setL (a0 :: a1 :: a2 :: a3 :: a4 :: a5 :: a6 :: xs) (k + 7) p = a0 :: a1 :: a2 :: a3 :: a4 :: a5 :: a6 :: setL xs k p := by
  unfold setL
  have e : ∀ (ys : List Value) (j : Nat) (v : Value), (a0 :: a1 :: a2 :: a3 :: a4 :: a5 :: a6 :: ys).set (j + 7) v = a0 :: a1 :: a2 :: a3 :: a4 :: a5 :: a6 :: ys.set j v := fun ys j v => rfl
  rw [e xs k, show k + 7 + 1 = (k + 1) + 7 by omega, e, show k + 7 + 2 = (k + 2) + 7 by omega, e, show k + 7 + 3 = (k + 3) + 7 by omega, e, show k + 7 + 4 = (k + 4) + 7 by omega, e, show k + 7 + 5 = (k + 5) + 7 by omega, e, show k + 7 + 6 = (k + 6) + 7 by omega, e]

theorem tcells_set : ∀ (ps : List TP) (i : Nat) (p : TP), i < ps.length → tcells (ps.set i p) = setL (tcells ps) (i * 7) p
  | [], i, p, h => by simp at h
  | q :: ps, 0, p, _ => rfl
  | q :: ps, i + 1, p, h => by
    have ih := tcells_set ps i p (by simpa using h)
    show q.cs ++ tcells (ps.set i p) = setL (q.cs ++ tcells ps) ((i + 1) * 7) p
    rw [ih, show (i + 1) * 7 = i * 7 + 7 by omega]
    exact (setL_skip (.bool q.neg) (.slice q.no q.nn q.nc) (.slice q.eo q.en q.ec) (.int .i64 q.a) (.int .i64 q.b) (.int .i64 q.c) (.int .i64 q.d) (tcells ps) (i * 7) p).symm

/-- A term is stored at a place of a row. -/
def setAt (W : World) (g k : Nat) (p : TP) : World := ((((((W.setCell ⟨g, k, none⟩ (.bool p.neg)).setCell ⟨g, k + 1, none⟩ (.slice p.no p.nn p.nc)).setCell ⟨g, k + 2, none⟩ (.slice p.eo p.en p.ec)).setCell ⟨g, k + 3, none⟩ (.int .i64 p.a)).setCell ⟨g, k + 4, none⟩ (.int .i64 p.b)).setCell ⟨g, k + 5, none⟩ (.int .i64 p.c)).setCell ⟨g, k + 6, none⟩ (.int .i64 p.d)
theorem setAt_grown (W : World) (B j : Nat) (p : TP) : W.grownBy (setAt W B j p) (some B) := by
  have s1 : ∀ (V : World) (k : Nat) (y : Value), (V.setCell ⟨B, k, none⟩ y).heap.size = V.heap.size := fun V k y => by simp [World.setCell]
  have o1 : ∀ (V : World) (k : Nat) (y : Value), (V.setCell ⟨B, k, none⟩ y).os = V.os := fun V k y => rfl
  have o2 : ∀ (V : World) (k : Nat) (y : Value), (V.setCell ⟨B, k, none⟩ y).tape = V.tape := fun V k y => rfl
  have o3 : ∀ (V : World) (k : Nat) (y : Value), (V.setCell ⟨B, k, none⟩ y).output = V.output := fun V k y => rfl
  refine ⟨?_, ?_, ?_, ?_, fun k hk hne => ?_⟩
  · unfold setAt
    rw [o1, o1, o1, o1, o1, o1, o1]
  · unfold setAt
    rw [o2, o2, o2, o2, o2, o2, o2]
  · unfold setAt
    rw [o3, o3, o3, o3, o3, o3, o3]
  · unfold setAt
    rw [s1, s1, s1, s1, s1, s1, s1]
    exact Nat.le_refl _
  · have hb : k ≠ B := fun e => hne (by rw [e])
    have e1 : ∀ (V : World) (j : Nat) (y : Value), (V.setCell ⟨B, j, none⟩ y).heap[k]? = V.heap[k]? := fun V j y => Below.heap_setCell V ⟨B, j, none⟩ y k hb
    unfold setAt
    rw [e1, e1, e1, e1, e1, e1, e1]

/-- What a block holds behind a store. -/
theorem setAt_heap {W : World} {g : Nat} {cs : Array Value} {t : TypeId} (h : W.heap[g]? = some (.cells cs t (0, 0))) (k : Nat) (p : TP) : ∃ cs2 : Array Value, (setAt W g k p).heap[g]? = some (.cells cs2 t (0, 0)) ∧ cs2.toList = setL cs.toList k p := by
  have s : ∀ {V : World} {xs : Array Value} {l : List Value} (k : Nat) (v : Value), V.heap[g]? = some (.cells xs t (0, 0)) ∧ xs.toList = l → ∃ ys : Array Value, (V.setCell ⟨g, k, none⟩ v).heap[g]? = some (.cells ys t (0, 0)) ∧ ys.toList = l.set k v := by
    intro V xs l k v hv
    exact ⟨_, set_cells hv.1 k v, by rw [← hv.2]; simp⟩
  obtain ⟨_, h0⟩ := s k (.bool p.neg) ⟨h, rfl⟩
  obtain ⟨_, h1⟩ := s (k + 1) (.slice p.no p.nn p.nc) h0
  obtain ⟨_, h2⟩ := s (k + 2) (.slice p.eo p.en p.ec) h1
  obtain ⟨_, h3⟩ := s (k + 3) (.int .i64 p.a) h2
  obtain ⟨_, h4⟩ := s (k + 4) (.int .i64 p.b) h3
  obtain ⟨_, h5⟩ := s (k + 5) (.int .i64 p.c) h4
  obtain ⟨c, h6⟩ := s (k + 6) (.int .i64 p.d) h5
  exact ⟨c, h6⟩

theorem setL_take (xs : List Value) (k n : Nat) (p : TP) : (setL xs k p).take n = setL (xs.take n) k p := by
  unfold setL
  simp only [List.take_set]
theorem setL_mem {xs : List Value} {k : Nat} {p : TP} {u : Value} (h : u ∈ setL xs k p) : u ∈ xs ∨ u ∈ p.cs := by
  unfold setL at h
  rcases List.mem_or_eq_of_mem_set h with h | rfl
  · rcases List.mem_or_eq_of_mem_set h with h | rfl
    · rcases List.mem_or_eq_of_mem_set h with h | rfl
      · rcases List.mem_or_eq_of_mem_set h with h | rfl
        · rcases List.mem_or_eq_of_mem_set h with h | rfl
          · rcases List.mem_or_eq_of_mem_set h with h | rfl
            · rcases List.mem_or_eq_of_mem_set h with h | rfl
              · exact .inl h
              · right; simp [TP.cs]
            · right; simp [TP.cs]
          · right; simp [TP.cs]
        · right; simp [TP.cs]
      · right; simp [TP.cs]
    · right; simp [TP.cs]
  · right; simp [TP.cs]
theorem setL_length (xs : List Value) (k : Nat) (p : TP) : (setL xs k p).length = xs.length := by
  unfold setL
  simp only [List.length_set]

set_option maxHeartbeats 1000000 in
theorem TermsOwn.set {w : World} {base g n cap : Nat} {ps : List TP} {ls : List TL} (h : TermsOwn w base (.slice (some ⟨g, 0, none⟩) n cap) ps ls) {i : Nat} {p : TP} {t : TL} (hi : i < ps.length) (ht : TermAt w p t) :
    TermsOwn (setAt w g (i * 7) p) base (.slice (some ⟨g, 0, none⟩) n cap) (ps.set i p) (ls.set i t) := by
  have hgr := setAt_grown w g (i * 7) p
  have hcl : ∀ k, some g = some k → CleanB w 39 k := fun k hk => by cases hk; exact h.own.clean g rfl
  rcases h.own.row.2 with ⟨e, _⟩ | ⟨g', cap', cur, e, hbase, hb, h1, h2, h3, h4⟩
  · cases e
  · simp only [Value.slice.injEq, Option.some.injEq, Addr.mk.injEq, and_true] at e
    obtain ⟨e0, e3, e2⟩ := e
    subst e0 e2
    obtain ⟨cur2, hb2, hc2⟩ := setAt_heap hb (i * 7) p
    have hclean : ∀ u ∈ cur.toList, Clean u := by
      obtain ⟨cur3, fz, hb3, hc⟩ := h.own.clean g rfl
      rw [hb] at hb3
      injection hb3 with e
      injection e with e
      subst e
      exact hc
    have hlen : (ps.set i p).length = ps.length := by simp
    have z1 : cur2.size = cap * 7 := by rw [← h3, ← Array.length_toList, hc2, setL_length, Array.length_toList]
    have z2 : cur2.toList.take ((ps.set i p).length * 7) = tcells (ps.set i p) := by rw [hc2, setL_take, hlen, h4, tcells_set ps i p hi]
    have z3 : (tcells (ps.set i p)).length = (ps.set i p).length * 7 := tcells_length _
    have z4 : (ps.set i p).length ≤ cap := by rw [hlen]; exact h1
    have z5 : Value.slice (some ⟨g, 0, none⟩) n cap = .slice (some ⟨g, 0, none⟩) (ps.set i p).length cap := by rw [hlen, ← e3]
    have z6 : (ps.set i p).length = (ls.set i t).length := by simp [h.len]
    generalize setAt w g (i * 7) p = W' at hgr hb2
    have hrow : W'.ownsRow base 39 7 (.slice (some ⟨g, 0, none⟩) n cap) (ps.set i p).length (tcells (ps.set i p)) := ⟨z3, .inr ⟨g, cap, cur2, z5, hbase, hb2, z4, h2, z1, z2⟩⟩
    refine ⟨⟨hrow, fun k hk => ?_⟩, z6, fun j q s hq hs => ?_⟩
    · cases hk
      refine ⟨cur2, (0, 0), hb2, fun u hu => ?_⟩
      rw [hc2] at hu
      rcases setL_mem hu with hu | hu
      · exact hclean u hu
      · exact p.cs_clean u hu
    · by_cases hj : j = i
      · subst hj
        rw [List.getElem?_set_self hi] at hq
        rw [List.getElem?_set_self (by rw [← h.len]; exact hi)] at hs
        cases hq
        cases hs
        exact ht.grown hgr hcl
      · rw [List.getElem?_set_ne (Ne.symm hj)] at hq hs
        exact (h.each j q s hq hs).grown hgr hcl
end Go.Proofs.YtbdldijgcmgfaaaGreat

/-! made: a polynomial of small terms. -/
namespace Go.Proofs.YtbdldijgcmgfaaaGreat
open Go.RowKit

/-- The numbers that a polynomial is made of. -/
structure SmallAt (W : World) (no : Option Addr) (nn : Nat) (mo : Option Addr) (mn : Nat) : Prop where
  nmost : nn ≤ maxLen
  mmost : mn ≤ maxLen
  n : ∀ i, i < nn → ∃ b off z, no = some ⟨b, off, none⟩ ∧ b < W.heap.size ∧ W.cell? ⟨b, off + i, none⟩ = some (.int .i8 z) ∧ -128 ≤ z ∧ z ≤ 127
  m : ∀ i, i < mn → ∃ b off x y z, mo = some ⟨b, off, none⟩ ∧ b < W.heap.size ∧ W.cell? ⟨b, off + i * 3, none⟩ = some (.int .u8 x) ∧ W.cell? ⟨b, off + i * 3 + 1, none⟩ = some (.int .u8 y) ∧ W.cell? ⟨b, off + i * 3 + 2, none⟩ = some (.int .u8 z) ∧ (0 ≤ x ∧ x ≤ 255) ∧ (0 ≤ y ∧ y ≤ 255) ∧ (0 ≤ z ∧ z ≤ 255)
theorem SmallAt.below {W W' : World} {no : Option Addr} {nn : Nat} {mo : Option Addr} {mn : Nat} (h : SmallAt W no nn mo mn) (hb : Below W.heap.size W W') : SmallAt W' no nn mo mn := by
  refine ⟨h.nmost, h.mmost, fun i hi => ?_, fun i hi => ?_⟩
  · obtain ⟨b, off, z, h1, h2, h3, h4⟩ := h.n i hi
    exact ⟨b, off, z, h1, Nat.lt_of_lt_of_le h2 hb.size, (hb.cell (p := ⟨b, off + i, none⟩) h2).trans h3, h4⟩
  · obtain ⟨b, off, x, y, z, h1, h2, h3, h4, h5, h6⟩ := h.m i hi
    exact ⟨b, off, x, y, z, h1, Nat.lt_of_lt_of_le h2 hb.size, (hb.cell (p := ⟨b, off + i * 3, none⟩) h2).trans h3, (hb.cell (p := ⟨b, off + i * 3 + 1, none⟩) h2).trans h4, (hb.cell (p := ⟨b, off + i * 3 + 2, none⟩) h2).trans h5, h6⟩

/-- Exponents below 4, of three variables. -/
structure Low (m : Mo) : Prop where
  a0 : 0 ≤ m.a
  a1 : m.a ≤ 3
  b0 : 0 ≤ m.b
  b1 : m.b ≤ 3
  c0 : 0 ≤ m.c
  c1 : m.c ≤ 3
  d : m.d = 0
theorem Low.may {m : Mo} (h : Low m) : MayM m := by
  obtain ⟨h0, h1, h2, h3, h4, h5, h6⟩ := h
  exact ⟨⟨by omega, by omega⟩, ⟨by omega, by omega⟩, ⟨by omega, by omega⟩, ⟨by omega, by omega⟩⟩

/-- What made tells. -/
structure Made (o : Int) (p : List TL) : Prop where
  int : IntP o 1280 p
  len : p.length ≤ 10
  low : ∀ t ∈ p, Low t.m
theorem Made.may {o : Int} {p : List TL} (h : Made o p) (ho : Ord o) : MayP o p := h.int.may ho (by have := h.len; omega)

theorem wrap_ex (z : Int) (h0 : -128 ≤ z) (h1 : z ≤ 255) : IntKind.i64.wrap z = z := by rw [IntKind.wrap_i64]; omega
theorem rem4_ex (d : Int) (h0 : 0 ≤ d) (h1 : d ≤ 255) : ∃ D, (IntKind.i64.wrap d).tmod 4 = D ∧ 0 ≤ D ∧ D ≤ 3 := by
  rw [wrap_ex d (by omega) h1, Int.tmod_eq_emod_of_nonneg h0]
  exact ⟨_, rfl, by omega, by omega⟩

/-- A box of two slices. -/
def SBx (W : World) (B : Nat) (no : Option Addr) (nn nc : Nat) (mo : Option Addr) (mn mc : Nat) : Prop := W.heap[B]? = some (.cells #[.slice no nn nc, .slice mo mn mc] 50 (0, 0))
theorem SBx.lt {W : World} {B : Nat} {no : Option Addr} {nn nc : Nat} {mo : Option Addr} {mn mc : Nat} (h : SBx W B no nn nc mo mn mc) : B < W.heap.size := (Array.getElem?_eq_some_iff.1 h).1
theorem SBx.c0 {W : World} {B : Nat} {no : Option Addr} {nn nc : Nat} {mo : Option Addr} {mn mc : Nat} (h : SBx W B no nn nc mo mn mc) : W.cell? ⟨B, 0, none⟩ = some (.slice no nn nc) := by simp [World.cell?, show W.heap[B]? = _ from h]
theorem SBx.c1 {W : World} {B : Nat} {no : Option Addr} {nn nc : Nat} {mo : Option Addr} {mn mc : Nat} (h : SBx W B no nn nc mo mn mc) : W.cell? ⟨B, 1, none⟩ = some (.slice mo mn mc) := by simp [World.cell?, show W.heap[B]? = _ from h]
theorem SBx.below {W W' : World} {B : Nat} {no : Option Addr} {nn nc : Nat} {mo : Option Addr} {mn mc : Nat} (h : SBx W B no nn nc mo mn mc) (hb : Below W.heap.size W W') : SBx W' B no nn nc mo mn mc := (hb.block B h.lt).trans h

/-- The terms so far. -/
structure MdSt (w1 wr : World) (v : Value) (j : Nat) (qs : List TP) (ms : List TL) : Prop where
  bel : Below w1.heap.size w1 wr
  own : TermsOwn wr w1.heap.size v qs ms
  len : qs.length = j
  it : ∀ t ∈ ms, IT 128 t ∧ Low t.m
theorem MdSt.start {w1 : World} : MdSt w1 (w1.alloc (.cells #[] 39)) (.slice (some ⟨w1.heap.size, 0, none⟩) 0 0) 0 [] [] := ⟨bel1 _ _, TermsOwn.made w1 _ (Nat.le_refl _), rfl, fun t h => by simp at h⟩
theorem MdSt.below {w1 wr w' : World} {v : Value} {j : Nat} {qs : List TP} {ms : List TL} (h : MdSt w1 wr v j qs ms) (hb : Below wr.heap.size wr w') : MdSt w1 w' v j qs ms := ⟨chain h.bel hb, h.own.below hb, h.len, h.it⟩
theorem MdSt.put {w1 wr w' : World} {v v' : Value} {j : Nat} {qs : List TP} {ms : List TL} {p : TP} {t : TL} (h : MdSt w1 wr v j qs ms) (hp : TermAt wr p t) (ht : IT 128 t ∧ Low t.m) (ho : OwnS w' w1.heap.size 39 7 v' (j + 1) (tcells qs ++ p.cs)) (hg : wr.grownBy w' v.ownBlock) : MdSt w1 w' v' (j + 1) (qs ++ [p]) (ms ++ [t]) := by
  refine ⟨h.bel.grown hg h.bel.size (fun k hk => (h.own.own.row.lt k hk).1), h.own.put1 hp h.len ho hg, by simp [h.len], fun s hs => ?_⟩
  rcases List.mem_append.1 hs with hs | hs
  · exact h.it s hs
  · rw [List.mem_singleton.1 hs]; exact ht
theorem one_it {r : RatL} {n x y z : Int} (h : Is r n 1) (h0 : -128 ≤ n) (h1 : n ≤ 127) (hx : 0 ≤ x ∧ x ≤ 3) (hy : 0 ≤ y ∧ y ≤ 3) (hz : 0 ≤ z ∧ z ≤ 3) : IT 128 ⟨r, ⟨x, y, z, 0⟩⟩ ∧ Low (⟨x, y, z, 0⟩ : Mo) := by
  have hl : Low (⟨x, y, z, 0⟩ : Mo) := ⟨hx.1, hx.2, hy.1, hy.2, hz.1, hz.2, rfl⟩
  exact ⟨⟨h.re, by show r.top.natAbs ≤ 128; rw [h.whole1.1]; omega, hl.may⟩, hl⟩
theorem made_of {o : Int} (ho : Ord o) {ms p : List TL} {k : Int} (hl : ms.length ≤ 10) (hm : ∀ t ∈ ms, IT 128 t ∧ Low t.m) (h : MakeIs o ms p k) : Made o p := by
  obtain ⟨q, h1, h2, h3, _, h5⟩ := tog_small ho (h.ok ⟨ho, fun t ht => (hm t ht).1.may⟩) (fun t ht => (hm t ht).1) (by omega) (by omega)
  obtain ⟨rfl, _⟩ := h5 (by omega)
  refine ⟨h1.mono (by omega), by omega, fun t ht => ?_⟩
  have h4 : coef ms t.m ≠ 0 := by rw [← h2, coef_falls ho h1.falls ht]; exact h1.nz t ht
  obtain ⟨s, hs, e⟩ := coef_mem h4
  rw [← e]
  exact (hm s hs).2

set_option maxRecDepth 100000 in
set_option maxHeartbeats 8000000 in
theorem made_b (o : Int) (no : Option Addr) (nn nc : Nat) (mo : Option Addr) (mn mc : Nat) (w : World) (ho : Ord o) (h : SmallAt w no nn mo mn) :
    Calls Tryz.prog 26 #[.int .i64 o, .agg #[.slice no nn nc, .slice mo mn mc]] w fun e w' => ∃ lo n cap ps p, e = .returned (.slice lo n cap) ∧ PolyAt w' lo n cap ps p ∧ Made o p ∧ Below w.heap.size w w' := by
  obtain ⟨i0, hi0, hz0, hz1, hz2⟩ := info_parts info39
  have b1 := bel1 w (.cells #[.slice no nn nc, .slice mo mn mc] 50)
  have hnm : (nn : Int) ≤ 9223372036854775807 := by have := h.nmost; unfold maxLen at this; omega
  have hmm : (mn : Int) ≤ 9223372036854775807 := by have := h.mmost; unfold maxLen at this; omega
  have H : Hid (SmallAt (w.alloc (.cells #[.slice no nn nc, .slice mo mn mc] 50)) no nn mo mn ∧ SBx (w.alloc (.cells #[.slice no nn nc, .slice mo mn mc] 50)) w.heap.size no nn nc mo mn mc ∧ Below w.heap.size w (w.alloc (.cells #[.slice no nn nc, .slice mo mn mc] 50)) ∧ Ord o) := ⟨h.below b1, heap_alloc_new w _, b1, ho⟩
  clear h b1 ho
  go_enter Tryz.func26, Tryz.ntmps26
  go_upto_region 1 with fail
  generalize w.alloc (.cells #[.slice no nn nc, .slice mo mn mc] 50) = w1 at H ⊢
  go_wp2_with fail
  go_loopg [5, 6] (11 : Nat) (fun g vv i wr => ∃ (j : Nat) (qs : List TP) (ms : List TL), j ≤ 10 ∧ j ≤ nn ∧ j ≤ mn ∧ 11 - j ≤ g ∧ i = .int .i64 j ∧ Hid (MdSt w1 wr vv j qs ms))
  case atStart => exact ⟨0, [], [], by omega, by omega, by omega, by omega, rfl, MdSt.start⟩
  case round =>
    obtain ⟨j, qs, ms, hj, hjn, hjm, hjr, rfl, hT⟩ := hrel
    rename World => wr
    obtain ⟨lov, capv, hv, hpv, _⟩ := hT.out.own.poly
    have hjl := hT.out.len
    rw [hjl] at hpv hv
    subst hv
    have hj0 : (0 : Int) ≤ (j : Int) := by omega
    have bx := H.out.2.1.below hT.out.bel
    have x0 := bx.c0
    have x1 := bx.c1
    have HV : Hid (PolyAt wr lov j capv qs ms ∧ qs.length = j ∧ Below w.heap.size w wr) := ⟨hpv, hjl, H.out.2.2.1.trans (hT.out.bel.mono H.out.2.2.1.size)⟩
    clear hpv bx
    by_cases hlt : j < nn ∧ j < mn ∧ j < 10
    · obtain ⟨nb, noff, z, rfl, hnb, k1, z0, z1⟩ := H.out.1.n j hlt.1
      obtain ⟨mb, moff, x, y, u, rfl, hmb, k2, k3, k4, hx, hy, hu⟩ := H.out.1.m j hlt.2.1
      obtain ⟨X, hX, X0, X1⟩ := rem4_ex x hx.1 hx.2
      obtain ⟨Y, hY, Y0, Y1⟩ := rem4_ex y hy.1 hy.2
      obtain ⟨Z, hZ, Z0, Z1⟩ := rem4_ex u hu.1 hu.2
      have hzw := wrap_ex z z0 (by omega)
      have hja : (j : Int) < (nn : Int) := by omega
      have hjb : (j : Int) < (mn : Int) := by omega
      have hjc : (j : Int) < 10 := by omega
      have HN : Hid ((w1.cell? ⟨nb, noff + j, none⟩ = some (.int .i8 z) ∧ nb < w1.heap.size) ∧ (w1.cell? ⟨mb, moff + j * 3, none⟩ = some (.int .u8 x) ∧ w1.cell? ⟨mb, moff + j * 3 + 1, none⟩ = some (.int .u8 y) ∧ w1.cell? ⟨mb, moff + j * 3 + 2, none⟩ = some (.int .u8 u) ∧ mb < w1.heap.size) ∧ (-128 ≤ z ∧ z ≤ 127) ∧ (0 ≤ X ∧ X ≤ 3) ∧ (0 ≤ Y ∧ Y ≤ 3) ∧ (0 ≤ Z ∧ Z ≤ 3) ∧ j < nn ∧ j < mn ∧ j < 10 ∧ 11 - j ≤ _) :=
        ⟨⟨k1, hnb⟩, ⟨k2, k3, k4, hmb⟩, ⟨z0, z1⟩, ⟨X0, X1⟩, ⟨Y0, Y1⟩, ⟨Z0, Z1⟩, hlt.1, hlt.2.1, hlt.2.2, hjr⟩
      clear k1 k2 k3 k4 z0 z1 X0 X1 Y0 Y1 Z0 Z1 hnb hmb hx hy hu hlt hj hjn hjm hjr hjl
      have HS : Hid (∀ W, Below w1.heap.size w1 W → W.cell? ⟨w.heap.size, 0, none⟩ = some (.slice (some ⟨nb, noff, none⟩) nn nc) ∧ W.cell? ⟨w.heap.size, 1, none⟩ = some (.slice (some ⟨mb, moff, none⟩) mn mc) ∧ W.cell? ⟨nb, noff + j, none⟩ = some (.int .i8 z) ∧ W.cell? ⟨mb, moff + j * 3, none⟩ = some (.int .u8 x) ∧ W.cell? ⟨mb, moff + j * 3 + 1, none⟩ = some (.int .u8 y) ∧ W.cell? ⟨mb, moff + j * 3 + 2, none⟩ = some (.int .u8 u)) := fun W hW =>
        ⟨(H.out.2.1.below hW).c0, (H.out.2.1.below hW).c1, (hW.cell (p := ⟨nb, noff + j, none⟩) HN.out.1.2).trans HN.out.1.1, (hW.cell (p := ⟨mb, moff + j * 3, none⟩) HN.out.2.1.2.2.2).trans HN.out.2.1.1, (hW.cell (p := ⟨mb, moff + j * 3 + 1, none⟩) HN.out.2.1.2.2.2).trans HN.out.2.1.2.1, (hW.cell (p := ⟨mb, moff + j * 3 + 2, none⟩) HN.out.2.1.2.2.2).trans HN.out.2.1.2.2.1⟩
      have bz : Below w1.heap.size w1 wr.drew := hT.out.bel.drew
      have by' : Below wr.heap.size wr wr.drew := (Below.refl _ _).drew
      go_wp2_with fail
      go_region_held3 (fun W => W.cell? ⟨w.heap.size, 0, none⟩ = some (.slice (some ⟨nb, noff, none⟩) nn nc) ∧ W.cell? ⟨w.heap.size, 1, none⟩ = some (.slice (some ⟨mb, moff, none⟩) mn mc) ∧ W.cell? ⟨nb, noff + j, none⟩ = some (.int .i8 z) ∧ W.cell? ⟨mb, moff + j * 3, none⟩ = some (.int .u8 x) ∧ W.cell? ⟨mb, moff + j * 3 + 1, none⟩ = some (.int .u8 y) ∧ W.cell? ⟨mb, moff + j * 3 + 2, none⟩ = some (.int .u8 u))
        (first | exact HS.out _ B4.out | exact HS.out _ bz | exact HS.out _ (chain bz (bel1 _ _)))
        (first
          | (go_at_call 29; refine (one_b z X Y Z 0 _ (by have := HN.out.2.2.1.1; omega) (by have := HN.out.2.2.1.2; omega)).mono ?_; rintro e w3 ⟨⟨pg, po, pn, pc, qo, qn, qc, pa, pb, pc', pd⟩, r, rfl, q1, q2, q3⟩; have bz := chain bz q3; have b5 := chain (chain by' q3) (bel1 w3 (.cells #[.bool pg, .slice po pn pc, .slice qo qn qc, .int .i64 pa, .int .i64 pb, .int .i64 pc', .int .i64 pd] 39)); have G3 : Hid (MdSt w1 (w3.alloc (.cells #[.bool pg, .slice po pn pc, .slice qo qn qc, .int .i64 pa, .int .i64 pb, .int .i64 pc', .int .i64 pd] 39)) (.slice lov j capv) j qs ms ∧ TermAt (w3.alloc (.cells #[.bool pg, .slice po pn pc, .slice qo qn qc, .int .i64 pa, .int .i64 pb, .int .i64 pc', .int .i64 pd] 39)) ⟨pg, po, pn, pc, qo, qn, qc, pa, pb, pc', pd⟩ ⟨r, ⟨X, Y, Z, 0⟩⟩ ∧ (IT 128 ⟨r, ⟨X, Y, Z, 0⟩⟩ ∧ Low (⟨X, Y, Z, 0⟩ : Mo))) := ⟨hT.out.below b5, q1.below (bel1 _ _), one_it q2 HN.out.2.2.1.1 HN.out.2.2.1.2 HN.out.2.2.2.1 HN.out.2.2.2.2.1 HN.out.2.2.2.2.2.1⟩; clear q1 q2 q3 b5)
          | (refine step_append_put _ (by rfl) _ _ _ (by rfl) w1.heap.size 39 i0 _ 7 88 Tryz.underlying22 hi0 hz0 hz1 hz2 rfl (by omega) zero39 _ j (tcells qs) (by rfl) (by have h := G3.out.1.own.own; rw [HV.out.2.1] at h; exact h) ⟨w3.heap.size, 0, none⟩ 1 1 (TP.cs (⟨pg, po, pn, pc, qo, qn, qc, pa, pb, pc', pd⟩ : TP)) (by rfl) (by rfl) (World.news_of_block (heap_alloc_new w3 _)) (TP.cs_one (⟨pg, po, pn, pc, qo, qn, qc, pa, pb, pc', pd⟩ : TP)) (TP.cs_clean (⟨pg, po, pn, pc, qo, qn, qc, pa, pb, pc', pd⟩ : TP)) (by omega) (by have := HN.out.2.2.2.2.2.2.2.2.1; unfold maxLen; omega) (by have := HN.out.2.2.2.2.2.2.2.2.1; omega) G3.out.1.bel.size ?_; intro g2 cap2 w4 hown hgrow; have H4 : Hid (MdSt w1 w4 (.slice (some ⟨g2, 0, none⟩) (j + 1) cap2) (j + 1) (qs ++ [⟨pg, po, pn, pc, qo, qn, qc, pa, pb, pc', pd⟩]) (ms ++ [⟨r, ⟨X, Y, Z, 0⟩⟩])) := G3.out.1.put G3.out.2.1 G3.out.2.2 hown hgrow; have B4 : Hid (Below w1.heap.size w1 w4) := H4.out.bel; clear hown hgrow))
      clear bz by' hX hY hZ hzw x0 x1 hja hjb hjc
      go_wp2
      go_roundg (11 - (j + 1))
      case measure => have := HN.out.2.2.2.2.2.2; omega
      case rel => exact ⟨j + 1, _, _, by have := HN.out.2.2.2.2.2.2.2.2.1; omega, by have := HN.out.2.2.2.2.2.2.1; omega, by have := HN.out.2.2.2.2.2.2.2.1; omega, Nat.le_refl _, congrArg (Value.int .i64) (show wrap64 ((j : Int) + 1) = ((j + 1 : Nat) : Int) from by have h9 := HN.out.2.2.2.2.2.2.2.2.1; unfold wrap64; omega), H4.out⟩
    · have HL : Hid (j ≤ 90000 ∧ j ≤ 10) := ⟨by omega, hj⟩
      have hms : Hid (ms.length ≤ 10) := by have := HV.out.1.len; show ms.length ≤ 10; omega
      by_cases ha : j < nn
      · have ha' : (j : Int) < (nn : Int) := by omega
        by_cases hb : j < mn
        · have hb' : (j : Int) < (mn : Int) := by omega
          have hc' : ¬ (j : Int) < 10 := by omega
          clear hlt hj hjn hjm hjr ha hb hjl
          go_wp2_with fail
          refine (rmake_b o _ _ _ _ _ _ HV.out.1 HL.out.1).mono ?_
          rintro e w3 ⟨lo3, n3, cap3, rs, l, k, rfl, q1, q2, q3⟩
          have H3 : Hid (PolyAt w3 lo3 n3 cap3 rs l ∧ Made o l ∧ Below w.heap.size w w3) := ⟨q1, made_of H.out.2.2.2 hms.out hT.out.it q2, chain HV.out.2.2 q3⟩
          clear q1 q2 q3
          go_wp2_with fail
          go_ret
          exact ⟨lo3, n3, cap3, rs, l, rfl, H3.out⟩
        · have hb' : ¬ (j : Int) < (mn : Int) := by omega
          clear hlt hj hjn hjm hjr ha hb hjl
          go_wp2_with fail
          refine (rmake_b o _ _ _ _ _ _ HV.out.1 HL.out.1).mono ?_
          rintro e w3 ⟨lo3, n3, cap3, rs, l, k, rfl, q1, q2, q3⟩
          have H3 : Hid (PolyAt w3 lo3 n3 cap3 rs l ∧ Made o l ∧ Below w.heap.size w w3) := ⟨q1, made_of H.out.2.2.2 hms.out hT.out.it q2, chain HV.out.2.2 q3⟩
          clear q1 q2 q3
          go_wp2_with fail
          go_ret
          exact ⟨lo3, n3, cap3, rs, l, rfl, H3.out⟩
      · have ha' : ¬ (j : Int) < (nn : Int) := by omega
        clear hlt hj hjn hjm hjr ha hjl
        go_wp2_with fail
        refine (rmake_b o _ _ _ _ _ _ HV.out.1 HL.out.1).mono ?_
        rintro e w3 ⟨lo3, n3, cap3, rs, l, k, rfl, q1, q2, q3⟩
        have H3 : Hid (PolyAt w3 lo3 n3 cap3 rs l ∧ Made o l ∧ Below w.heap.size w w3) := ⟨q1, made_of H.out.2.2.2 hms.out hT.out.it q2, chain HV.out.2.2 q3⟩
        clear q1 q2 q3
        go_wp2_with fail
        go_ret
        exact ⟨lo3, n3, cap3, rs, l, rfl, H3.out⟩
end Go.Proofs.YtbdldijgcmgfaaaGreat

/-! Products of polynomials with small whole coefficients, as arithmetic. -/
namespace Go.Proofs.YtbdldijgcmgfaaaGreat
open Go.RowKit

def addM (m n : Mo) : Mo := ⟨m.a + n.a, m.b + n.b, m.c + n.c, m.d + n.d⟩
def subM (m n : Mo) : Mo := ⟨m.a - n.a, m.b - n.b, m.c - n.c, m.d - n.d⟩
theorem sub_iff (m n r : Mo) : addM n r = m ↔ r = subM m n := by
  constructor
  · rintro rfl
    refine Mo.ext4 ?_ ?_ ?_ ?_ <;> simp only [addM, subM] <;> omega
  · rintro rfl
    refine Mo.ext4 ?_ ?_ ?_ ?_ <;> simp only [addM, subM] <;> omega
theorem addM_zero (m : Mo) : addM m mo0 = m := by
  refine Mo.ext4 ?_ ?_ ?_ ?_ <;> simp only [addM, mo0] <;> omega

/-- A term of a product. -/
structure Pr (x t y : TL) : Prop where
  c : Is y.c (x.c.top * t.c.top) 1
  m : y.m = addM x.m t.m
/-- The terms of a product by one term. -/
def TimR (t : TL) : List TL → List TL → Prop
  | [], [] => True
  | x :: p, y :: q => Pr x t y ∧ TimR t p q
  | _, _ => False

theorem MulM.fine {m n r : Mo} {k : Int} (h : MulM m n r k) (hm : MayM m) (hn : MayM n) (hr : MayM (addM m n)) : r = addM m n ∧ k = 0 := by
  obtain ⟨h1, h2, h3, h4, h5⟩ := h.ok ⟨hm, hn⟩ hr
  exact ⟨Mo.ext4 h1 h2 h3 h4, h5⟩
theorem timesL_small {K L : Nat} {t : TL} (ht : IT L t) (hb : K ≤ 1000000000) (hl : L ≤ 1000000000) : ∀ {p out : List TL} {k : Int}, (∀ x ∈ p, IT K x ∧ MayM (addM x.m t.m)) → TimesL t p out k → k = 0 ∧ TimR t p out
  | [], out, k, _, h => by
    obtain ⟨rfl, rfl⟩ := h
    exact ⟨rfl, trivial⟩
  | x :: p, out, k, hp, h => by
    obtain ⟨hx, hxm⟩ := hp x (.head _)
    obtain ⟨c, j, h1, _, h3⟩ := h
    have hbig := Big_BB
    obtain ⟨hj, hc⟩ := mul_fine h1 hx.is ht.is (L := 1000000000) (K := 1000000000) (by have := hx.le; omega) (by omega) (by have := ht.le; omega) (by omega) (by unfold BB at hbig; omega)
    obtain ⟨m, i, a1, _, a3⟩ := h3 hj
    obtain ⟨rfl, hi⟩ := a1.fine hx.m ht.m hxm
    obtain ⟨rest, c1, _, c3⟩ := a3 hi
    obtain ⟨hk, hr⟩ := timesL_small ht hb hl (fun y hy => hp y (.tail _ hy)) c1
    rw [c3 hk]
    rw [Int.mul_one] at hc
    exact ⟨hk, ⟨hc, rfl⟩, hr⟩

theorem TimR.len {t : TL} : ∀ {p q : List TL}, TimR t p q → q.length = p.length
  | [], [], _ => rfl
  | x :: p, y :: q, h => by simp [TimR.len h.2]
  | [], _ :: _, h => h.elim
  | _ :: _, [], h => h.elim
theorem TimR.mem {t : TL} : ∀ {p q : List TL}, TimR t p q → ∀ y ∈ q, ∃ x ∈ p, Pr x t y
  | [], [], _, y, hy => by simp at hy
  | x :: p, z :: q, h, y, hy => by
    rcases List.mem_cons.1 hy with rfl | hy
    · exact ⟨x, .head _, h.1⟩
    · obtain ⟨u, hu, hp⟩ := TimR.mem h.2 y hy
      exact ⟨u, .tail _ hu, hp⟩
  | [], _ :: _, h, _, _ => h.elim
  | _ :: _, [], h, _, _ => h.elim
theorem abs_le_mul {x t : Int} {K L : Nat} (hx : x.natAbs ≤ K) (ht : t.natAbs ≤ L) : (x * t).natAbs ≤ K * L := by
  rw [Int.natAbs_mul]
  exact Nat.mul_le_mul hx ht
theorem Pr.it {x t y : TL} {K L : Nat} (h : Pr x t y) (hx : IT K x) (ht : IT L t) (hm : MayM (addM x.m t.m)) : IT (K * L) y :=
  ⟨h.c.re, by rw [h.c.whole1.1]; exact abs_le_mul hx.le ht.le, by rw [h.m]; exact hm⟩

/-- The sum of products: what p, times what has the coefficients F, has. -/
def cv : List TL → (Mo → Int) → Mo → Int
  | [], _, _ => 0
  | x :: p, F, m => x.c.top * F (subM m x.m) + cv p F m
theorem cv_add (p : List TL) (F G : Mo → Int) (m : Mo) : cv p (fun n => F n + G n) m = cv p F m + cv p G m := by
  induction p with
  | nil => rfl
  | cons x p ih =>
    simp only [cv, ih, Int.mul_add]
    omega
theorem cv_zero (p : List TL) (m : Mo) : cv p (fun _ => 0) m = 0 := by
  induction p with
  | nil => rfl
  | cons x p ih => simp [cv, ih]
theorem cv_congr (p : List TL) {F G : Mo → Int} (h : ∀ n, F n = G n) (m : Mo) : cv p F m = cv p G m := by
  have : F = G := funext h
  rw [this]
theorem TimR.coef {t : TL} : ∀ {p q : List TL}, TimR t p q → ∀ m, coef q m = cv p (coef [t]) m
  | [], [], _, m => rfl
  | x :: p, y :: q, h, m => by
    have ih := TimR.coef h.2 m
    simp only [Go.Proofs.YtbdldijgcmgfaaaGreat.coef, cv] at ih ⊢
    rw [ih, h.1.c.whole1.1, h.1.m]
    by_cases e : addM x.m t.m = m
    · rw [if_pos e, if_pos ((sub_iff m x.m t.m).1 e)]
      simp
    · rw [if_neg e, if_neg fun e' => e ((sub_iff m x.m t.m).2 e')]
      simp
  | [], _ :: _, h, _ => h.elim
  | _ :: _, [], h, _ => h.elim
theorem cv_one (t : TL) : ∀ (p : List TL) (m : Mo), cv p (coef [t]) m = t.c.top * coef p (subM m t.m)
  | [], m => by simp [cv, coef]
  | x :: p, m => by
    have ih := cv_one t p m
    simp only [coef, cv] at ih ⊢
    rw [ih, Int.mul_add]
    have e1 : t.m = subM m x.m ↔ x.m = subM m t.m := by
      rw [← sub_iff, ← sub_iff]
      have : addM x.m t.m = addM t.m x.m := by refine Mo.ext4 ?_ ?_ ?_ ?_ <;> simp only [addM] <;> omega
      rw [this]
    by_cases e : t.m = subM m x.m
    · rw [if_pos e, if_pos (e1.1 e), Int.mul_zero, Int.add_zero, Int.mul_add, Int.mul_comm x.c.top t.c.top]
    · rw [if_neg e, if_neg fun h => e (e1.2 h)]
      simp
/-- Products go in whatever order. -/
theorem cv_comm (p q : List TL) (m : Mo) : cv p (coef q) m = cv q (coef p) m := by
  induction q with
  | nil => simp only [cv]; exact cv_zero p m
  | cons t q ih =>
    have h1 : cv p (coef (t :: q)) m = cv p (fun n => coef [t] n + coef q n) m := cv_congr p (fun n => by simp [coef]) m
    rw [h1, cv_add, ih, cv_one]
    rfl

theorem TimT.small {K L : Nat} {t : TL} {p out : List TL} {k : Int} (h : TimT p t out k) (ht : IT L t) (hz : t.c.top ≠ 0) (hb : K ≤ 1000000000) (hl : L ≤ 1000000000) (hp : ∀ x ∈ p, IT K x ∧ MayM (addM x.m t.m)) : k = 0 ∧ TimR t p out := timesL_small ht hb hl hp (h.all hz)

/-- All products. -/
theorem many_small {K L : Nat} (hb : K ≤ 1000000000) (hl : L ≤ 1000000000) {p : List TL} : ∀ {q all : List TL} {k : Int}, (∀ t ∈ q, IT L t ∧ t.c.top ≠ 0) → (∀ x ∈ p, IT K x) → (∀ x ∈ p, ∀ t ∈ q, MayM (addM x.m t.m)) → ManyL p q all k →
    k = 0 ∧ (∀ m, coef all m = cv p (coef q) m) ∧ all.length = p.length * q.length ∧ ∀ y ∈ all, ∃ x ∈ p, ∃ t ∈ q, Pr x t y
  | [], all, k, _, _, _, h => by
    obtain ⟨rfl, rfl⟩ := h
    exact ⟨rfl, fun m => (cv_zero p m).symm, by simp, fun y hy => by simp at hy⟩
  | t :: q, all, k, hq, hp, hm, h => by
    obtain ⟨x, j, h1, _, h3⟩ := h
    obtain ⟨ht, hz⟩ := hq t (.head _)
    obtain ⟨hj, hr⟩ := h1.small ht hz hb hl (fun y hy => ⟨hp y hy, hm y hy t (.head _)⟩)
    obtain ⟨rest, c1, _, c3⟩ := h3 hj
    obtain ⟨hk, d1, d2, d3⟩ := many_small hb hl (fun y hy => hq y (.tail _ hy)) hp (fun y hy u hu => hm y hy u (.tail _ hu)) c1
    rw [c3 hk]
    refine ⟨hk, fun m => ?_, ?_, fun y hy => ?_⟩
    · rw [coef_append, d1, hr.coef, ← cv_add]
      exact cv_congr p (fun n => by simp [coef]) m
    · rw [List.length_append, d2, hr.len, List.length_cons, Nat.mul_add, Nat.mul_one]
      omega
    · rcases List.mem_append.1 hy with hy | hy
      · obtain ⟨u, hu, hpr⟩ := hr.mem y hy
        exact ⟨u, hu, t, .head _, hpr⟩
      · obtain ⟨u, hu, s, hs, hpr⟩ := d3 y hy
        exact ⟨u, hu, s, .tail _ hs, hpr⟩

/-- Exponents below 7. -/
theorem low_add {m n : Mo} (h : Low m) (g : Low n) : MayM (addM m n) := by
  obtain ⟨h0, h1, h2, h3, h4, h5, h6⟩ := h
  obtain ⟨g0, g1, g2, g3, g4, g5, g6⟩ := g
  refine ⟨⟨?_, ?_⟩, ⟨?_, ?_⟩, ⟨?_, ?_⟩, ⟨?_, ?_⟩⟩ <;> simp only [addM] <;> omega

/-- What Mul of two small ones tells. -/
theorem mul_small {o : Int} {K L : Nat} {p q out : List TL} {k : Int} (ho : Ord o) (hp : IntP o K p) (hq : IntP o L q) (lp : p.length ≤ 60) (lq : q.length ≤ 60) (hm : ∀ x ∈ p, ∀ t ∈ q, MayM (addM x.m t.m)) (hK : 1 ≤ K) (hL : 1 ≤ L) (hb : K * L * (p.length * q.length) ≤ 999999999) (hb2 : K ≤ 1000000000) (hb3 : L ≤ 1000000000) (h : MulP o p q out k) :
    ∃ r, IntP o (K * L * (p.length * q.length)) r ∧ (∀ m, coef r m = cv p (coef q) m) ∧ r.length ≤ p.length * q.length ∧ (60 < r.length → out = [] ∧ k = 90) ∧ (r.length ≤ 60 → out = r ∧ k = 0) ∧ (∀ y ∈ r, ∃ x ∈ p, ∃ t ∈ q, y.m = addM x.m t.m) := by
  obtain ⟨all, j, h1, _, h3⟩ := h.ok ⟨hp.may ho lp, hq.may ho lq⟩
  obtain ⟨hj, a1, a2, a3⟩ := many_small hb2 hb3 (fun t ht => ⟨hq.it t ht, hq.nz t ht⟩) hp.it hm h1
  have hit : ∀ y ∈ all, IT (K * L) y := fun y hy => by
    obtain ⟨x, hx, t, ht, hpr⟩ := a3 y hy
    exact hpr.it (hp.it x hx) (hq.it t ht) (hm x hx t ht)
  obtain ⟨r, b1, b2, b3, b4, b5⟩ := tog_small ho (h3 hj) hit (Nat.mul_pos hK hL) (by rw [a2]; exact hb)
  rw [a2] at b1 b3
  refine ⟨r, b1, fun m => (b2 m).trans (a1 m), b3, b4, b5, fun y hy => ?_⟩
  have hc : coef all y.m ≠ 0 := by rw [← b2, coef_falls ho b1.falls hy]; exact b1.nz y hy
  obtain ⟨s, hs, e⟩ := coef_mem hc
  obtain ⟨x, hx, t, ht, hpr⟩ := a3 s hs
  exact ⟨x, hx, t, ht, by rw [← e]; exact hpr.m⟩

/-- What Add of small ones tells. -/
theorem add_small {o : Int} {K : Nat} {l : List (List TL)} {out : List TL} {k : Int} (ho : Ord o) (hl : ∀ p ∈ l, IntP o K p ∧ p.length ≤ 60) (hK : 1 ≤ K) (hb : K * l.flatten.length ≤ 999999999) (h : AddP o l out k) :
    ∃ q, IntP o (K * l.flatten.length) q ∧ (∀ m, coef q m = coef l.flatten m) ∧ q.length ≤ l.flatten.length ∧ (60 < q.length → out = [] ∧ k = 90) ∧ (q.length ≤ 60 → out = q ∧ k = 0) :=
  tog_small ho (h.ok ⟨ho, fun p hp => (hl p hp).1.may ho (hl p hp).2⟩) (fun t ht => by
    obtain ⟨p, hp, hpt⟩ := List.mem_flatten.1 ht
    exact (hl p hp).1.it t hpt) hK hb
end Go.Proofs.YtbdldijgcmgfaaaGreat
