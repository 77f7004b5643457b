/-
  digit.From, at any digits and any base.
-/
import Derived.Test.YtghnmfkgpkikfaaGreatDoorFromP
namespace Go.Proofs.YtghnmfkgpkikfaaGreatDoor
open Go.RowKit Go.Shelf

attribute [local go_sem] Oper.semAt_some

/-- The three boxes that From makes first. -/
structure Boxes3 (w W : World) (b : Int) (res : Value) (err : Int) : Prop where
  base : Boxed W w.heap.size 24 (.int .u64 b)
  res : Boxed W (w.heap.size + 1) 23 res
  err : Boxed W (w.heap.size + 2) 26 (.int .i64 err)
  bel : Below w.heap.size w W

theorem Boxes3.new (w : World) (b : Int) (res : Value) (err : Int) : Boxes3 w (((w.alloc (.cells #[.int .u64 b] 24)).alloc (.cells #[res] 23)).alloc (.cells #[.int .i64 err] 26)) b res err := by
  have c := Boxed.new ((w.alloc (.cells #[.int .u64 b] 24)).alloc (.cells #[res] 23)) 26 (.int .i64 err)
  have d := (Boxed.new (w.alloc (.cells #[.int .u64 b] 24)) 23 res).alloc (.cells #[.int .i64 err] 26)
  rw [World.size_alloc] at c d
  rw [World.size_alloc] at c
  exact ⟨((Boxed.new w 24 (.int .u64 b)).alloc _).alloc _, d, c, below3 w _ _ _⟩

theorem Boxes3.drewN {w W : World} {b : Int} {res : Value} {err : Int} (h : Boxes3 w W b res err) (q : Nat) : Boxes3 w (W.drewN q) b res err := ⟨h.base, h.res, h.err, below_drewN h.bel q⟩
theorem Boxes3.set {w W : World} {b : Int} {res : Value} {err : Int} (h : Boxes3 w W b res err) (res' : Value) (err' : Int) : Boxes3 w ((W.setCell ⟨w.heap.size + 1, 0, none⟩ res').setCell ⟨w.heap.size + 2, 0, none⟩ (.int .i64 err')) b res' err' :=
  ⟨bx_other (bx_other h.base (by omega)) (by omega), bx_other (h.res.set res') (by omega), (bx_other h.err (by omega)).set _, (h.bel.setCell (by show w.heap.size ≤ w.heap.size + 1; omega) _).setCell (by show w.heap.size ≤ w.heap.size + 2; omega) _⟩

set_option maxHeartbeats 1000000 in
theorem from_small (ao : Option Addr) (n cap : Nat) (b : Int) (w : World) (hb : b < 2) :
    Calls Tryz.prog 8 #[.slice ao n cap, .int .u64 b] w fun e w' => e = .returned (.tuple #[.slice none 0 0, .int .i64 1]) ∧ Below w.heap.size w w' := by
  have H : Hid (Boxes3 w _ b (.slice none 0 0) 1) := Boxes3.new w b (.slice none 0 0) 1
  go_enter Tryz.func8, Tryz.ntmps8
  go_wp2
  exact bodyPost_ret (results_from _ _ (w.heap.size + 1) (w.heap.size + 2) 0 0 none 1 rfl rfl H.out.res.cell H.out.err.cell) rfl ⟨rfl, H.out.bel⟩

set_option maxHeartbeats 1000000 in
theorem from_no (ao : Option Addr) (n cap : Nat) (l : List Int) (b : Int) (w : World) (h : RowAt w ao n cap l) (hb : 2 ≤ b) (hd : (l.any fun x => decide (b ≤ x)) = true) :
    Calls Tryz.prog 8 #[.slice ao n cap, .int .u64 b] w fun e w' => e = .returned (.tuple #[.slice none 0 0, .int .i64 1]) ∧ Below w.heap.size w w' := by
  have H : Hid (Boxes3 w _ b (.slice none 0 0) 0) := Boxes3.new w b (.slice none 0 0) 0
  have HA : Hid (RowAt w ao n cap l ∧ (l.any fun x => decide (b ≤ x)) = true) := ⟨h, hd⟩
  have hb' : ¬ b < 2 := by omega
  clear h hd hb
  go_enter Tryz.func8, Tryz.ntmps8
  go_wp2_with fail
  refine (contains_any ao n cap l b w.heap.size _ (HA.out.1.below H.out.bel) H.out.base.lt H.out.base.cell).mono ?_
  rintro e w1 ⟨rfl, q, rfl⟩
  have hd := HA.out.2
  rw [hd]
  clear hd
  have H2 : Hid (Boxes3 w _ b (.slice none 0 0) 1) := (H.out.drewN q).set (.slice none 0 0) 1
  go_wp2
  exact bodyPost_ret (results_from _ _ (w.heap.size + 1) (w.heap.size + 2) 0 0 none 1 rfl rfl H2.out.res.cell H2.out.err.cell) rfl ⟨rfl, H2.out.bel⟩

/-- The sum of a part of the digits is no greater. -/
theorem dval_prefix {b : Int} (hb : 1 ≤ b) {l : List Int} (hd : Digs b l) {pre : List (Placed b)} (h : pre.map (fun x => x.2.1) <+: l.reverse) : dval b (pre.map fun x => x.2.1).reverse ≤ dval b l := by
  obtain ⟨t, ht⟩ := h
  have e : l = t.reverse ++ (pre.map fun x => x.2.1).reverse := by
    have := congrArg List.reverse ht
    simp only [List.reverse_append, List.reverse_reverse] at this
    exact this.symm
  have h2 := dval_drop_le hb hd t.reverse.length
  rw [e, List.drop_left] at h2
  rw [e]
  exact h2

set_option maxRecDepth 100000 in
set_option maxHeartbeats 4000000 in
theorem from_yes (ao : Option Addr) (n cap : Nat) (l : List Int) (b : Int) (w : World) (h : RowAt w ao n cap l) (hb2 : 2 ≤ b) (hbB : b < BB) (hd : Digs b l) (hlen : l.length ≤ 1000000) :
    CallsIn Fence.wide 4 Tryz.prog 8 #[.slice ao n cap, .int .u64 b] w fun e w' => ∃ ro m c r k, e = .returned (.tuple #[.slice ro m c, .int .i64 k]) ∧ RowAt w' ro m c r ∧ Out (2 ≤ b ∧ Digs b l) False (dval b l) r k ∧ Below w.heap.size w w' := by
  have H : Hid (Boxes3 w _ b (.slice none 0 0) 0) := Boxes3.new w b (.slice none 0 0) 0
  have hany : (l.any fun x => decide (b ≤ x)) = false := by
    rw [List.any_eq_false]
    intro x hx
    have := (hd x hx).2
    simp
    omega
  have HA : Hid (RowAt w ao n cap l ∧ 2 ≤ b ∧ b < BB ∧ Digs b l ∧ l.length ≤ 1000000 ∧ (l.any fun x => decide (b ≤ x)) = false) := ⟨h, hb2, hbB, hd, hlen, hany⟩
  have hb' : ¬ b < 2 := by omega
  clear h hd hb2 hbB hlen hany
  refine callsIn_of_wp_marks Tryz.func8 rfl trivial ?_ rfl
  simp only [Tryz.ntmps8, List.size_toArray, List.length_cons, List.length_nil, Nat.reduceAdd, Nat.reduceSub, Array.replicate_succ, Array.replicate_zero, List.push_toArray, List.append_toArray, List.nil_append, List.cons_append]
  gi_wp2_with fail
  refine ⟨trivial, ?_⟩
  refine (callsIn_wide.2 (contains_any ao n cap l b w.heap.size _ (HA.out.1.below H.out.bel) H.out.base.lt H.out.base.cell)).mono ?_
  rintro e w1 ⟨rfl, q, rfl⟩
  have hd := HA.out.2.2.2.2.2
  rw [hd]
  clear hd
  gi_wp2_with fail
  refine ⟨trivial, ?_⟩
  refine (callsIn_wide.2 (back_any _ _ _ _)).mono ?_
  rintro e w2 ⟨rfl, rfl⟩
  gi_wp2_with fail
  obtain ⟨W0, hW0⟩ : ∃ W0, ((((((w.alloc (Obj.cells #[Value.int IntKind.u64 b] 24)).alloc (Obj.cells #[Value.slice none 0 0] 23)).alloc (Obj.cells #[Value.int IntKind.i64 0] 26)).drewN q).alloc (Obj.cells #[Value.slice none 0 0] 23)).alloc (Obj.cells #[Value.slice ao n cap] 22)) = W0 := ⟨_, rfl⟩
  have hsz : W0.heap.size = w.heap.size + 5 := by rw [← hW0]; simp
  have hF0 : Boxed W0 (w.heap.size + 3) 23 (.slice none 0 0) ∧ Boxed W0 (w.heap.size + 4) 22 (.slice ao n cap) ∧ Boxes3 w W0 b (.slice none 0 0) 0 := by
    have h3 := H.out.drewN q
    generalize ((((w.alloc (Obj.cells #[Value.int IntKind.u64 b] 24)).alloc (Obj.cells #[Value.slice none 0 0] 23)).alloc (Obj.cells #[Value.int IntKind.i64 0] 26)).drewN q) = V at h3 hW0
    have e1 : V.heap.size = w.heap.size + 3 := by
      have := congrArg (fun x : World => x.heap.size) hW0
      simp at this
      omega
    have a1 := (Boxed.new V 23 (.slice none 0 0)).alloc (Obj.cells #[Value.slice ao n cap] 22)
    have a2 := Boxed.new (V.alloc (Obj.cells #[Value.slice none 0 0] 23)) 22 (.slice ao n cap)
    rw [World.size_alloc, e1] at a2
    rw [e1] at a1
    rw [hW0] at a1 a2
    have hb : Below w.heap.size w W0 := by rw [← hW0]; exact (h3.bel.alloc h3.bel.size _).alloc (by simp; have := h3.bel.size; omega) _
    exact ⟨a1, a2, by rw [← hW0]; exact (h3.base.alloc _).alloc _, by rw [← hW0]; exact (h3.res.alloc _).alloc _, by rw [← hW0]; exact (h3.err.alloc _).alloc _, hb⟩
  rw [hW0]
  clear hW0
  obtain ⟨f1, f2, f3⟩ := hF0
  have hbel : ∀ p, ao = some p → l ≠ [] → p.block < w.heap.size := fun p hp hne => by
    obtain ⟨b', off', e', hlt, _⟩ := HA.out.1.cells hne
    rw [hp] at e'
    cases e'
    exact hlt
  have hS := back_stops 3 b (w.heap.size + 4) w.heap.size ao n cap l HA.out.2.2.2.1 HA.out.2.2.2.2.1 W0 (by omega) f2.cell (HA.out.1.below f3.bel) hbel
  have HS : Hid _ := hS
  have HF : Hid (Boxed W0 (w.heap.size + 3) 23 (.slice none 0 0) ∧ Boxes3 w W0 b (.slice none 0 0) 0) := ⟨f1, f3⟩
  clear hS f1 f2 f3 hbel H
  refine wpIn_rangeFunc_ownG rfl (by omega) (gf := 41) (lb := #[.pointer (some ⟨w.heap.size + 4, 0, none⟩)]) rfl trivial (enters_of Tryz.func41 (by kernel_rfl) rfl)
    HS.out (fun h k => h.trans k) (keepsB_b (by omega) (by omega)) (Below.refl _ _) (fun _ => rfl)
    (FromInv w b) (fun c pre W => c = .ret ∧ FromEx w b pre W) (fromInv_own w b _ (by omega)) (fun c => fromEx_own w b _ (by omega) c)
    ⟨⟨none, 0, 0, [], HF.out.1, RowAt.nil _, Num.nil⟩, Big_pos, HF.out.2.base, HF.out.2.res, HF.out.2.err, HF.out.2.bel, by omega⟩
    (fun x => { tmps := #[.slice ao n cap, .int .u64 b, undef, .pointer (some ⟨w.heap.size, 0, none⟩), .pointer (some ⟨w.heap.size + 1, 0, none⟩), .pointer (some ⟨w.heap.size + 1 + 1, 0, none⟩), .pointer (some ⟨w.heap.size + 1 + 1 + 1, 0, none⟩), undef, .int .u64 x.2.1, undef, .int .u64 b, .bool false, .bool false, .slice ao n cap, .func (.func 22) #[] #[.pointer (some ⟨w.heap.size, 0, none⟩)], .bool false, .bool false, .slice ao n cap, .func (.func 41) #[] #[.pointer (some ⟨w.heap.size + 1 + 1 + 1 + 1, 0, none⟩)], .int .i64 x.1, .int .u64 x.2.1, undef, undef, undef, undef, undef, undef, undef, undef, undef, undef, undef], defers := [] }) ?assign ?body ?done ?stop
  case assign =>
    intro l x W K hK
    gi_wp2
    exact hK
  case body =>
    rintro r pre x W hI hlt
    obtain ⟨so, sm, sc, s, i1, i2, i3⟩ := hI.sum
    have hx0 := x.2.2.1
    have hx1 := x.2.2.2
    have c3 : W.cell? ⟨w.heap.size, 0, none⟩ = some (.int .u64 b) := hI.base.cell
    have c6 : W.cell? ⟨w.heap.size + 1 + 1 + 1, 0, none⟩ = some (.slice so sm sc) := i1.cell
    have HI : Hid (FromInv w b pre W) := hI
    have HV : Hid (Boxed W (w.heap.size + 3) 23 (.slice so sm sc) ∧ RowAt W so sm sc s ∧ Num s (dval b (pre.map fun x => x.2.1).reverse) ∧ 0 ≤ x.2.1 ∧ x.2.1 < b) := ⟨i1, i2, i3, hx0, hx1⟩
    have HX : Hid (dval b ((pre ++ [x]).map fun x => x.2.1).reverse = x.2.1 + b * dval b (pre.map fun x => x.2.1).reverse) := dval_snoc_rev b pre x
    obtain ⟨v, hv⟩ : ∃ v, v = dval b (pre.map fun x => x.2.1).reverse := ⟨_, rfl⟩
    have HVV : Hid (v = dval b (pre.map fun x => x.2.1).reverse) := hv
    obtain ⟨d, hd⟩ : ∃ d, d = x.2.1 := ⟨_, rfl⟩
    have HD : Hid (d = x.2.1) := hd
    rw [← hd]
    clear hI i1 i2 i3 hx0 hx1 hv hd HS HF
    gi_wp2_with fail
    refine ⟨trivial, ?_⟩
    refine (CallsIn.inRound r (callsIn_wide.2 (lifted_any so sm sc s v b d W HV.out.2.1 (by rw [HVV.out]; exact HV.out.2.2.1) (by rw [HVV.out]; exact HI.out.small) (by omega) HA.out.2.2.1 (by rw [HD.out]; exact HV.out.2.2.2.1) (by rw [HD.out]; have := HV.out.2.2.2.2; have := HA.out.2.2.1; omega)))).mono ?_
    rintro e w1 ⟨ro, rm, rc, rr, k, rfl, g1, g2, g3⟩
    have bS : Boxed w1 (w.heap.size + 3) 23 (.slice so sm sc) := bx_below HV.out.1 g3
    have bR : Boxed w1 (w.heap.size + 1) 23 (.slice none 0 0) := bx_below HI.out.res g3
    have bE : Boxed w1 (w.heap.size + 2) 26 (.int .i64 0) := bx_below HI.out.err g3
    have cS : w1.cell? ⟨w.heap.size + 1 + 1 + 1, 0, none⟩ = some (.slice so sm sc) := bS.cell
    have fS : w1.frozen? ⟨w.heap.size + 1 + 1 + 1, 0, none⟩ = false := bS.frozen
    have hE : dval b ((pre ++ [x]).map fun x => x.2.1).reverse = d + b * v := by rw [HX.out, HD.out, HVV.out]
    have hws : w.heap.size ≤ w1.heap.size := Nat.le_trans HI.out.bel.size g3.size
    have hbl : Below w.heap.size w (w1.setCell ⟨w.heap.size + 3, 0, none⟩ (.slice ro rm rc)) := (chain HI.out.bel g3).setCell (by show w.heap.size ≤ w.heap.size + 3; omega) _
    have hko : KeepsOthers W (w1.setCell ⟨w.heap.size + 3, 0, none⟩ (.slice ro rm rc)) := (KeepsOthers.of_below g3).trans (KeepsOthers.setCell _ _ _)
    rcases Int.lt_or_le (d + b * v) Big with hlt2 | hge
    · obtain ⟨rfl, hn⟩ := g2.ok_num trivial (fun f => f) hlt2
      have hIn : FromInv w b (pre ++ [x]) (w1.setCell ⟨w.heap.size + 3, 0, none⟩ (.slice ro rm rc)) := by
        refine ⟨⟨ro, rm, rc, rr, bS.set _, g1.setBox bS (fun x h => by cases h), ?_⟩, ?_, bx_other (bx_below HI.out.base g3) (by omega), bx_other bR (by omega), bx_other bE (by omega), hbl, Nat.le_trans (Nat.le_trans HI.out.room g3.size) (KeepsWalks.setCell w1 _ _).size⟩
        · rw [hE]; exact hn
        · rw [hE]; exact hlt2
      have hkb : KeepsB w.heap.size (w.heap.size + 4) W (w1.setCell ⟨w.heap.size + 3, 0, none⟩ (.slice ro rm rc)) :=
        ⟨(g3.mono HI.out.bel.size).setCell (by show w.heap.size ≤ w.heap.size + 3; omega) _, (Below.heap_setCell w1 ⟨w.heap.size + 3, 0, none⟩ _ (w.heap.size + 4) (by show w.heap.size + 4 ≠ w.heap.size + 3; omega)).trans (g3.block _ (Nat.lt_of_lt_of_le (by omega : w.heap.size + 4 < w.heap.size + 5) HI.out.room))⟩
      have HR : Hid (KeepsFrom W0.heap.size W (w1.setCell ⟨w.heap.size + 3, 0, none⟩ (.slice ro rm rc)) ∧ KeepsB w.heap.size (w.heap.size + 4) W (w1.setCell ⟨w.heap.size + 3, 0, none⟩ (.slice ro rm rc)) ∧ FromInv w b (pre ++ [x]) (w1.setCell ⟨w.heap.size + 3, 0, none⟩ (.slice ro rm rc))) := ⟨hko.from _, hkb, hIn⟩
      clear bS bR bE hE hws hbl hko hIn hkb g1 g2 g3 hlt2 hn HX HVV HD HV HI
      gi_wp2
      exact HR.out
    · obtain ⟨rfl, rfl⟩ := g2.is_big trivial (fun f => f) hge
      have cR : w1.cell? ⟨w.heap.size + 1, 0, none⟩ = some (.slice none 0 0) := bR.cell
      have fR : w1.frozen? ⟨w.heap.size + 1, 0, none⟩ = false := bR.frozen
      have cE : w1.cell? ⟨w.heap.size + 1 + 1, 0, none⟩ = some (.int .i64 0) := bE.cell
      have fE : w1.frozen? ⟨w.heap.size + 1 + 1, 0, none⟩ = false := bE.frozen
      have hEx : FromEx w b (pre ++ [x]) (((w1.setCell ⟨w.heap.size + 3, 0, none⟩ (.slice ro rm rc)).setCell ⟨w.heap.size + 1, 0, none⟩ (.slice none 0 0)).setCell ⟨w.heap.size + 2, 0, none⟩ (.int .i64 21)) := by
        refine ⟨by rw [hE]; exact hge, bx_other ((bx_other bR (by omega)).set _) (by omega), (bx_other (bx_other bE (by omega)) (by omega)).set _, (hbl.setCell (by show w.heap.size ≤ w.heap.size + 1; omega) _).setCell (by show w.heap.size ≤ w.heap.size + 2; omega) _⟩
      have HR : Hid (KeepsFrom W0.heap.size W (((w1.setCell ⟨w.heap.size + 3, 0, none⟩ (.slice ro rm rc)).setCell ⟨w.heap.size + 1, 0, none⟩ (.slice none 0 0)).setCell ⟨w.heap.size + 2, 0, none⟩ (.int .i64 21)) ∧ FromEx w b (pre ++ [x]) (((w1.setCell ⟨w.heap.size + 3, 0, none⟩ (.slice ro rm rc)).setCell ⟨w.heap.size + 1, 0, none⟩ (.slice none 0 0)).setCell ⟨w.heap.size + 2, 0, none⟩ (.int .i64 21))) := ⟨((hko.trans (KeepsOthers.setCell _ _ _)).trans (KeepsOthers.setCell _ _ _)).from _, hEx⟩
      clear bS bR bE hE hws hbl hko hEx g1 g2 g3 hge HX HVV HD HV HI
      gi_wp2
      exact ⟨HR.out.1, rfl, HR.out.2⟩
  case done =>
    rintro D ys W hD hS hI hK
    obtain ⟨so, sm, sc, s, i1, i2, i3⟩ := hI.sum
    have c6 : W.cell? ⟨w.heap.size + 1 + 1 + 1, 0, none⟩ = some (.slice so sm sc) := i1.cell
    have cR : W.cell? ⟨w.heap.size + 1, 0, none⟩ = some (.slice none 0 0) := hI.res.cell
    have fR : W.frozen? ⟨w.heap.size + 1, 0, none⟩ = false := hI.res.frozen
    have cE : W.cell? ⟨w.heap.size + 1 + 1, 0, none⟩ = some (.int .i64 0) := hI.err.cell
    have fE : W.frozen? ⟨w.heap.size + 1 + 1, 0, none⟩ = false := hI.err.frozen
    have hdv : dval b (ys.map fun x => x.2.1).reverse = dval b l := by rw [hS, List.reverse_reverse]
    rw [hdv] at i3
    have hsm := hI.small
    rw [hdv] at hsm
    have h3 : Boxes3 w ((W.setCell ⟨w.heap.size + 1, 0, none⟩ (.slice so sm sc)).setCell ⟨w.heap.size + 2, 0, none⟩ (.int .i64 0)) b (.slice so sm sc) 0 := (⟨hI.base, hI.res, hI.err, hI.bel⟩ : Boxes3 w W b (.slice none 0 0) 0).set _ _
    have hrow : RowAt ((W.setCell ⟨w.heap.size + 1, 0, none⟩ (.slice so sm sc)).setCell ⟨w.heap.size + 2, 0, none⟩ (.int .i64 0)) so sm sc s := (i2.setBox hI.res (fun x h => by cases h)).setBox (bx_other hI.err (by omega)) (fun x h => by cases h)
    have hDk : ((W.setCell ⟨w.heap.size + 1, 0, none⟩ (.slice so sm sc)).setCell ⟨w.heap.size + 2, 0, none⟩ (.int .i64 0)).heap[D]? = some (.deferred (some [])) := (Below.heap_setCell _ ⟨w.heap.size + 2, 0, none⟩ _ D (by show D ≠ w.heap.size + 2; omega)).trans ((Below.heap_setCell _ ⟨w.heap.size + 1, 0, none⟩ _ D (by show D ≠ w.heap.size + 1; omega)).trans hK)
    obtain ⟨V, hV⟩ : ∃ V, (W.setCell ⟨w.heap.size + 1, 0, none⟩ (.slice so sm sc)).setCell ⟨w.heap.size + 1 + 1, 0, none⟩ (.int .i64 0) = V := ⟨_, rfl⟩
    have HV : Hid (Boxes3 w V b (.slice so sm sc) 0 ∧ RowAt V so sm sc s ∧ V.heap[D]? = some (.deferred (some [])) ∧ Num s (dval b l) ∧ dval b l < Big) := by
      rw [← hV]
      exact ⟨h3, hrow, hDk, i3, hsm⟩
    have HDD : Hid (w.heap.size ≤ D) := (by omega : w.heap.size ≤ D)
    clear h3 hrow hDk i1 i2 i3 hsm hI hS hK hdv HS HF
    gi_wp2
    have hr' : ∀ r, some D = some r → ∃ o : Obj, V.heap[r]? = some o ∧ o.isCells = false := fun r e => by cases e; exact ⟨_, HV.out.2.2.1, rfl⟩
    refine ⟨by simp, .inl ⟨_, _, rfl, run_takeDeferred HV.out.2.2.1, ?_⟩⟩
    refine ⟨_, results_from _ _ (w.heap.size + 1) (w.heap.size + 2) sm sc so 0 rfl rfl (bx_kept HV.out.1.res (grownBy_putObj' V D _) hr').cell (bx_kept HV.out.1.err (grownBy_putObj' V D _) hr').cell, so, sm, sc, s, 0, rfl, HV.out.2.1.kept (grownBy_putObj' V D _) hr', ?_, HV.out.1.bel.trans (belowK_b (w := w) (Nat.le_refl _) V D _ _ HDD.out HV.out.2.2.1 rfl rfl)⟩
    exact Out.fine s ⟨HA.out.2.1, HA.out.2.2.2.1⟩ (fun f => f) HV.out.2.2.2.2 HV.out.2.2.2.1
  case stop =>
    rintro D c pre W hD hS ⟨rfl, hI⟩ hK
    have HV : Hid (FromEx w b pre W ∧ W.heap[D]? = some (.deferred (some [])) ∧ Big ≤ dval b l) := ⟨hI, hK, Int.le_trans hI.big (dval_prefix (by omega) HA.out.2.2.2.1 hS)⟩
    have HDD : Hid (w.heap.size ≤ D) := (by omega : w.heap.size ≤ D)
    have hr' : ∀ r, some D = some r → ∃ o : Obj, W.heap[r]? = some o ∧ o.isCells = false := fun r e => by cases e; exact ⟨_, HV.out.2.1, rfl⟩
    clear hI hS hK HS HF
    gi_wp2
    refine ⟨by simp, .inl ⟨_, _, rfl, run_takeDeferred HV.out.2.1, ?_⟩⟩
    refine ⟨_, results_from _ _ (w.heap.size + 1) (w.heap.size + 2) 0 0 none 21 rfl rfl (bx_kept HV.out.1.res (grownBy_putObj' W D _) hr').cell (bx_kept HV.out.1.err (grownBy_putObj' W D _) hr').cell, none, 0, 0, [], 21, rfl, RowAt.nil _, ?_, HV.out.1.bel.trans (belowK_b (w := w) (Nat.le_refl _) W D _ _ HDD.out HV.out.2.1 rfl rfl)⟩
    exact Out.big ⟨HA.out.2.1, HA.out.2.2.2.1⟩ (fun f => f) HV.out.2.2

theorem from_any (ao : Option Addr) (n cap : Nat) (l : List Int) (b : Int) (w : World) (h : RowAt w ao n cap l) (hbB : b < BB) (hlen : l.length ≤ 1000000) :
    Calls Tryz.prog 8 #[.slice ao n cap, .int .u64 b] w fun e w' => ∃ ro m c r k, e = .returned (.tuple #[.slice ro m c, .int .i64 k]) ∧ RowAt w' ro m c r ∧ Out (2 ≤ b ∧ Digs b l) False (dval b l) r k ∧ Below w.heap.size w w' := by
  by_cases hb : b < 2
  · exact (from_small ao n cap b w hb).mono fun e w' ⟨h1, h2⟩ => ⟨none, 0, 0, [], 1, h1, RowAt.nil _, Out.arg (fun o => by omega), h2⟩
  · by_cases hd : (l.any fun x => decide (b ≤ x)) = true
    · exact (from_no ao n cap l b w h (by omega) hd).mono fun e w' ⟨h1, h2⟩ => ⟨none, 0, 0, [], 1, h1, RowAt.nil _, Out.arg (fun o => not_digs hd o.2), h2⟩
    · exact callsIn_wide.1 (from_yes ao n cap l b w h (by omega) hbB (any_ge h.limbs (by simpa using hd)) hlen)

end Go.Proofs.YtghnmfkgpkikfaaGreatDoor
