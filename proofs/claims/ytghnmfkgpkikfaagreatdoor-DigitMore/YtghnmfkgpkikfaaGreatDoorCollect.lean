/-
  Loops over digits that collect: what an append tells of its row's block; slices.AppendSeq, slices.Collect, digit.digits, digit.Base.
-/
import Derived.Test.YtghnmfkgpkikfaaGreatDoorIter
namespace Go.Proofs.YtghnmfkgpkikfaaGreatDoor
open Go.RowKit Go.Shelf

attribute [local go_sem] Oper.semAt_some

/-- What is appended onto lies where it lay, or in a new block. -/
theorem run_append_kin {P : Program} (w : World) (base : Nat) (t ty e : TypeId) (i : TypeInfo) (z : Value) (size bytes : Nat) (ht : P.underlying t = some (.slice e)) (hi : P.info? e = some i) (hz : i.zero = some z)
    (hsize : i.size = size) (hby : i.bytes = bytes) (hzs : z.cells.size = size) (hsz : 0 < size) (v : Value) (n : Nat) (xs : List Value) (hown : w.ownsRow base e size v n xs)
    (a : Addr) (m c : Nat) (news : List Value) (hl : news.length = m * size) (hnews : ∀ j u, news[j]? = some u → w.cell? (a.add j) = some u) (h1 : ∀ u ∈ news, u.oneCell' = true)
    (h63 : n + m ≤ maxLen) (hbytes : (n + m) * bytes ≤ 140737488355328) (hbase : base ≤ w.heap.size) (hm : 0 < m) :
    ∃ v' w', (Builtin.append_ #[t, t] ty #[v, .slice (some a) m c]).run P w = .ok v' w' ∧ w'.ownsRow base e size v' (n + m) (xs ++ news) ∧ w.grownBy w' v.ownBlock ∧
      (∀ k, v'.ownBlock = some k → v.ownBlock = some k ∨ k = w.heap.size) := by
  obtain ⟨v', w', hr, h2, h3, _⟩ := run_append_own (P := P) w base t ty e i z size bytes ht hi hz hsize hby hzs hsz v n xs hown a m c news hl hnews h1 h63 hbytes hbase
  refine ⟨v', w', hr, h2, h3, ?_⟩
  subst hsize
  subst hby
  have hsmall : n + m ≤ 9223372036854775807 := by simp only [maxLen] at h63; omega
  rcases hown.2 with ⟨rfl, rfl⟩ | ⟨g, cap, cur, rfl, hbg, hg, hnc, hcm, hcs, htake⟩
  · have hr2 := run_append_nil (P := P) w t ty e i z ht hi hz a m c news hl hnews hm (by omega) (by have hb := hbytes; simp only [Nat.zero_add] at hb; omega)
    rw [hr] at hr2
    injection hr2 with e1 e2
    subst e1
    intro k hk
    simp [Value.ownBlock] at hk
    exact .inr hk.symm
  · by_cases hroom : n + m ≤ cap
    · have hfit : n * i.size + news.length ≤ cur.size := by rw [hl, hcs, ← Nat.add_mul]; exact Nat.mul_le_mul_right _ hroom
      have hr2 := run_append_room (P := P) w t ty e i ht hi g n cap cur hg a m c news hl hnews h1 hroom hfit
      rw [hr] at hr2
      injection hr2 with e1 e2
      subst e1
      intro k hk
      exact .inl hk
    · have holds : ∀ j u, xs[j]? = some u → w.cell? ((⟨g, 0, none⟩ : Addr).add j) = some u := hown.cells (g := g) rfl
      have hr2 := run_append_grow (P := P) w t ty e i z ht hi hz ⟨g, 0, none⟩ n cap xs hown.1 holds a m c news hl hnews (by omega) (by omega) (growslice_fits (by omega) hbytes)
      rw [hr] at hr2
      injection hr2 with e1 e2
      subst e1
      intro k hk
      simp [Value.ownBlock] at hk
      exact .inr hk.symm

theorem append_kin {F : Fence} {n : Nat} {P : Program} (w : World) {ops : Array Oper} {rest : List Oper} {o : Oper} {a : Act} {Q : Exit → Act → World → Prop}
    (hg : o.guard = none) (s x : Operand) (t : TypeId) (hop : o.op = Op.call { callee := Callee.builtin Builtin.append, args := #[s, x], argTypes := #[t, t] })
    (base : Nat) (e : TypeId) (i : TypeInfo) (z : Value) (size bytes : Nat) (h1 : P.underlying t = some (.slice e)) (h2 : P.info? e = some i) (h3 : i.zero = some z) (h4 : i.size = size) (h5 : i.bytes = bytes) (h6 : z.cells.size = size) (h7 : 0 < size)
    (v : Value) (k : Nat) (xs : List Value) (hs : a.eval s = v) (hown : w.ownsRow base e size v k xs) (ad : Addr) (m c : Nat) (news : List Value) (hx : a.eval x = .slice (some ad) m c) (hn : news.length = m * size)
    (hc : ∀ j u, news[j]? = some u → w.cell? (ad.add j) = some u) (h1c : ∀ u ∈ news, u.oneCell' = true) (b1 : k + m ≤ maxLen) (b2 : (k + m) * bytes ≤ 140737488355328) (b3 : base ≤ w.heap.size) (hm : 0 < m)
    (hK : ∀ v' w', w'.ownsRow base e size v' (k + m) (xs ++ news) → w.grownBy w' v.ownBlock → (∀ k, v'.ownBlock = some k → v.ownBlock = some k ∨ k = w.heap.size) → wpListIn F n P ops Q rest (a.put o.dst v') w') :
    wpListIn F n P ops Q (o :: rest) a w := by
  refine wpListIn_plain hg fun K hK' => ?_
  obtain ⟨v', w', hrun, r1, r2, r3⟩ := run_append_kin (P := P) w base t o.type e i z size bytes h1 h2 h3 h4 h5 h6 h7 v k xs hown ad m c news hn hc h1c b1 b2 b3 hm
  unfold Oper.wpIn
  refine ⟨?_, ?_⟩
  · simp [Oper.about, hop, resolve, Target.leads, Sem.run_pure]
  · rw [Oper.semAt_plain F _ _ (by rw [hop]; intro c hc'; cases hc')]
    simp [execOp, hop, resolve, invoke, builtin, hs, hx, hrun, Result.andThen]
    exact hK' _ _ (hK v' w' r1 r2 r3)

theorem KeepsRows.of_below {Bx : Nat} {W W' : World} (hB : Bx < W.heap.size) (h : Below W.heap.size W W') : KeepsRows Bx W W' := by
  have hcell : W'.cell? ⟨Bx, 0, none⟩ = W.cell? ⟨Bx, 0, none⟩ := h.cell (p := ⟨Bx, 0, none⟩) hB
  exact ⟨h.size, fun k o hk _ _ => (h.block k (Array.getElem?_eq_some_iff.1 hk).1).trans hk, fun k hk => .inl (hk.same hcell), fun hl k hk => Nat.lt_of_lt_of_le (hl k (hk.same hcell)) h.size⟩

/-- Behind an append onto the variable's slice, and the store of it. -/
theorem KeepsRows.appended {W w1 : World} {n₀ Bx : Nat} {t e : TypeId} {size : Nat} {v v' : Value} {m : Nat} {ys : List Value} {tmp : Obj}
    (hv : Boxed W Bx t v) (hv2 : Boxed (w1.setCell ⟨Bx, 0, none⟩ v') Bx t v') (hown' : w1.ownsRow n₀ e size v' m ys) (hgrow : (W.alloc tmp).grownBy w1 v.ownBlock)
    (hkin : ∀ k, v'.ownBlock = some k → v.ownBlock = some k ∨ k = (W.alloc tmp).heap.size) : KeepsRows Bx W (w1.setCell ⟨Bx, 0, none⟩ v') := by
  have hsz : W.heap.size ≤ w1.heap.size := Nat.le_trans (by simp) hgrow.size
  have hsz2 : w1.heap.size ≤ (w1.setCell ⟨Bx, 0, none⟩ v').heap.size := (KeepsWalks.setCell w1 _ v').size
  refine ⟨Nat.le_trans hsz hsz2, fun k o hk _ hn => ?_, fun k hk => ?_, fun _ k hk => ?_⟩
  · have hlt := (Array.getElem?_eq_some_iff.1 hk).1
    have h1 : k ≠ Bx := fun e => hn (.inl e)
    have h2 : some k ≠ v.ownBlock := fun e => hn (.inr ⟨v, hv.cell, e.symm⟩)
    exact ((Below.heap_setCell w1 ⟨Bx, 0, none⟩ v' k h1).trans (hgrow.block k (by simp; omega) h2)).trans ((Below.heap_alloc W tmp k hlt).trans hk)
  · rcases hk with rfl | ⟨u, hu, hb⟩
    · exact .inl (.inl rfl)
    · rw [hv2.cell] at hu
      cases hu
      rcases hkin k hb with h | h
      · exact .inl (.inr ⟨v, hv.cell, h⟩)
      · exact .inr (by rw [h]; simp)
  · rcases hk with rfl | ⟨u, hu, hb⟩
    · exact hv2.lt
    · rw [hv2.cell] at hu
      cases hu
      rcases hown'.2 with ⟨rfl, _⟩ | ⟨g, cap, cur, rfl, _, hg, _⟩
      · simp [Value.ownBlock] at hb
      · simp [Value.ownBlock] at hb
        subst hb
        exact Nat.lt_of_lt_of_le (Array.getElem?_eq_some_iff.1 hg).1 hsz2

/-- digit.digits hands back its iterator. -/
theorem iter_any (ao : Option Addr) (na ca : Nat) (b : Int) (w : World) :
    Calls Tryz.prog 27 #[.slice ao na ca, .int .u64 b] w fun e w' => e = .returned (.func (.func 46) #[] #[.pointer (some ⟨w.heap.size, 0, none⟩), .pointer (some ⟨w.heap.size + 1, 0, none⟩)]) ∧
      w' = (w.alloc (.cells #[.slice ao na ca] 23)).alloc (.cells #[.int .u64 b] 24) := by
  go_enter Tryz.func27, Tryz.ntmps27
  go_wp2
  go_ret
  exact ⟨rfl, rfl⟩

theorem pow_mono {a b : Int} (h0 : 0 ≤ a) (h : a ≤ b) (k : Nat) : a ^ k ≤ b ^ k := by
  induction k with
  | zero => simp
  | succ k ih =>
    rw [Int.pow_succ, Int.pow_succ]
    exact Int.mul_le_mul ih h h0 (Int.pow_nonneg (by omega))

theorem big_two : Big = (2 : Int) ^ (64 * 8) := by
  have h : BB = (2 : Int) ^ 64 := by decide
  rw [Int.pow_mul, ← h]
  rfl

theorem few_digits {b : Int} (hb : 2 ≤ b) {xs : List Int} (hl : Limbs xs) (hm : May xs) : ∀ L, Dig b L (val xs) → L.length ≤ 512 := by
  intro L hL
  have h1 := May.lt hl hm
  have h2 : Big ≤ b ^ (64 * 8) := by
    rw [big_two]
    exact pow_mono (by omega) hb _
  have h3 := dig_few (b := b) (by omega) hL (k := 64 * 8) (Int.lt_of_lt_of_le h1 h2)
  omega

/-- The iterator's contract, for a loop that collects into the variable at Bx. -/
theorem digits_stops (n : Nat) (b : Int) (hb2 : 2 ≤ b) (hbB : b < BB) (Ba Bb Bx : Nat) (ao : Option Addr) (na ca : Nat) (xs : List Int) (hm : May xs) (w : World)
    (hBa : Ba < w.heap.size) (hBb : Bb < w.heap.size) (hkb : ¬ Kin Bx w Bb) (hca : w.cell? ⟨Ba, 0, none⟩ = some (.slice ao na ca)) (hcb : w.cell? ⟨Bb, 0, none⟩ = some (.int .u64 b)) (hr : RowAt w ao na ca xs)
    (hf : ∀ p, ao = some p → xs ≠ [] → ¬ Kin Bx w p.block) (hBx : Bx < w.heap.size) (hl : ∀ k, Kin Bx w k → k < w.heap.size) :
    SeqStopsK Fence.wide n Tryz.prog 46 #[.pointer (some ⟨Ba, 0, none⟩), .pointer (some ⟨Bb, 0, none⟩)] (fun x : Digit b => #[Value.int .u64 x.1]) (KeepsRows Bx) (fun ys => Dig b (ys.map Subtype.val) (val xs)) (fun _ => True) 512 w := by
  intro l J Jx W hW hJ _ hY h0
  have hcell : W.cell? ⟨Bx, 0, none⟩ = w.cell? ⟨Bx, 0, none⟩ := hW.cell (p := ⟨Bx, 0, none⟩) hBx
  exact digits1_in n b hb2 hbB l Ba Bb Bx 512 ao na ca xs hm J Jx W hJ (few_digits hb2 hr.limbs hm) hY (fun h => hkb (h.same hcell)) ((hW.cell (p := ⟨Ba, 0, none⟩) hBa).trans hca) ((hW.cell (p := ⟨Bb, 0, none⟩) hBb).trans hcb) (hr.below hW)
    (fun p hp hne h => hf p hp hne (h.same hcell)) (Nat.lt_of_lt_of_le hBx hW.size) (fun k h => Nat.lt_of_lt_of_le (hl k (h.same hcell)) hW.size) h0

set_option maxRecDepth 100000 in
set_option maxHeartbeats 2000000 in
theorem appendSeq_any (b : Int) (hb2 : 2 ≤ b) (hbB : b < BB) (Ba Bb : Nat) (ao : Option Addr) (na ca : Nat) (xs : List Int) (hm : May xs) (w : World)
    (hBa : Ba < w.heap.size) (hBb : Bb < w.heap.size) (hca : w.cell? ⟨Ba, 0, none⟩ = some (.slice ao na ca)) (hcb : w.cell? ⟨Bb, 0, none⟩ = some (.int .u64 b)) (hr : RowAt w ao na ca xs) :
    CallsIn Fence.wide 3 Tryz.prog 45 #[.slice none 0 0, .func (.func 46) #[] #[.pointer (some ⟨Ba, 0, none⟩), .pointer (some ⟨Bb, 0, none⟩)]] w fun e W' =>
      ∃ v L, e = .returned v ∧ Dig b L (val xs) ∧ W'.ownsRow w.heap.size 24 1 v L.length (L.map (Value.int .u64)) ∧ Below w.heap.size w W' := by
  obtain ⟨i0, hi, hz0, hz1, hz2⟩ := info_parts Tryz.info24
  have bO := Boxed.new w 22 (.slice none 0 0)
  have hB0 : Below w.heap.size w (w.alloc (.cells #[.slice none 0 0] 22)) := (Below.refl _ w).alloc (Nat.le_refl _) _
  have hk0 : ∀ k, Kin w.heap.size (w.alloc (.cells #[.slice none 0 0] 22)) k → k = w.heap.size := by
    rintro k (rfl | ⟨v, hv, hb⟩)
    · rfl
    · rw [bO.cell] at hv
      cases hv
      simp [Value.ownBlock] at hb
  have hS := digits_stops 2 b hb2 hbB Ba Bb w.heap.size ao na ca xs hm (w.alloc (.cells #[.slice none 0 0] 22)) (by simp; omega) (by simp; omega) (fun h => by have := hk0 _ h; omega) ((hB0.cell (p := ⟨Ba, 0, none⟩) hBa).trans hca) ((hB0.cell (p := ⟨Bb, 0, none⟩) hBb).trans hcb) (hr.below hB0)
    (fun p hp hne h => by
      obtain ⟨b', off', e', hlt, _⟩ := hr.cells hne
      rw [hp] at e'
      cases e'
      have h9 : b' = w.heap.size := hk0 _ h
      omega) (by simp) (fun k h => by have := hk0 _ h; simp; omega)
  have HS : Hid _ := hS
  clear hS hr hca hcb
  refine callsIn_of_wp_marks Tryz.func45 rfl trivial ?_ rfl
  simp only [Tryz.ntmps45, List.size_toArray, List.length_cons, List.length_nil, Nat.reduceAdd, Nat.reduceSub, Array.replicate_succ, Array.replicate_zero, List.push_toArray, List.append_toArray, List.nil_append, List.cons_append]
  gi_wp2
  refine wpIn_rangeFunc_ownG rfl (by omega) (gf := 46) (lb := #[.pointer (some ⟨Ba, 0, none⟩), .pointer (some ⟨Bb, 0, none⟩)]) rfl trivial (enters_of Tryz.func46 (by kernel_rfl) rfl)
    HS.out (fun h k => h.trans k) (keepsRows_b (by simp)) (Below.refl _ _) (fun _ => rfl)
    (fun (pre : List (Digit b)) W => (∃ v, Boxed W w.heap.size 22 v ∧ W.ownsRow w.heap.size 24 1 v pre.length (pre.map fun x => Value.int .u64 x.1) ∧ True) ∧ Below w.heap.size w W)
    (fun _ _ _ => False)
    (OwnFrom.and (Own.from (holdsRow_own (β := List (Digit b)) w.heap.size w.heap.size 22 24 1 (fun pre => pre.length) (fun pre => pre.map fun x => Value.int .u64 x.1) (fun _ _ => True)) _) (ownFrom_below (Nat.le_refl _) (by simp)))
    (fun _ _ _ _ _ hs _ _ => hs)
    ⟨⟨_, bO, World.ownsRow_nil _ _ _ _, trivial⟩, hB0⟩
    (fun x => { tmps := #[.slice none 0 0, .func (.func 46) #[] #[.pointer (some ⟨Ba, 0, none⟩), .pointer (some ⟨Bb, 0, none⟩)], .pointer (some ⟨w.heap.size, 0, none⟩), undef, .slice none 0 0, .int .u64 x.1, .func (.func 46) #[] #[.pointer (some ⟨Ba, 0, none⟩), .pointer (some ⟨Bb, 0, none⟩)], .int .u64 x.1, undef, undef, undef, undef, undef], defers := [] }) ?assign ?body ?done ?stop
  case assign =>
    intro l x W K hK
    gi_wp2
    exact hK
  case body =>
    rintro l pre x W ⟨⟨v, hv, hrow, -⟩, hB⟩ hlt
    have hc := hv.cell
    gi_wp2_with (gi_at_builtin; refine append_kin _ rfl _ _ 22 rfl w.heap.size 24 i0 (.int .u64 0) 1 8 Tryz.underlying22 hi hz0 hz1 hz2 rfl (by decide) _ _ _ rfl (hrow.alloc _) ⟨W.heap.size, 0, none⟩ 1 1 [.int .u64 x.1] rfl rfl (cell_one_new _ _ _) (by simp [Value.oneCell']) (by unfold maxLen; omega) (by omega) (by have := hB.size; simp; omega) (by omega) ?_; intro v' w1 hown' hgrow hkin; obtain ⟨g', cap', rfl⟩ := ownsRow_succ hown'; obtain ⟨hv1, hv2, hr2, hk2, hb2⟩ := hv.appended (by decide) hrow hB.size (Nat.le_refl _) hown' hgrow; have hkr := KeepsRows.appended hv hv2 hown' hgrow hkin; have hc1 := hv1.cell; have hf1 := hv1.frozen)
    exact ⟨hk2.from _, hkr, ⟨_, hv2, by simpa using hr2, trivial⟩, hB.trans hb2⟩
  case done =>
    rintro D ys W hD hS ⟨⟨v, hv, hrow, -⟩, hB⟩ hK
    have hc := hv.cell
    gi_wp2
    refine ⟨by simp, .inl ⟨_, _, rfl, run_takeDeferred hK, ?_⟩⟩
    exact ⟨_, results_tmp rfl _ _ _, v, ys.map Subtype.val, rfl, hS, by simpa using ownsRow_putObj hrow _ hK rfl, hB.trans (belowK_b (w := w) (Nat.le_refl _) W D _ _ (by simp at hD; omega) hK rfl rfl)⟩
  case stop =>
    rintro D c pre W _ _ h _
    exact h.elim

end Go.Proofs.YtghnmfkgpkikfaaGreatDoor
