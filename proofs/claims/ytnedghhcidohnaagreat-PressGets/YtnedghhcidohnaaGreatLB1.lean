/-
  Joined: OctA · OctB.
-/
import Derived.Test.YtnedghhcidohnaaGreatJB1
import Derived.Test.YtnedghhcidohnaaGreatJC1
import Derived.Lib.ConvBytes
import Derived.Lib.FrozenHead2
import Derived.Deep.CutRange

/-! Bytes: those of a number, the highest one first; rows of bytes of one's own, and one byte more behind them. -/
namespace Go.Proofs.YtnedghhcidohnaaGreat
open Go.RowKit

/-- A byte as a value. -/
def u8v (c : UInt8) : Value := .int .u8 (c.toNat : Int)

/-- The k lowest bytes of n, the highest one first. -/
def lowB (n : Nat) : Nat → List UInt8
  | 0 => []
  | k + 1 => UInt8.ofNat (n / 256 ^ k) :: lowB n k

/-- How many bytes n has. -/
def cntB (n : Nat) : Nat := (bitLen n + 7) / 8

/-- A number as bytes. -/
def putL (n : Nat) : List UInt8 := UInt8.ofNat (cntB n) :: lowB n (cntB n)

theorem lowB_length (n k : Nat) : (lowB n k).length = k := by
  induction k with
  | zero => rfl
  | succ k ih => simp [lowB, ih]

/-- The row of bytes that begins at block g, of n elements, is of one's own, and holds xs. -/
def OwnB (w : World) (base g n cap : Nat) (xs : List UInt8) : Prop :=
  xs.length = n ∧ base ≤ g ∧ n ≤ cap ∧ cap ≤ maxLen ∧ ∃ cur fz, w.heap[g]? = some (.cells cur 5 fz) ∧ cur.size = cap ∧ (fz.2 ≤ n ∨ cap ≤ fz.1) ∧ cur.toList.take n = xs.map u8v

theorem OwnB.lt {w : World} {base g n cap : Nat} {xs : List UInt8} (h : OwnB w base g n cap xs) : base ≤ g ∧ g < w.heap.size := by
  obtain ⟨_, hb, _, _, cur, fz, hg, _⟩ := h
  exact ⟨hb, (Array.getElem?_eq_some_iff.1 hg).1⟩

theorem OwnB.block {w w' : World} {base g n cap : Nat} {xs : List UInt8} (h : OwnB w base g n cap xs) (he : w'.heap[g]? = w.heap[g]?) : OwnB w' base g n cap xs := by
  obtain ⟨h1, h2, h3, h4, cur, fz, hg, h5⟩ := h
  exact ⟨h1, h2, h3, h4, cur, fz, he.trans hg, h5⟩

theorem OwnB.alloc {w : World} {base g n cap : Nat} {xs : List UInt8} (h : OwnB w base g n cap xs) (o : Obj) : OwnB (w.alloc o) base g n cap xs := h.block (heap_alloc_old w o h.lt.2)
theorem OwnB.drew {w : World} {base g n cap : Nat} {xs : List UInt8} (h : OwnB w base g n cap xs) : OwnB w.drew base g n cap xs := h.block rfl

theorem OwnB.cell {w : World} {base g n cap : Nat} {xs : List UInt8} (h : OwnB w base g n cap xs) (j : Nat) (hj : j < xs.length) : w.cell? ((⟨g, 0, none⟩ : Addr).add j) = some (.int .u8 (xs[j].toNat : Int)) := by
  obtain ⟨h1, h2, h3, h4, cur, fz, hg, h5, h6, h7⟩ := h
  have hadd : (⟨g, 0, none⟩ : Addr).add j = ⟨g, j, none⟩ := by unfold Addr.add; split <;> simp_all
  rw [hadd, cell_of_row w g j cur 5 fz hg]
  have h8 : (cur.toList.take n)[j]? = (xs.map u8v)[j]? := by rw [h7]
  rw [List.getElem?_take, if_pos (by omega)] at h8
  simp [hj, u8v] at h8
  simpa using h8

theorem run_store1 {P : Program} (g n : Nat) (t : TypeId) (fz : Nat × Nat) (c : Value) (cur : Array Value) (w : World) (hg : w.heap[g]? = some (.cells cur t fz)) (hf : fz.2 ≤ n ∨ cur.size ≤ fz.1) (hl : n < cur.size) (h1 : c.oneCell' = true) :
    (storeCells ⟨g, n, none⟩ [c] 0).run P w = .ok () (w.setRow g (cur.setIfInBounds n c)) := by
  have hadd : (⟨g, n, none⟩ : Addr).add 0 = ⟨g, n, none⟩ := by unfold Addr.add; split <;> simp_all
  have hcell : w.cell? ⟨g, n, none⟩ = some cur[n] := by simp [World.cell?, hg, hl]
  have hfro : w.frozen? ⟨g, n, none⟩ = false := by
    obtain ⟨lo, hi'⟩ := fz
    simp only [World.frozen?, hg, Bool.and_eq_false_iff, decide_eq_false_iff_not]
    simp only at hf
    omega
  have hst : (store ((⟨g, n, none⟩ : Addr).add 0) c).run P w = .ok () (w.setRow g (cur.setIfInBounds n c)) := by
    rw [hadd, run_store P w _ c _ h1, hcell]
    simp [hfro, setCell_eq_setRow w g n cur t fz c hg]
  simp only [storeCells, Sem.run_bind, hst, Result.andThen_ok]
  rfl

theorem run_append_byte {P : Program} (w : World) (base : Nat) (t ty : TypeId) (i : TypeInfo) (ht : P.underlying t = some (.slice 5)) (hi : P.info? 5 = some i) (hz : i.zero = some (.int .u8 0)) (hsize : i.size = 1) (hby : i.bytes = 1)
    (g n cap : Nat) (xs : List UInt8) (hown : OwnB w base g n cap xs) (ad : Addr) (cc : Nat) (c : UInt8) (hc : w.cell? ad = some (u8v c)) (h63 : n + 1 ≤ 100000000) (hbase : base ≤ w.heap.size) :
    ∃ g' cap' w', (Builtin.append_ #[t, t] ty #[.slice (some ⟨g, 0, none⟩) n cap, .slice (some ad) 1 cc]).run P w = .ok (.slice (some ⟨g', 0, none⟩) (n + 1) cap') w' ∧ OwnB w' base g' (n + 1) cap' (xs ++ [c]) ∧ w.grownBy w' (some g) ∧ (g' = g ∨ g' = w.heap.size) := by
  have hkeep := hown
  obtain ⟨h1, h2, h3, h4, cur, fz, hg, h5, h6, h7⟩ := hown
  have hadd : ad.add 0 = ad := by unfold Addr.add; split <;> simp_all
  have hnews : ∀ j v, [u8v c][j]? = some v → w.cell? (ad.add j) = some v := by
    intro j v hj
    cases j with
    | zero => rw [hadd, hc]; simpa using hj
    | succ j => simp at hj
  by_cases hroom : n + 1 ≤ cap
  · have hf := run_firstCells_some (P := P) w 1 1 ad 1 cc [u8v c] rfl hnews
    have hst := run_store1 (P := P) g n 5 fz (u8v c) cur w hg (by omega) (by omega) rfl
    refine ⟨g, cap, w.setRow g (cur.setIfInBounds n (u8v c)), ?_, ⟨by simp [h1], h2, hroom, h4, _, fz, setRow_heap w g cur _ 5 _ hg, by simpa using h5, by omega, ?_⟩, ⟨rfl, rfl, rfl, by simp, fun k _ hk => setRow_other w g k _ (fun e => hk (by rw [e]))⟩, .inl rfl⟩
    · simp [Builtin.append_, run_underlying ht, sizeOf, typeInfo, hi, hsize, Builtin.lenOf, hroom, hf, Addr.add_lit, hst]
    · rw [Array.toList_setIfInBounds, List.map_append, ← h7, List.take_add_one, List.take_set_of_le (Nat.le_refl _)]
      rw [List.getElem?_set_self (by simp; omega)]
      rfl
  · have holds : ∀ j u, (xs.map u8v)[j]? = some u → w.cell? ((⟨g, 0, none⟩ : Addr).add j) = some u := by
      intro j u hj
      have hjl : j < xs.length := by have := (List.getElem?_eq_some_iff.1 hj).1; simpa using this
      rw [hkeep.cell j hjl]
      simp [hjl, u8v] at hj
      rw [← hj]
    have hr := run_append_grow (P := P) w t ty 5 i (.int .u8 0) ht hi hz ⟨g, 0, none⟩ n cap (xs.map u8v) (by rw [hsize]; simpa using h1) holds ad 1 cc [u8v c] (by rw [hsize]; rfl) hnews (by omega) (by omega) (by rw [hby]; exact growslice_fits (by omega) (by omega))
    have hge := grownCap_ge w (n + 1) cap 5
    have hcm2 : grownCap w (n + 1) cap 5 ≤ maxLen := grownCap_le_maxLen w (n + 1) cap 5 (by unfold maxLen; omega)
    refine ⟨w.heap.size, _, _, hr, ⟨by simp [h1], hbase, hge, hcm2, _, (0, 0), heap_alloc_new w.drew _, ?_, .inl (Nat.zero_le _), ?_⟩, ⟨rfl, rfl, rfl, by simp, fun k hk _ => heap_alloc_old w.drew _ hk⟩, .inr rfl⟩
    · have hz1 : (Value.int IntKind.u8 0).cells.size = 1 := rfl
      simp only [Array.size_append, List.size_toArray, size_zeroCells, hz1, List.length_map, List.length_cons, List.length_nil, h1]
      omega
    · have hl : (xs.map u8v ++ [u8v c]).length = n + 1 := by simp [h1]
      simp only [Array.toList_append, List.append_assoc, List.map_append, List.map_cons, List.map_nil]
      rw [← List.append_assoc, ← hl]
      exact List.take_left

theorem wpList_append_byte {P : Program} (w : World) {ops : Array Oper} {rest : List Oper} {o : Oper} {a : Act} {Q : Exit → Act → World → Prop} (hgd : o.guard = none) (s x : Operand) (t : TypeId)
    (ho : o.op = .call { callee := .builtin .append, args := #[s, x], argTypes := #[t, t] })
    (base : Nat) (i : TypeInfo) (ht : P.underlying t = some (.slice 5)) (hi : P.info? 5 = some i) (hz : i.zero = some (.int .u8 0)) (hsize : i.size = 1) (hby : i.bytes = 1)
    (g n cap : Nat) (xs : List UInt8) (hs : a.eval s = .slice (some ⟨g, 0, none⟩) n cap) (hown : OwnB w base g n cap xs) (ad : Addr) (cc : Nat) (c : UInt8) (hx : a.eval x = .slice (some ad) 1 cc) (hc : w.cell? ad = some (u8v c)) (h63 : n + 1 ≤ 100000000) (hbase : base ≤ w.heap.size)
    (h : ∀ g' cap' w', OwnB w' base g' (n + 1) cap' (xs ++ [c]) → w.grownBy w' (some g) → (g' = g ∨ g' = w.heap.size) → wpList P ops Q rest (a.put o.dst (.slice (some ⟨g', 0, none⟩) (n + 1) cap')) w') : wpList P ops Q (o :: rest) a w := by
  refine wpList_plain hgd fun K hK => ?_
  obtain ⟨g', cap', w', hr, h2, h3, h4⟩ := run_append_byte (P := P) w base t o.type i ht hi hz hsize hby g n cap xs hown ad cc c hc h63 hbase
  unfold Oper.wp execOp
  simp only [ho, resolve, invoke, builtin, Sem.run_bind, Sem.run_pure, Result.andThen_ok, List.map_toArray, List.map_cons, List.map_nil, hs, hx, hr]
  exact hK _ _ (h g' cap' w' h2 h3 h4)

end Go.Proofs.YtnedghhcidohnaaGreat

/-! octet.appendLow and octet.Put. -/
namespace Go.Proofs.YtnedghhcidohnaaGreat
open Go.RowKit

theorem lowB_take (n k j : Nat) (h : j < k) : (lowB n k).take (k - j) = (lowB n k).take (k - (j + 1)) ++ [UInt8.ofNat (n / 256 ^ j)] := by
  induction k with
  | zero => omega
  | succ k ih =>
    by_cases e : j = k
    · subst e
      simp [lowB, show j + 1 - j = 1 by omega]
    · have h1 : k + 1 - j = (k - j) + 1 := by omega
      have h2 : k + 1 - (j + 1) = (k - (j + 1)) + 1 := by omega
      rw [h1, h2, lowB, List.take_succ_cons, List.take_succ_cons, ih (by omega)]
      rfl

theorem byte_val (x : Int) (i : Nat) (hx : 0 ≤ x) : Value.int .u8 (x / 2 ^ (8 * i) % 256) = u8v (UInt8.ofNat (x.toNat / 256 ^ i)) := by
  obtain ⟨X, rfl⟩ := Int.eq_ofNat_of_zero_le hx
  have e : (2 : Int) ^ (8 * i) = ((256 ^ i : Nat) : Int) := by rw [Int.pow_mul]; simp
  unfold u8v
  rw [e, Int.toNat_natCast, ← Int.natCast_ediv]
  congr 1

theorem grown_trans {a b c : World} {g g' : Nat} (h : a.grownBy b (some g)) (k : b.grownBy c (some g')) (hg : g' = g ∨ a.heap.size ≤ g') : a.grownBy c (some g) :=
  ⟨k.os.trans h.os, k.tape.trans h.tape, k.output.trans h.output, Nat.le_trans h.size k.size, fun j hj hn => (k.block j (Nat.lt_of_lt_of_le hj h.size) (fun e => by
    cases e
    rcases hg with e2 | h2
    · exact hn (by rw [e2])
    · omega)).trans (h.block j hj hn)⟩

theorem cell_one (w : World) (v : Value) (t : TypeId) : (w.alloc (.cells #[v] t)).cell? ⟨w.heap.size, 0, none⟩ = some v := by rw [cell_of_row _ _ _ _ _ _ (heap_alloc_new w _)]; rfl

theorem grown_alloc (w : World) (o : Obj) (row : Option Nat) : w.grownBy (w.alloc o) row := ⟨rfl, rfl, rfl, by simp, fun _ hk _ => heap_alloc_old w o hk⟩

set_option maxRecDepth 100000 in
set_option maxHeartbeats 2000000 in
theorem low_any (base g m cap : Nat) (xs : List UInt8) (x : Int) (k : Nat) (w : World) (hx : 0 ≤ x) (hB : x < BB) (hk : k ≤ 8) (hm : m ≤ 1000) (hown : OwnB w base g m cap xs) (_hbase : base ≤ w.heap.size) :
    Calls Tryz.prog 80 #[.slice (some ⟨g, 0, none⟩) m cap, .int .u64 x, .int .i64 k] w fun e w' => ∃ g' cap', e = .returned (.slice (some ⟨g', 0, none⟩) (m + k) cap') ∧ OwnB w' base g' (m + k) cap' (xs ++ lowB x.toNat k) ∧ w.grownBy w' (some g) ∧ (g' = g ∨ w.heap.size ≤ g') := by
  obtain ⟨i0, hi, hz0, hz1, hz2⟩ := info_parts (P := Tryz.prog) (e := 5) (z := .int .u8 0) (size := 1) (bytes := 1) (by kernel_rfl)
  have hx1 : x ≤ 18446744073709551615 := by unfold BB at hB; omega
  have HO : Hid (OwnB w base g m cap xs) := hown
  have hgw := hown.lt
  clear hown
  go_enter Tryz.func80, Tryz.ntmps80
  go_wp2
  go_loopg [0, 7] k (fun n s0 s7 wr => ∃ (j N g' c' : Nat), j ≤ k ∧ j ≤ n ∧ N = m + (k - j) ∧ s7 = .int .i64 ((j : Int) - 1) ∧ s0 = .slice (some ⟨g', 0, none⟩) N c' ∧ OwnB wr base g' N c' (xs ++ (lowB x.toNat k).take (k - j)) ∧ w.grownBy wr (some g) ∧ (g' = g ∨ w.heap.size ≤ g'))
  case atStart => exact ⟨k, m, g, cap, Nat.le_refl _, Nat.le_refl _, by omega, by go_num, rfl, by simpa using HO.out, ⟨rfl, rfl, rfl, Nat.le_refl _, fun _ _ _ => rfl⟩, .inl rfl⟩
  case round =>
    obtain ⟨j, N, g', c', hj, hjn, hN, rfl, rfl, hown, hgr, hkin⟩ := hrel
    by_cases h0 : j = 0
    · subst h0
      obtain rfl : N = m + k := by omega
      have HR : Hid (OwnB wr base g' (m + k) c' (xs ++ lowB x.toNat k) ∧ w.grownBy wr (some g) ∧ (g' = g ∨ w.heap.size ≤ g')) := by
        have e : (lowB x.toNat k).take (k - 0) = lowB x.toNat k := List.take_of_length_le (by rw [lowB_length]; omega)
        rw [e] at hown
        exact ⟨hown, hgr, hkin⟩
      clear hown hgr hkin
      go_wp2
      go_ret
      exact ⟨g', c', rfl, HR.out.1, HR.out.2.1, HR.out.2.2⟩
    · obtain ⟨i, rfl⟩ : ∃ i, j = i + 1 := ⟨j - 1, by omega⟩
      have hij : (((i + 1 : Nat) : Int) - 1) = (i : Int) := by omega
      rw [hij]
      have HR : Hid (OwnB wr base g' N c' (xs ++ (lowB x.toNat k).take (k - (i + 1))) ∧ w.grownBy wr (some g) ∧ (g' = g ∨ w.heap.size ≤ g') ∧ N = m + (k - (i + 1))) := ⟨hown, hgr, hkin, hN⟩
      have hsz := hgr.size
      have i0' : (0 : Int) ≤ (i : Int) := by omega
      have i1' : (i : Int) ≤ 7 := by omega
      clear hown hgr hkin hij hN h0
      have HV : Hid (Value.int .u8 (x / 2 ^ (8 * i) % 256) = u8v (UInt8.ofNat (x.toNat / 256 ^ i))) := byte_val x i hx
      go_wp2_with (at_builtin; refine wpList_append_byte _ rfl (.tmp 14) (.tmp 20) 58 rfl base i0 (by kernel_rfl) hi hz0 hz1 hz2 g' N c' _ rfl (HR.out.1.alloc _) ⟨wr.heap.size, 0, none⟩ 1 (UInt8.ofNat (x.toNat / 256 ^ i)) rfl ((cell_one wr _ 5).trans (congrArg some HV.out)) (by have := HR.out.2.2.2; omega) (by simp; omega) ?_; intro g2 c2 w2 hown2 hgr2 hk2)
      go_roundg i
      case measure => omega
      case rel =>
        have hg3 := grown_trans HR.out.2.1 (grown_alloc wr (Obj.cells #[Value.int IntKind.u8 (x / 2 ^ (8 * i) % 256)] 5) (some g')) HR.out.2.2.1
        refine ⟨i, N + 1, g2, c2, by omega, Nat.le_refl _, by have := HR.out.2.2.2; omega, by go_num, rfl, ?_, grown_trans hg3 hgr2 HR.out.2.2.1, ?_⟩
        · rw [lowB_take _ _ _ (show i < k by omega), ← List.append_assoc]
          exact hown2
        · rcases hk2 with e | e
          · rw [e]; exact HR.out.2.2.1
          · right; rw [e]; simp; omega

theorem cntB_le (n : Nat) (h : n < 2 ^ 64) : cntB n ≤ 8 := by
  have : bitLen n ≤ 64 := by
    unfold bitLen
    split
    · omega
    · rename_i h0
      have := (Nat.log2_lt h0).2 h
      omega
  unfold cntB
  omega

theorem below_grow {w w1 w2 : World} {g : Nat} (h : Below w.heap.size w w1) (hg : w1.grownBy w2 (some g)) (hk : w.heap.size ≤ g) : Below w.heap.size w w2 :=
  h.grown hg h.size (fun j hj => by cases hj; exact hk)

theorem OwnB.string {P : Program} {w : World} {base g n cap : Nat} {xs : List UInt8} (h : OwnB w base g n cap xs) (src dst : TypeId) (hs : P.underlying src = some (.slice 5)) (he : P.underlying 5 = some (.int .u8)) (hd : P.underlying dst = some .string) :
    (convert src dst (.slice (some ⟨g, 0, none⟩) n cap)).run P w = .ok (.string ⟨xs.toArray⟩) w := by
  obtain rfl := h.1
  exact run_convert_bytes_back (P := P) w src dst 5 ⟨g, 0, none⟩ cap xs hs he hd (fun j hj => h.cell j hj)

theorem OwnB.one (w : World) (v : Value) (c : UInt8) (h : v = u8v c) : OwnB (w.alloc (.cells #[v] 5)) w.heap.size w.heap.size 1 1 [c] := by
  subst h
  exact ⟨rfl, Nat.le_refl _, Nat.le_refl _, by unfold maxLen; omega, _, (0, 0), heap_alloc_new w _, rfl, .inl (Nat.zero_le _), rfl⟩

set_option maxRecDepth 100000 in
set_option maxHeartbeats 2000000 in
theorem put_any (x : Int) (w : World) (hx : 0 ≤ x) (hB : x < BB) :
    Calls Tryz.prog 49 #[.int .u64 x] w fun e w' => e = .returned (.string ⟨(putL x.toNat).toArray⟩) ∧ Below w.heap.size w w' := by
  have hx1 : x ≤ 18446744073709551615 := by unfold BB at hB; omega
  obtain ⟨b, hb⟩ : ∃ b : Nat, b = bitLen x.toNat := ⟨_, rfl⟩
  obtain ⟨c, hc⟩ : ∃ c : Nat, c = cntB x.toNat := ⟨_, rfl⟩
  have hc8 : c ≤ 8 := by rw [hc]; exact cntB_le _ (by omega)
  have hbc : ((b : Int) + 7) / 8 = (c : Int) := by rw [hc, hb]; unfold cntB; omega
  have HB : Hid (x < BB ∧ b = bitLen x.toNat ∧ c = cntB x.toNat ∧ Value.int .u8 (c : Int) = u8v (UInt8.ofNat c)) := ⟨hB, hb, hc, by unfold u8v; congr 1; simp; omega⟩
  have hb64 : (b : Int) ≤ 1000 := by omega
  have hq : IntKind.i64.wrap (Int.tdiv ((b : Int) + 7) 8) = (c : Int) := by rw [Int.tdiv_eq_ediv_of_nonneg (by omega), hbc]; exact IntWalk.i64_in _ ⟨by omega, by omega⟩
  have hq2 : Int.tdiv ((b : Int) + 7) 8 = (c : Int) := by rw [Int.tdiv_eq_ediv_of_nonneg (by omega), hbc]
  have hc9 : (c : Int) ≤ 8 := by omega
  have hcm : (c : Int) % 256 = (c : Int) := by omega
  clear hB hb hc
  go_enter Tryz.func49, Tryz.ntmps49
  go_wp2_with (go_at_call 79; refine (len64_any x _ hx HB.out.1).mono ?_; rw [← HB.out.2.1]; rintro e w1 ⟨rfl, rfl⟩)
  refine (low_any w1.heap.size w1.heap.size 1 1 [UInt8.ofNat c] x c _ hx HB.out.1 hc8 (by omega) (OwnB.one w1 _ _ HB.out.2.2.2) (by simp)).mono ?_
  rintro e w2 ⟨g, cp, rfl, hown, hgr, hkin⟩
  have hcv := hown.string (P := Tryz.prog) 58 9 (by kernel_rfl) (by kernel_rfl) (by kernel_rfl)
  have HF : Hid (Below w1.heap.size w1 w2) := below_grow ((Below.refl _ _).alloc (Nat.le_refl _) _) hgr (Nat.le_refl _)
  have HP : Hid ((([UInt8.ofNat c] ++ lowB x.toNat c).toArray) = (putL x.toNat).toArray) := by
    have h9 : (([UInt8.ofNat c] ++ lowB x.toNat c).toArray) = (putL x.toNat).toArray := by rw [HB.out.2.2.1]; rfl
    exact h9
  clear hown hgr hkin
  go_wp2
  go_ret
  rw [← HP.out]
  exact ⟨rfl, HF.out⟩
end Go.Proofs.YtnedghhcidohnaaGreat
