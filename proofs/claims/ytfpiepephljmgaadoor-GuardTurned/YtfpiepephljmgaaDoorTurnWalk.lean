/-
  GuardTurned's walk.
-/
import Derived.Test.YtfpiepephljmgaaDoorCutWalk
import Derived.Test.YtfpiepephljmgaaDoorGRow
import Derived.Test.YtfpiepephljmgaaDoorGBit
namespace Go.Proofs.YtfpiepephljmgaaDoor
open Go.ChangeShapes Go.WideShapes Go.ChangeAt Go.RowKit

/-- The row of bytes at block g holds xs, and may be written. -/
def RowB (w : World) (g : Nat) (xs : List UInt8) : Prop :=
  ∃ cur t fz, w.heap[g]? = some (.cells cur t fz) ∧ xs.length ≤ cur.size ∧ cur.size ≤ fz.1 ∧ cur.toList.take xs.length = xs.map u8v

theorem RowB.cell {w : World} {g : Nat} {xs : List UInt8} (h : RowB w g xs) (j : Nat) (hj : j < xs.length) : w.cell? ⟨g, j, none⟩ = some (.int .u8 (xs[j].toNat : Int)) := by
  obtain ⟨cur, t, fz, hg, h1, h2, h3⟩ := h
  rw [cell_of_row w g j cur t fz hg]
  have h8 : (cur.toList.take xs.length)[j]? = (xs.map u8v)[j]? := by rw [h3]
  rw [List.getElem?_take, if_pos hj] at h8
  simp [hj, u8v] at h8
  simpa using h8
theorem RowB.frozen {w : World} {g : Nat} {xs : List UInt8} (h : RowB w g xs) (j : Nat) (hj : j < xs.length) : w.frozen? ⟨g, j, none⟩ = false := by
  obtain ⟨cur, t, ⟨lo, hi⟩, hg, h1, h2, h3⟩ := h
  simp only [World.frozen?, hg, Bool.and_eq_false_iff, decide_eq_false_iff_not]
  simp only at h2
  omega
theorem RowB.lt {w : World} {g : Nat} {xs : List UInt8} (h : RowB w g xs) : g < w.heap.size := by
  obtain ⟨cur, t, fz, hg, _⟩ := h
  exact (Array.getElem?_eq_some_iff.1 hg).1
theorem RowB.drew {w : World} {g : Nat} {xs : List UInt8} (h : RowB w g xs) : RowB w.drew g xs := h
theorem RowB.set {w : World} {g : Nat} {xs : List UInt8} (h : RowB w g xs) (j : Nat) (c : UInt8) : RowB (w.setCell ⟨g, j, none⟩ (.int .u8 (c.toNat : Int))) g (xs.set j c) := by
  obtain ⟨cur, t, fz, hg, h1, h2, h3⟩ := h
  rw [setCell_eq_setRow w g j cur t fz _ hg]
  refine ⟨_, t, fz, setRow_heap w g cur _ t _ hg, by simpa using h1, by simpa using h2, ?_⟩
  rw [Array.toList_setIfInBounds, List.length_set, List.take_set, h3, List.map_set]
  rfl
theorem rowB_new (w : World) (s : List UInt8) : RowB (Lib.bytesWorld w 5 (str s)) w.heap.size s := by
  refine ⟨_, _, _, Lib.bytesWorld_at_new w 5 (str s), ?_, Nat.le_refl _, ?_⟩
  · simp [Lib.bytesCells, str]
  · simp [Lib.bytesCells, str]
    exact fun _ _ => rfl
theorem RowB.string {P : Program} {w : World} {g cap : Nat} {xs : List UInt8} (h : RowB w g xs) (src dst : TypeId) (hs : P.underlying src = some (.slice 5)) (he : P.underlying 5 = some (.int .u8)) (hd : P.underlying dst = some .string) :
    (convert src dst (.slice (some ⟨g, 0, none⟩) xs.length cap)).run P w = .ok (.string (str xs)) w :=
  run_convert_bytes_back (P := P) w src dst 5 ⟨g, 0, none⟩ cap xs hs he hd (fun j hj => by
    have hadd : (⟨g, 0, none⟩ : Addr).add j = ⟨g, j, none⟩ := by unfold Addr.add; split <;> simp_all
    rw [hadd]; exact h.cell j hj)

theorem below_bytes (w : World) (e : TypeId) (s : ByteArray) : Below w.heap.size w (Lib.bytesWorld w e s) :=
  ⟨rfl, rfl, rfl, by rw [Lib.bytesWorld_size]; omega, fun k hk => Lib.bytesWorld_at_old w e s k hk⟩

theorem i64_eq {a : Int} {n : Nat} (h : a = (n : Int)) (hn : n ≤ 1000000) : IntKind.i64.wrap a = (n : Int) := by rw [h]; exact IntWalk.i64_in _ ⟨by omega, by omega⟩
theorem tmod_nat (a b : Nat) : Int.tmod (a : Int) (b : Int) = ((a % b : Nat) : Int) := by rw [Int.tmod_eq_emod_of_nonneg (by omega)]; simp
theorem tdiv_nat (a b : Nat) : Int.tdiv (a : Int) (b : Int) = ((a / b : Nat) : Int) := by rw [Int.tdiv_eq_ediv_of_nonneg (by omega)]; simp

theorem pow_u8 (r : Nat) (h : r < 8) : (UInt8.ofNat (2 ^ r)).toNat = 2 ^ r := by
  have : 2 ^ r ≤ 2 ^ 7 := Nat.pow_le_pow_right (by decide) (by omega)
  simp
  omega
theorem wrap_pow (r : Nat) (h : r < 8) : IntKind.u8.wrap (2 ^ r : Int) = ((2 ^ r : Nat) : Int) := by
  have : 2 ^ r ≤ 2 ^ 7 := Nat.pow_le_pow_right (by decide) (by omega)
  have e : (2 ^ r : Int) = ((2 ^ r : Nat) : Int) := by simp
  rw [e]
  generalize 2 ^ r = n at this
  simp only [IntKind.wrap, IntKind.bits, IntKind.signed]
  simp
  omega

/-- How far the bits are turned. -/
structure Turning (P X : List UInt8) (base W i HH L : Nat) (wr W1 : World) (g : Nat) : Prop where
  low : W < 2 ^ i
  top : 2 ^ base * W < 2 ^ HH
  len : X.length = L
  is : le X = le P ^^^ (2 ^ base * W)
  row : RowB wr g X
  old : Below g W1 wr

theorem Turning.stay {P X : List UInt8} {base W i HH L : Nat} {wr W1 : World} {g : Nat} (h : Turning P X base W i HH L wr W1 g) : Turning P X base W (i + 1) HH L wr W1 g :=
  ⟨Nat.lt_of_lt_of_le h.low (Nat.pow_le_pow_right (by decide) (Nat.le_succ i)), h.top, h.len, h.is, h.row, h.old⟩

theorem Turning.drew {P X : List UInt8} {base W i HH L : Nat} {wr W1 : World} {g : Nat} (h : Turning P X base W i HH L wr W1 g) : Turning P X base W i HH L wr.drew W1 g :=
  ⟨h.low, h.top, h.len, h.is, h.row.drew, h.old.drew⟩

theorem Turning.step {P X : List UInt8} {base W i HH L : Nat} {wr W1 : World} {g : Nat} (h : Turning P X base W i HH L wr W1 g) {K q r : Nat} (hK : K = base + i) (hKH : K < HH) (hq : q = K / 8) (hr : r = K % 8) (hqX : q < X.length) (c : UInt8) (hc : c = X[q]) (m8 : UInt8) (hm : m8.toNat = 2 ^ r) :
    Turning P (X.set q (c ^^^ m8)) base (W + 2 ^ i) (i + 1) HH L (wr.setCell ⟨g, q, none⟩ (.int .u8 ((c ^^^ m8).toNat : Int))) W1 g := by
  have e0 : W + 2 ^ i = W ^^^ 2 ^ i := by
    have := join_xor i 1 W h.low
    rw [Nat.mul_one] at this
    rw [Nat.xor_comm, this, Nat.add_comm]
  have e1 : 2 ^ (8 * q) * m8.toNat = 2 ^ base * 2 ^ i := by
    rw [hm, ← Nat.pow_add, ← Nat.pow_add]
    congr 1
    omega
  refine ⟨by rw [Nat.pow_succ]; have := h.low; omega, ?_, by rw [List.length_set]; exact h.len, ?_, h.row.set q _, h.old.setCell (Nat.le_refl _) _⟩
  · have h1 : W + 2 ^ i < 2 ^ (i + 1) := by rw [Nat.pow_succ]; have := h.low; omega
    have h2 : 2 ^ base * (W + 2 ^ i) < 2 ^ base * 2 ^ (i + 1) := Nat.mul_lt_mul_of_pos_left h1 (Nat.two_pow_pos _)
    rw [← Nat.pow_add] at h2
    exact Nat.lt_of_lt_of_le h2 (Nat.pow_le_pow_right (by decide) (by omega))
  · rw [le_set X q hqX c m8 hc, h.is, e1, e0, mul_xor, Nat.xor_assoc]

set_option maxRecDepth 100000 in
set_option maxHeartbeats 4000000 in
theorem turn_walk (x y : Int) (T : ByteArray) (a1 a2 : Int) (w : World) (w0 : (Lit.int .u64 x).wf = true ∧ (Lit.int .u64 y).wf = true ∧ T.size ≤ maxLen) (w1 : (Lit.int .u16 a1).wf = true) (w2 : (Lit.int .u32 a2).wf = true) (hT : Tab w) :
    Calls Tryd.prog 5 #[.agg #[.int .u64 x, .int .u64 y, .string T], .int .u16 a1, .int .u32 a2] w fun e w' => e = .returned (.bool true) ∧ Below w.heap.size w w' := by
  obtain ⟨x0, x1⟩ := bounds_u64 w0.1
  obtain ⟨y0, y1⟩ := bounds_u64 w0.2.1
  have t1 := w0.2.2
  obtain ⟨q0, q1⟩ := bounds_u16 w1
  obtain ⟨r0, r1⟩ := bounds_u32 w2
  obtain ⟨x, rfl⟩ := Int.eq_ofNat_of_zero_le x0
  obtain ⟨y, rfl⟩ := Int.eq_ofNat_of_zero_le y0
  obtain ⟨A, rfl⟩ := Int.eq_ofNat_of_zero_le q0
  obtain ⟨β, rfl⟩ := Int.eq_ofNat_of_zero_le r0
  obtain ⟨t, rfl⟩ := str_of T
  have hsz : (str t).size = t.length := str_size t
  have bx := FBox.new w x y (str t)
  have bW : Below w.heap.size w (w.alloc (.cells #[.int .u64 (x : Int), .int .u64 (y : Int), .string (str t)] 24)) := (Below.refl _ _).alloc (Nat.le_refl _) _
  have HB : Hid (Tab (w.alloc (.cells #[.int .u64 (x : Int), .int .u64 (y : Int), .string (str t)] 24)) ∧ Below w.heap.size w (w.alloc (.cells #[.int .u64 (x : Int), .int .u64 (y : Int), .string (str t)] 24)) ∧ FBox (w.alloc (.cells #[.int .u64 (x : Int), .int .u64 (y : Int), .string (str t)] 24)) w.heap.size x y (str t)) := ⟨hT.below bW hT.pos, bW, bx⟩
  have c0 := bx.c0
  have c1 := bx.c1
  have c2 := bx.c2
  unfold maxLen at t1
  have ht1 : (t.length : Int) ≤ 9223372036854775807 := by omega
  clear w0 w1 w2 t1 bW bx hT
  by_cases hl : 300 < t.length
  · have hl2 : (300 : Int) < (t.length : Int) := by omega
    go_enter Tryd.func5, Tryd.ntmps5
    go_wp2_with (go_at_call 10; refine (shown_any _ HB.out.1).mono ?_; rintro e w3 ⟨rfl, rfl⟩)
    go_ret
    exact ⟨rfl, HB.out.2.1⟩
  · have hl2 : ¬ (300 : Int) < (t.length : Int) := by omega
    have hl3 : decide ((300 : Int) < (t.length : Int)) = false := decide_eq_false hl2
    have hl4 : (t.length : Int) ≤ 300 := by omega
    have hok : (⟨x, y, t⟩ : Frm).ok := ⟨by show x < _; omega, by show y < _; omega, by show t.length ≤ _; omega⟩
    obtain ⟨P, hP⟩ : ∃ P, P = putF ⟨x, y, t⟩ := ⟨_, rfl⟩
    have hPl : P.length = 24 + t.length := by rw [hP]; exact putF_length _
    obtain ⟨L, hL⟩ : ∃ L, L = P.length := ⟨_, rfl⟩
    obtain ⟨L4, hL4⟩ : ∃ n, n = L - 4 := ⟨_, rfl⟩
    obtain ⟨H1, hH1⟩ : ∃ n, n = 8 * L4 := ⟨_, rfl⟩
    obtain ⟨H2, hH2⟩ : ∃ n, n = 8 * L := ⟨_, rfl⟩
    have z1 : (str P).size = L := by rw [str_size, hL]
    have u1 : IntKind.i64.wrap ((L : Int) - 4) = (L4 : Int) := i64_eq (by omega) (by omega)
    have u2 : IntKind.i64.wrap (8 * (L4 : Int)) = (H1 : Int) := i64_eq (by omega) (by omega)
    have u3 : IntKind.i64.wrap (8 * (L : Int)) = (H2 : Int) := i64_eq (by omega) (by omega)
    have u4 : (L : Int) ≤ 324 := by omega
    have HP : Hid (P = putF ⟨x, y, t⟩ ∧ (⟨x, y, t⟩ : Frm).ok ∧ L = P.length ∧ L4 = L - 4 ∧ H1 = 8 * L4 ∧ H2 = 8 * L ∧ L = 24 + t.length ∧ L ≤ 324) := ⟨hP, hok, hL, hL4, hH1, hH2, by omega, by omega⟩
    clear hP hok hPl hL hL4 hH1 hH2 hl
    go_enter Tryd.func5, Tryd.ntmps5
    go_wp2_with fail
    refine (shown_any _ HB.out.1).mono ?_
    rintro e w1 ⟨rfl, rfl⟩
    go_wp2_with fail
    refine (put_ok x y t _ HB.out.1 HP.out.2.1.1 HP.out.2.1.2.1 HP.out.2.1.2.2).mono ?_
    rw [← HP.out.1]
    rintro e w2 ⟨rfl, b2⟩
    have hcv := Lib.run_convert_string_bytes (P := Tryd.prog) w2 9 50 5 (str P) (u := .string) (by kernel_rfl) (by kernel_rfl) (by kernel_rfl)
    have hrow := rowB_new w2 P
    have hbb := below_bytes w2 5 (str P)
    rw [z1] at hcv
    generalize Lib.bytesWorld w2 5 (str P) = W1 at hcv hrow hbb
    generalize grownCap w2 L 0 5 = cap at hcv
    have H2' : Hid (Below w.heap.size w W1 ∧ Tab W1 ∧ FBox W1 w.heap.size x y (str t) ∧ RowB W1 w2.heap.size P ∧ w.heap.size < w2.heap.size) := ⟨chain (chain HB.out.2.1 b2) hbb, (HB.out.1.below b2 HB.out.1.pos).below hbb (HB.out.1.below b2 HB.out.1.pos).pos, (HB.out.2.2.below b2).below hbb, hrow, Nat.lt_of_lt_of_le HB.out.2.2.lt b2.size⟩
    clear b2 c0 c1 c2 hrow hbb
    obtain ⟨A4, hA4⟩ : ∃ n, n = A % 4 := ⟨_, rfl⟩
    have v1 : Int.tmod (A : Int) 4 = (A4 : Int) := by rw [hA4]; exact tmod_nat A 4
    have v2 : IntKind.u16.wrap (A4 : Int) = (A4 : Int) := by
      simp only [IntKind.wrap, IntKind.bits, IntKind.signed]
      simp
      omega
    have HA : Hid (A4 = A % 4) := hA4
    clear hA4
    have HQ : Hid (H1 = 8 * (20 + t.length) ∧ H2 = 8 * (24 + t.length)) := by
      obtain ⟨_, _, _, h4, h5, h6, h7, _⟩ := HP.out
      have h9 : H1 = 8 * (20 + t.length) ∧ H2 = 8 * (24 + t.length) := by omega
      exact h9
    by_cases h40 : A4 = 0
    · have v3 : ((A4 : Int) == 0) = true := by rw [beq_iff_eq]; omega
      obtain ⟨HH, hHH⟩ : ∃ n, n = H2 := ⟨_, rfl⟩
      obtain ⟨D, hD⟩ : ∃ n, n = H2 - H1 := ⟨_, rfl⟩
      obtain ⟨Q, hQ⟩ : ∃ n, n = A % D := ⟨_, rfl⟩
      obtain ⟨base, hbase⟩ : ∃ n, n = H1 + Q := ⟨_, rfl⟩
      have hD32 : D = 32 := by have := HQ.out; omega
      have hQD : Q < D := by rw [hQ]; exact Nat.mod_lt _ (by omega)
      have hD0 : ¬ (D : Int) = 0 := by omega
      have hHl : H2 ≤ 8 * L := by obtain ⟨_, _, _, h4, h5, h6, h7, _⟩ := HP.out; omega
      have hH3 : H1 ≤ 3000 ∧ H2 ≤ 3000 := by have := HQ.out; omega
      have e1 : IntKind.i64.wrap ((HH : Int) - (H1 : Int)) = (D : Int) := i64_eq (by omega) (by omega)
      have e2 : Int.tmod (A : Int) (D : Int) = (Q : Int) := by rw [hQ]; exact tmod_nat A D
      have e3 : IntKind.i64.wrap (Q : Int) = (Q : Int) := i64_eq rfl (by omega)
      have e4 : IntKind.i64.wrap ((H1 : Int) + (Q : Int)) = (base : Int) := i64_eq (by omega) (by omega)
      have e5 : IntKind.i64.wrap (A : Int) = (A : Int) := i64_eq rfl (by omega)
      have hb9 : base ≤ 4000 := by omega
      have HC : Hid (8 * (20 + t.length) ≤ base ∧ base ≤ 4000 ∧ HH ≤ 8 * L) := by
        have h9 : 8 * (20 + t.length) ≤ base ∧ base ≤ 4000 ∧ HH ≤ 8 * L := by have := HQ.out; omega
        exact h9
      subst hHH
      have hHL : HH ≤ 8 * L := HC.out.2.2
      clear hD hQ hbase hD32 hQD h40
      go_wp2_with fail
      go_loopw [12, 13] (fun b j wr => ∃ (i W : Nat) (X : List UInt8) (tb : Bool), i ≤ 32 ∧ b = .bool tb ∧ j = .int .i64 i ∧ Hid (Turning P X base W i HH L wr W1 w2.heap.size ∧ (tb = true ↔ W ≠ 0))) (fun _ j _ => 32 - (intOf j).toNat)
      case atStart => exact ⟨0, 0, P, false, Nat.zero_le _, rfl, rfl, ⟨by decide, by simp [Nat.two_pow_pos], HP.out.2.2.1.symm, by simp, H2'.out.2.2.2.1, Below.refl _ _⟩, by simp⟩
      case round =>
        obtain ⟨i, W, X, tb, hi, rfl, rfl, hR0⟩ := hrel
        have hR : Hid (Turning P X base W i HH L wr W1 w2.heap.size) := hR0.out.1
        have hTB : Hid (tb = true ↔ W ≠ 0) := hR0.out.2
        clear hR0
        by_cases hlt : i < 32
        · have hlt' : (i : Int) < 32 := by omega
          have hi2 : (i : Int) ≤ 32 := by omega
          obtain ⟨K, hK⟩ : ∃ K, K = base + i := ⟨_, rfl⟩
          have k1 : IntKind.i64.wrap ((base : Int) + (i : Int)) = (K : Int) := i64_eq (by omega) (by omega)
          obtain ⟨z, hz⟩ : ∃ z : Int, z = bits .and .u32 ((β : Int) / 2 ^ i) 1 := ⟨_, rfl⟩
          have hz1 : bits .and .u32 ((β : Int) / 2 ^ i) 1 = z := hz.symm
          clear hz
          by_cases hKH : K < HH
          · have hK2 : (K : Int) < (HH : Int) := by omega
            by_cases hb : (z == 1) = true
            · obtain ⟨q, hq⟩ : ∃ q, q = K / 8 := ⟨_, rfl⟩
              obtain ⟨r, hr⟩ : ∃ r, r = K % 8 := ⟨_, rfl⟩
              have k2 : Int.tdiv (K : Int) 8 = (q : Int) := by rw [hq]; exact tdiv_nat K 8
              have k3 : Int.tmod (K : Int) 8 = (r : Int) := by rw [hr]; exact tmod_nat K 8
              have k4 : IntKind.i64.wrap (q : Int) = (q : Int) := i64_eq rfl (by omega)
              have k5 : IntKind.i64.wrap (r : Int) = (r : Int) := i64_eq rfl (by omega)
              have hqX : q < X.length := by rw [hR.out.len]; omega
              have hqL : (q : Int) < (L : Int) := by omega
              have hr8 : (r : Int) < 8 := by omega
              obtain ⟨c, hc⟩ : ∃ c, c = X[q] := ⟨_, rfl⟩
              have c1 : wr.cell? ⟨w2.heap.size, q, none⟩ = some (.int .u8 (c.toNat : Int)) := by rw [hc]; exact hR.out.row.cell q hqX
              have c2 := hR.out.row.frozen q hqX
              obtain ⟨m8, hm8⟩ : ∃ m : UInt8, m = UInt8.ofNat (2 ^ r) := ⟨_, rfl⟩
              have hm9 : m8.toNat = 2 ^ r := by rw [hm8]; exact pow_u8 r (by omega)
              have s1 : IntKind.u8.wrap (2 ^ r : Int) = (m8.toNat : Int) := by rw [hm9]; exact wrap_pow r (by omega)
              have s2 : IntKind.u8.wrap (1 * 2 ^ r : Int) = (m8.toNat : Int) := by rw [Int.one_mul]; exact s1
              have s3 : (2 ^ r : Int) % 256 = (m8.toNat : Int) := by
                have := s1
                simp only [IntKind.wrap, IntKind.bits, IntKind.signed] at this
                simpa using this
              have s4 := xor_u8 c m8
              have HN : Hid (Turning P (X.set q (c ^^^ m8)) base (W + 2 ^ i) (i + 1) HH L (wr.setCell ⟨w2.heap.size, q, none⟩ (.int .u8 ((c ^^^ m8).toNat : Int))) W1 w2.heap.size ∧ (true = true ↔ W + 2 ^ i ≠ 0)) := ⟨hR.out.step hK hKH hq hr hqX c hc m8 hm9, ⟨fun _ => by have := Nat.two_pow_pos i; omega, fun _ => rfl⟩⟩
              obtain ⟨e8, he8⟩ : ∃ e : UInt8, e = c ^^^ m8 := ⟨_, rfl⟩
              rw [← he8] at s4 HN
              clear hR hK hq hr hqX hc hm8 hm9 he8 hKH s1
              go_wp2_with fail
              go_region
              all_goals
                go_wp2
                go_roundw
                case rel => exact ⟨i + 1, W + 2 ^ i, X.set q e8, true, by omega, rfl, by go_num, HN.out.1.drew, ⟨fun _ => by have := Nat.two_pow_pos i; omega, fun _ => rfl⟩⟩
                case measure => simp [intOf]; omega
            · have hb2 : (z == 1) = false := by simpa using hb
              have HN : Hid (Turning P X base W (i + 1) HH L wr W1 w2.heap.size) := hR.out.stay
              clear hR hK hKH hb
              go_wp2
              go_roundw
              case rel => exact ⟨i + 1, W, X, tb, by omega, rfl, by go_num, HN.out, hTB.out⟩
              case measure => simp [intOf]; omega
          · have hK2 : ¬ (K : Int) < (HH : Int) := by omega
            have HN : Hid (Turning P X base W (i + 1) HH L wr W1 w2.heap.size) := hR.out.stay
            clear hR hK hKH
            go_wp2
            go_roundw
            case rel => exact ⟨i + 1, W, X, tb, by omega, rfl, by go_num, HN.out, hTB.out⟩
            case measure => simp [intOf]; omega
        · have hi32 : i = 32 := by omega
          subst hi32
          have hcv2 := hR.out.row.string (P := Tryd.prog) (cap := cap) 50 9 (by kernel_rfl) (by kernel_rfl) (by kernel_rfl)
          rw [hR.out.len] at hcv2
          have hpos : 0 < w2.heap.size := Nat.lt_of_le_of_lt (Nat.zero_le _) H2'.out.2.2.2.2
          have HX : Hid (Tab wr ∧ FBox wr w.heap.size x y (str t) ∧ Below w.heap.size w wr ∧ X.length ≤ 100000) := by
            have b1 : Below w.heap.size w wr := H2'.out.1.trans (hR.out.old.mono (Nat.le_of_lt H2'.out.2.2.2.2))
            exact ⟨H2'.out.2.1.below hR.out.old hpos, (hR.out.old.block _ H2'.out.2.2.2.2).trans H2'.out.2.2.1, b1, by rw [hR.out.len]; have := HP.out.2.2.2.2.2.2.2; omega⟩
          have HE : Hid ((W = 0 → firstL X = .ok (⟨x, y, t⟩, [])) ∧ (W ≠ 0 → firstL X = .error 70)) := by
            have hlx : X.length = (putF ⟨x, y, t⟩).length := by rw [hR.out.len, ← HP.out.1]; exact HP.out.2.2.1
            have his := hR.out.is
            rw [HP.out.1] at his
            refine ⟨fun h0 => ?_, fun h0 => ?_⟩
            · rw [h0, Nat.mul_zero, Nat.xor_zero] at his
              exact turned_none _ HP.out.2.1 X hlx his
            · exact turned_sum _ HP.out.2.1 X hlx base W h0 HC.out.1 his
          clear hR hcv hpos
          go_wp2_with fail
          refine (first_any X _ HX.out.1 HX.out.2.2.2).mono ?_
          rintro e w3 ⟨rfl, b3⟩
          have H3 : Hid (Below w.heap.size w w3 ∧ FBox w3 w.heap.size x y (str t)) := ⟨chain HX.out.2.2.1 b3, HX.out.2.1.below b3⟩
          clear b3 hcv2
          cases tb with
          | false =>
            have hW : W = 0 := Classical.not_not.1 (fun h => by have := hTB.out.2 h; cases this)
            rw [HE.out.1 hW]
            simp only [told, Frm.v]
            have he : (str []).toList.isEmpty = true := by rw [str_empty]; rfl
            have bA := H3.out.2.alloc (.cells #[.int .u64 (x : Int), .int .u64 (y : Int), .string (str t)] 24)
            have d0 := bA.c0
            have d1 := bA.c1
            have d2 := bA.c2
            have H4 : Hid (Below w.heap.size w (w3.alloc (.cells #[.int .u64 (x : Int), .int .u64 (y : Int), .string (str t)] 24))) := H3.out.1.alloc H3.out.1.size _
            clear hW bA
            go_wp2
            go_ret
            exact ⟨rfl, H4.out⟩
          | true =>
            have hW : W ≠ 0 := hTB.out.1 rfl
            have he : (str []).toList.isEmpty = true := by rw [str_empty]; rfl
            rw [HE.out.2 hW]
            simp only [told]
            have H4 : Hid (Below w.heap.size w (w3.alloc (.cells #[.int .u64 0, .int .u64 0, .string (str [])] 24))) := H3.out.1.alloc H3.out.1.size _
            clear hW
            go_wp2
            go_ret
            exact ⟨rfl, H4.out⟩
    · have v3 : ((A4 : Int) == 0) = false := by rw [beq_eq_false_iff_ne]; omega
      obtain ⟨HH, hHH⟩ : ∃ n, n = H1 := ⟨_, rfl⟩
      obtain ⟨D, hD⟩ : ∃ n, n = H1 - 32 := ⟨_, rfl⟩
      obtain ⟨Q, hQ⟩ : ∃ n, n = A % D := ⟨_, rfl⟩
      obtain ⟨base, hbase⟩ : ∃ n, n = 32 + Q := ⟨_, rfl⟩
      have hD32 : 0 < D := by have := HQ.out; omega
      have hQD : Q < D := by rw [hQ]; exact Nat.mod_lt _ (by omega)
      have hD0 : ¬ (D : Int) = 0 := by omega
      have hHl : H1 ≤ 8 * L := by obtain ⟨_, _, _, h4, h5, h6, h7, _⟩ := HP.out; omega
      have hH3 : H1 ≤ 3000 ∧ H2 ≤ 3000 := by have := HQ.out; omega
      have e1 : IntKind.i64.wrap ((HH : Int) - 32) = (D : Int) := i64_eq (by have := HQ.out; omega) (by omega)
      have e2 : Int.tmod (A : Int) (D : Int) = (Q : Int) := by rw [hQ]; exact tmod_nat A D
      have e3 : IntKind.i64.wrap (Q : Int) = (Q : Int) := i64_eq rfl (by omega)
      have e4 : IntKind.i64.wrap (32 + (Q : Int)) = (base : Int) := i64_eq (by omega) (by omega)
      have e5 : IntKind.i64.wrap (A : Int) = (A : Int) := i64_eq rfl (by omega)
      have hb9 : base ≤ 4000 := by omega
      have HC : Hid (32 ≤ base ∧ base ≤ 4000 ∧ HH ≤ 8 * L ∧ HH = 8 * (20 + t.length)) := by
        have h9 : 32 ≤ base ∧ base ≤ 4000 ∧ HH ≤ 8 * L ∧ HH = 8 * (20 + t.length) := by have := HQ.out; omega
        exact h9
      subst hHH
      have hHL : HH ≤ 8 * L := HC.out.2.2.1
      clear hD hQ hbase hD32 hQD h40
      go_wp2_with fail
      go_loopw [12, 13] (fun b j wr => ∃ (i W : Nat) (X : List UInt8) (tb : Bool), i ≤ 32 ∧ b = .bool tb ∧ j = .int .i64 i ∧ Hid (Turning P X base W i HH L wr W1 w2.heap.size ∧ (tb = true ↔ W ≠ 0))) (fun _ j _ => 32 - (intOf j).toNat)
      case atStart => exact ⟨0, 0, P, false, Nat.zero_le _, rfl, rfl, ⟨by decide, by simp [Nat.two_pow_pos], HP.out.2.2.1.symm, by simp, H2'.out.2.2.2.1, Below.refl _ _⟩, by simp⟩
      case round =>
        obtain ⟨i, W, X, tb, hi, rfl, rfl, hR0⟩ := hrel
        have hR : Hid (Turning P X base W i HH L wr W1 w2.heap.size) := hR0.out.1
        have hTB : Hid (tb = true ↔ W ≠ 0) := hR0.out.2
        clear hR0
        by_cases hlt : i < 32
        · have hlt' : (i : Int) < 32 := by omega
          have hi2 : (i : Int) ≤ 32 := by omega
          obtain ⟨K, hK⟩ : ∃ K, K = base + i := ⟨_, rfl⟩
          have k1 : IntKind.i64.wrap ((base : Int) + (i : Int)) = (K : Int) := i64_eq (by omega) (by omega)
          obtain ⟨z, hz⟩ : ∃ z : Int, z = bits .and .u32 ((β : Int) / 2 ^ i) 1 := ⟨_, rfl⟩
          have hz1 : bits .and .u32 ((β : Int) / 2 ^ i) 1 = z := hz.symm
          clear hz
          by_cases hKH : K < HH
          · have hK2 : (K : Int) < (HH : Int) := by omega
            by_cases hb : (z == 1) = true
            · obtain ⟨q, hq⟩ : ∃ q, q = K / 8 := ⟨_, rfl⟩
              obtain ⟨r, hr⟩ : ∃ r, r = K % 8 := ⟨_, rfl⟩
              have k2 : Int.tdiv (K : Int) 8 = (q : Int) := by rw [hq]; exact tdiv_nat K 8
              have k3 : Int.tmod (K : Int) 8 = (r : Int) := by rw [hr]; exact tmod_nat K 8
              have k4 : IntKind.i64.wrap (q : Int) = (q : Int) := i64_eq rfl (by omega)
              have k5 : IntKind.i64.wrap (r : Int) = (r : Int) := i64_eq rfl (by omega)
              have hqX : q < X.length := by rw [hR.out.len]; omega
              have hqL : (q : Int) < (L : Int) := by omega
              have hr8 : (r : Int) < 8 := by omega
              obtain ⟨c, hc⟩ : ∃ c, c = X[q] := ⟨_, rfl⟩
              have c1 : wr.cell? ⟨w2.heap.size, q, none⟩ = some (.int .u8 (c.toNat : Int)) := by rw [hc]; exact hR.out.row.cell q hqX
              have c2 := hR.out.row.frozen q hqX
              obtain ⟨m8, hm8⟩ : ∃ m : UInt8, m = UInt8.ofNat (2 ^ r) := ⟨_, rfl⟩
              have hm9 : m8.toNat = 2 ^ r := by rw [hm8]; exact pow_u8 r (by omega)
              have s1 : IntKind.u8.wrap (2 ^ r : Int) = (m8.toNat : Int) := by rw [hm9]; exact wrap_pow r (by omega)
              have s2 : IntKind.u8.wrap (1 * 2 ^ r : Int) = (m8.toNat : Int) := by rw [Int.one_mul]; exact s1
              have s3 : (2 ^ r : Int) % 256 = (m8.toNat : Int) := by
                have := s1
                simp only [IntKind.wrap, IntKind.bits, IntKind.signed] at this
                simpa using this
              have s4 := xor_u8 c m8
              have HN : Hid (Turning P (X.set q (c ^^^ m8)) base (W + 2 ^ i) (i + 1) HH L (wr.setCell ⟨w2.heap.size, q, none⟩ (.int .u8 ((c ^^^ m8).toNat : Int))) W1 w2.heap.size ∧ (true = true ↔ W + 2 ^ i ≠ 0)) := ⟨hR.out.step hK hKH hq hr hqX c hc m8 hm9, ⟨fun _ => by have := Nat.two_pow_pos i; omega, fun _ => rfl⟩⟩
              obtain ⟨e8, he8⟩ : ∃ e : UInt8, e = c ^^^ m8 := ⟨_, rfl⟩
              rw [← he8] at s4 HN
              clear hR hK hq hr hqX hc hm8 hm9 he8 hKH s1
              go_wp2_with fail
              go_region
              all_goals
                go_wp2
                go_roundw
                case rel => exact ⟨i + 1, W + 2 ^ i, X.set q e8, true, by omega, rfl, by go_num, HN.out.1.drew, ⟨fun _ => by have := Nat.two_pow_pos i; omega, fun _ => rfl⟩⟩
                case measure => simp [intOf]; omega
            · have hb2 : (z == 1) = false := by simpa using hb
              have HN : Hid (Turning P X base W (i + 1) HH L wr W1 w2.heap.size) := hR.out.stay
              clear hR hK hKH hb
              go_wp2
              go_roundw
              case rel => exact ⟨i + 1, W, X, tb, by omega, rfl, by go_num, HN.out, hTB.out⟩
              case measure => simp [intOf]; omega
          · have hK2 : ¬ (K : Int) < (HH : Int) := by omega
            have HN : Hid (Turning P X base W (i + 1) HH L wr W1 w2.heap.size) := hR.out.stay
            clear hR hK hKH
            go_wp2
            go_roundw
            case rel => exact ⟨i + 1, W, X, tb, by omega, rfl, by go_num, HN.out, hTB.out⟩
            case measure => simp [intOf]; omega
        · have hi32 : i = 32 := by omega
          subst hi32
          have hcv2 := hR.out.row.string (P := Tryd.prog) (cap := cap) 50 9 (by kernel_rfl) (by kernel_rfl) (by kernel_rfl)
          rw [hR.out.len] at hcv2
          have hpos : 0 < w2.heap.size := Nat.lt_of_le_of_lt (Nat.zero_le _) H2'.out.2.2.2.2
          have HX : Hid (Tab wr ∧ FBox wr w.heap.size x y (str t) ∧ Below w.heap.size w wr ∧ X.length ≤ 100000) := by
            have b1 : Below w.heap.size w wr := H2'.out.1.trans (hR.out.old.mono (Nat.le_of_lt H2'.out.2.2.2.2))
            exact ⟨H2'.out.2.1.below hR.out.old hpos, (hR.out.old.block _ H2'.out.2.2.2.2).trans H2'.out.2.2.1, b1, by rw [hR.out.len]; have := HP.out.2.2.2.2.2.2.2; omega⟩
          have HE : Hid ((W = 0 → firstL X = .ok (⟨x, y, t⟩, [])) ∧ (W ≠ 0 → firstL X = .error 70)) := by
            have hlx : X.length = (putF ⟨x, y, t⟩).length := by rw [hR.out.len, ← HP.out.1]; exact HP.out.2.2.1
            have his := hR.out.is
            rw [HP.out.1] at his
            refine ⟨fun h0 => ?_, fun h0 => ?_⟩
            · rw [h0, Nat.mul_zero, Nat.xor_zero] at his
              exact turned_none _ HP.out.2.1 X hlx his
            · exact turned_body _ HP.out.2.1 X hlx base W h0 hR.out.low HC.out.1 (by have := hR.out.top; rw [HC.out.2.2.2] at this; exact this) his
          clear hR hcv hpos
          go_wp2_with fail
          refine (first_any X _ HX.out.1 HX.out.2.2.2).mono ?_
          rintro e w3 ⟨rfl, b3⟩
          have H3 : Hid (Below w.heap.size w w3 ∧ FBox w3 w.heap.size x y (str t)) := ⟨chain HX.out.2.2.1 b3, HX.out.2.1.below b3⟩
          clear b3 hcv2
          cases tb with
          | false =>
            have hW : W = 0 := Classical.not_not.1 (fun h => by have := hTB.out.2 h; cases this)
            rw [HE.out.1 hW]
            simp only [told, Frm.v]
            have he : (str []).toList.isEmpty = true := by rw [str_empty]; rfl
            have bA := H3.out.2.alloc (.cells #[.int .u64 (x : Int), .int .u64 (y : Int), .string (str t)] 24)
            have d0 := bA.c0
            have d1 := bA.c1
            have d2 := bA.c2
            have H4 : Hid (Below w.heap.size w (w3.alloc (.cells #[.int .u64 (x : Int), .int .u64 (y : Int), .string (str t)] 24))) := H3.out.1.alloc H3.out.1.size _
            clear hW bA
            go_wp2
            go_ret
            exact ⟨rfl, H4.out⟩
          | true =>
            have hW : W ≠ 0 := hTB.out.1 rfl
            have he : (str []).toList.isEmpty = true := by rw [str_empty]; rfl
            rw [HE.out.2 hW]
            simp only [told]
            have H4 : Hid (Below w.heap.size w (w3.alloc (.cells #[.int .u64 0, .int .u64 0, .string (str [])] 24))) := H3.out.1.alloc H3.out.1.size _
            clear hW
            go_wp2
            go_ret
            exact ⟨rfl, H4.out⟩
end Go.Proofs.YtfpiepephljmgaaDoor
