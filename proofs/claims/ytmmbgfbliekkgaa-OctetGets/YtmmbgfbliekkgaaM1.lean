/-
  Joined: OctT · OctU · OctW · OctX.
-/
import Derived.Test.YtmmbgfbliekkgaaOctS
import Derived.Deep.QuietTactic
import Derived.BigQuiet
import Derived.Test.YtmmbgfbliekkgaaJ1

/-! The reference's number, Get and GetText of layer 6. -/
namespace Go.Proofs.Ytmmbgfbliekkgaa
open Go.RowKit

theorem take_nextB (s : List UInt8) (k : Nat) (h : k < s.length) : s.take (k + 1) = s.take k ++ [s[k]] := by
  rw [List.take_add_one, List.getElem?_eq_getElem h]
  rfl

set_option maxRecDepth 100000 in
set_option maxHeartbeats 2000000 in
theorem rnumber_any (t : List UInt8) (w : World) (hl : t.length ≤ 8) :
    Calls Try.prog 40 #[.string (str t)] w fun e w' => e = .returned (.int .u64 (joinL t : Nat)) ∧ w' = w := by
  have hsz : (str t).size = t.length := str_size t
  obtain ⟨L, hL⟩ : ∃ L, L = t.length := ⟨_, rfl⟩
  rw [← hL] at hsz
  have HL : Hid (L = t.length) := hL
  have hl2 : (L : Int) ≤ 8 := by omega
  clear hL hl
  go_enter Try.func40, Try.ntmps40
  go_wp2
  go_loopw [3, 4] (fun d i wr => ∃ (k v : Nat), k ≤ L ∧ d = .int .u64 v ∧ i = .int .i64 k ∧ wr = w ∧ Hid (v = joinL (t.take k))) (fun _ i _ => L - (intOf i).toNat)
  case atStart => exact ⟨0, 0, Nat.zero_le _, rfl, rfl, rfl, rfl⟩
  case round =>
    obtain ⟨k, v, hk, rfl, rfl, rfl, hv⟩ := hrel
    by_cases hlt : k < L
    · have hlt' : (k : Int) < (L : Int) := by omega
      have hkl : k < t.length := by have := HL.out; omega
      have hks : k < (str t).size := by omega
      have hst : (str t)[k] = t[k] := rfl
      obtain ⟨b, hb⟩ : ∃ b, b = t[k] := ⟨_, rfl⟩
      rw [← hb] at hst
      have hlen : (t.take k).length ≤ 7 := by simp; omega
      have hv4 : v < 72057594037927936 := by
        rw [hv.out]
        have := joinL_lt (t.take k)
        have h7 : 256 ^ (t.take k).length ≤ 256 ^ 7 := Nat.pow_le_pow_right (by decide) hlen
        have e7 : (256 : Nat) ^ 7 = 72057594037927936 := by decide
        omega
      have hbt := b.toNat_lt
      have HV : Hid (v * 256 + b.toNat = joinL (t.take (k + 1))) := by
        have h9 : v * 256 + b.toNat = joinL (t.take (k + 1)) := by rw [take_nextB t k hkl, joinL_snoc, ← hv.out, hb]; rfl
        exact h9
      have hv5 : (v : Int) < 72057594037927936 := by omega
      have hb5 : (b.toNat : Int) < 256 := by omega
      have x1 : IntKind.u64.wrap ((v : Int) * 256) = (v : Int) * 256 := by rw [IntKind.wrap_u64]; omega
      have x2 : IntKind.u64.wrap (b.toNat : Int) = (b.toNat : Int) := by rw [IntKind.wrap_u64]; omega
      have x3 : IntKind.u64.wrap ((v : Int) * 256 + (b.toNat : Int)) = (v : Int) * 256 + (b.toNat : Int) := by rw [IntKind.wrap_u64]; omega
      clear hv hb hv4 hkl hlen hbt
      go_wp2
      go_roundw
      case rel => exact ⟨k + 1, v * 256 + b.toNat, by omega, by go_num, by go_num, by first | rfl | trivial, HV.out⟩
      case measure => simp [intOf]; omega
    · have hkt : k = L := by omega
      have h := hv.out
      rw [hkt, HL.out, List.take_length] at h
      subst h
      clear hv
      go_wp2
      go_ret
      exact ⟨rfl, rfl⟩


/-- What Get tells. -/
def toldN (r : Except Int (Nat × List UInt8)) : Value :=
  match r with
  | .error k => .tuple #[.int .u64 0, .string (str []), .int .i64 k]
  | .ok (n, r) => .tuple #[.int .u64 (n : Int), .string (str r), .int .i64 0]

theorem toldN_ex (r : Except Int (Nat × List UInt8)) : ∃ (n : Nat) (R : List UInt8) (k : Int), toldN r = .tuple #[.int .u64 (n : Int), .string (str R), .int .i64 k] := by
  cases r with
  | error k => exact ⟨0, [], k, rfl⟩
  | ok p => exact ⟨p.1, p.2, 0, rfl⟩

theorem get_told (s : List UInt8) (w : World) (hs : s.length ≤ 70000) : Calls Try.prog 19 #[.string (str s)] w fun e w' => e = .returned (toldN (numL s)) ∧ Below w.heap.size w w' := by
  cases hn : numL s with
  | error k => exact get_err s k w hn (by omega)
  | ok p => exact get_ok s p.1 p.2 w hn (by omega)

theorem wrap_byte (c : UInt8) : IntKind.i64.wrap (c.toNat : Int) = (c.toNat : Int) := IntWalk.i64_in _ ⟨by omega, by have := c.toNat_lt; omega⟩

set_option maxRecDepth 100000 in
set_option maxHeartbeats 4000000 in
theorem rget_any (s : List UInt8) (w : World) (hs : s.length ≤ 70000) : Calls Try.prog 20 #[.string (str s)] w fun e w' => e = .returned (toldN (numL s)) ∧ Below w.heap.size w w' := by
  have hsz : (str s).size = s.length := str_size s
  cases s with
  | nil =>
    have e0 : (str []).size = 0 := rfl
    clear hsz
    go_enter Try.func20, Try.ntmps20
    go_wp2
    go_ret3
    exact ⟨rfl, Below.refl _ _⟩
  | cons c t =>
    have hz : 0 < (str (c :: t)).size := by rw [str_size]; exact Nat.zero_lt_succ _
    have hz2 : (str (c :: t))[0] = c := rfl
    have hwc := wrap_byte c
    obtain ⟨L, hL⟩ : ∃ L, L = t.length := ⟨_, rfl⟩
    have hsz2 : (str (c :: t)).size = L + 1 := by rw [hL]; exact hsz
    have hl : L ≤ 69999 := by simp at hs; omega
    have g0 : ¬ ((L : Int) + 1 = 0) := by omega
    have g1 : (L : Int) ≤ 69999 := by omega
    have hc9 : (c.toNat : Int) < 256 := by have := c.toNat_lt; omega
    clear hsz hs
    by_cases h8 : 8 < c.toNat
    · have h8' : (8 : Int) < (c.toNat : Int) := by omega
      have HN : Hid (numL (c :: t) = .error 62) := by
        have h9 : numL (c :: t) = .error 62 := by simp only [numL]; rw [if_pos h8]
        exact h9
      clear h8 hL
      go_enter Try.func20, Try.ntmps20
      go_wp2
      go_ret3
      exact ⟨by rw [HN.out]; rfl, Below.refl _ _⟩
    · have h8' : ¬ (8 : Int) < (c.toNat : Int) := by omega
      obtain ⟨K, hK⟩ : ∃ K, K = c.toNat := ⟨_, rfl⟩
      have hK1 : (c.toNat : Int) = (K : Int) := by omega
      by_cases hlt : L < K
      · have hlt' : (L : Int) < (K : Int) := by omega
        have HN : Hid (numL (c :: t) = .error 60) := by
          have h9 : numL (c :: t) = .error 60 := by simp only [numL]; rw [if_neg h8, ← hK, ← hL, if_pos hlt]
          exact h9
        have g2 : (L : Int) + 1 < 1 + (K : Int) := by omega
        have g3 : ¬ (8 : Int) < (K : Int) := by omega
        rw [hK1] at hwc h8'
        clear h8 hlt hK hL
        go_enter Try.func20, Try.ntmps20
        go_wp2
        go_ret3
        exact ⟨by rw [HN.out]; rfl, Below.refl _ _⟩
      · have hge : K ≤ L := by omega
        have hge' : (K : Int) ≤ (L : Int) := by omega
        have g2 : ¬ (L : Int) + 1 < 1 + (K : Int) := by omega
        have g3 : ¬ (8 : Int) < (K : Int) := by omega
        obtain ⟨M, hM⟩ : ∃ M, M = 1 + K := ⟨_, rfl⟩
        have m1 : IntKind.i64.wrap (1 + (K : Int)) = (M : Int) := by rw [show (1 : Int) + (K : Int) = (M : Int) by omega]; exact IntWalk.i64_in _ ⟨by omega, by omega⟩
        have m2 : (1 : Int) + (K : Int) = (M : Int) := by omega
        have m3 : IntKind.i64.wrap (M : Int) = (M : Int) := IntWalk.i64_in _ ⟨by omega, by omega⟩
        have m4 : (M : Int) ≤ (L : Int) + 1 := by omega
        have m5 : (1 : Int) ≤ (M : Int) := by omega
        have m6 : ¬ (L : Int) + 1 < (M : Int) := by omega
        obtain ⟨A, hA⟩ : ∃ A, A = t.take K := ⟨_, rfl⟩
        obtain ⟨D, hD⟩ : ∃ D, D = t.drop K := ⟨_, rfl⟩
        have e1 : (str (c :: t)).extract 1 M = str A := by
          rw [ext_str, hM, hA, Nat.add_comm 1 K]
          rfl
        have e2 : (str (c :: t)).extract M (L + 1) = str D := by
          have h9 := ext_str (c :: t) M (L + 1)
          rw [List.take_of_length_le (by simp; omega), hM, Nat.add_comm 1 K] at h9
          rw [hM, Nat.add_comm 1 K, hD]
          exact h9
        have hA8 : A.length ≤ 8 := by rw [hA]; simp; omega
        obtain ⟨X, hX⟩ : ∃ X, X = joinL A := ⟨_, rfl⟩
        have HC : Hid (∀ w1, Calls Try.prog 40 #[.string (str A)] w1 fun e w' => e = .returned (.int .u64 (X : Int)) ∧ w' = w1) := by
          have a1 := fun w1 => rnumber_any A w1 hA8
          rw [← hX] at a1
          exact a1
        rw [hK1] at hwc h8'
        by_cases h0 : K = 0
        · have HN : Hid (numL (c :: t) = .ok (X, D)) := by
            have h9 : numL (c :: t) = .ok (X, D) := by simp only [numL]; rw [← hK, ← hL, if_neg (by omega), if_neg (by omega), if_neg (by omega), hX, hA, hD]
            exact h9
          have h0' : ¬ (0 : Int) < (K : Int) := by omega
          have h0b : decide ((0 : Int) < (K : Int)) = false := decide_eq_false h0'
          clear hL h8 hlt hK hM hA hD hA8 hX h0
          go_enter Try.func20, Try.ntmps20
          go_wp2_with fail
          go_quiet ((go_at_call 40; exact Calls.quiet_of_same (HC.out _)))
          go_wp2
          go_ret3
          exact ⟨by rw [HN.out]; rfl, below_drewN (Below.refl _ _) _⟩
        · have h0' : (0 : Int) < (K : Int) := by omega
          obtain ⟨d, t', rfl⟩ : ∃ d t', t = d :: t' := by
            cases t with
            | nil => simp at hL; omega
            | cons d t' => exact ⟨d, t', rfl⟩
          have hz3 : (str (c :: d :: t'))[1]'(by rw [str_size]; simp) = d := rfl
          have hz4 : 1 < (str (c :: d :: t')).size := by rw [str_size]; simp
          have hz5 : (1 : Int) < (L : Int) + 1 := by omega
          by_cases hd : d = 0
          · have HN : Hid (numL (c :: d :: t') = .error 62) := by
              have h9 : numL (c :: d :: t') = .error 62 := by simp only [numL]; rw [← hK, ← hL, if_neg (by omega), if_neg (by omega), if_pos ⟨by omega, by rw [hd]; rfl⟩]
              exact h9
            have hd1 : ((d.toNat : Int) == 0) = true := by rw [hd]; rfl
            clear hL h8 hlt hK hM hA hD hA8 hX h0 hd
            go_enter Try.func20, Try.ntmps20
            go_wp2
            go_ret3
            exact ⟨by rw [HN.out]; rfl, Below.refl _ _⟩
          · have HN : Hid (numL (c :: d :: t') = .ok (X, D)) := by
              have h9 : numL (c :: d :: t') = .ok (X, D) := by simp only [numL]; rw [← hK, ← hL, if_neg (by omega), if_neg (by omega), if_neg (fun h => hd h.2), hX, hA, hD]
              exact h9
            have hd1 : ((d.toNat : Int) == 0) = false := by
              rw [beq_eq_false_iff_ne]
              intro e
              apply hd
              apply UInt8.toNat_inj.1
              show d.toNat = 0
              omega
            clear hL h8 hlt hK hM hA hD hA8 hX h0 hd
            go_enter Try.func20, Try.ntmps20
            go_wp2_with fail
            go_quiet ((go_at_call 40; exact Calls.quiet_of_same (HC.out _)))
            go_wp2
            go_ret3
            exact ⟨by rw [HN.out]; rfl, below_drewN (Below.refl _ _) _⟩

/-- What GetText tells. -/
def toldT (r : Except Int (List UInt8 × List UInt8)) : Value :=
  match r with
  | .error k => .tuple #[.string (str []), .string (str []), .int .i64 k]
  | .ok (t, r) => .tuple #[.string (str t), .string (str r), .int .i64 0]

theorem toldT_ex (r : Except Int (List UInt8 × List UInt8)) : ∃ (t : List UInt8) (R : List UInt8) (k : Int), toldT r = .tuple #[.string (str t), .string (str R), .int .i64 k] := by
  cases r with
  | error k => exact ⟨[], [], k, rfl⟩
  | ok p => exact ⟨p.1, p.2, 0, rfl⟩

theorem getText_told (s : List UInt8) (w : World) (hs : s.length ≤ 70000) : Calls Try.prog 25 #[.string (str s)] w fun e w' => e = .returned (toldT (textL s)) ∧ Below w.heap.size w w' := by
  cases hn : textL s with
  | error k => exact getText_err s k w hn (by omega)
  | ok p => exact getText_ok s p.1 p.2 w hn (by omega)

set_option maxRecDepth 100000 in
set_option maxHeartbeats 4000000 in
theorem rgetText_any (s : List UInt8) (w : World) (hs : s.length ≤ 70000) : Calls Try.prog 26 #[.string (str s)] w fun e w' => e = .returned (toldT (textL s)) ∧ Below w.heap.size w w' := by
  have HS : Hid (s.length ≤ 70000) := hs
  clear hs
  cases hn : numL s with
  | error k =>
    have hk := numL_err hn
    have hk1 : ¬ k = 0 := hk
    have HN : Hid (numL s = .error k ∧ textL s = .error k) := ⟨hn, by unfold textL; rw [hn]⟩
    clear hn hk
    go_enter Try.func26, Try.ntmps26
    go_wp2_with fail
    refine (rget_any s _ HS.out).mono ?_
    rw [HN.out.1]
    rintro e w1 ⟨rfl, b1⟩
    simp only [toldN]
    have H1 : Hid (Below w.heap.size w w1) := b1
    clear b1
    go_wp2
    go_ret3
    exact ⟨by rw [HN.out.2]; rfl, H1.out⟩
  | ok p =>
    obtain ⟨n, R⟩ := p
    have hr := numL_rest hn
    have hzR : (str R).size = R.length := str_size R
    have hRl : (R.length : Int) ≤ 70000 := by have := HS.out; omega
    have hwR : IntKind.u64.wrap (R.length : Int) = (R.length : Int) := by rw [IntKind.wrap_u64]; omega
    by_cases hlt : R.length < n
    · have hlt' : (R.length : Int) < (n : Int) := by omega
      have HN : Hid (numL s = .ok (n, R) ∧ textL s = .error 60) := ⟨hn, by unfold textL; rw [hn]; simp only [if_pos hlt]⟩
      clear hn hr hlt
      go_enter Try.func26, Try.ntmps26
      go_wp2_with fail
      refine (rget_any s _ HS.out).mono ?_
      rw [HN.out.1]
      rintro e w1 ⟨rfl, b1⟩
      simp only [toldN]
      have H1 : Hid (Below w.heap.size w w1) := b1
      clear b1
      go_wp2
      go_ret3
      exact ⟨by rw [HN.out.2]; rfl, H1.out⟩
    · have hlt' : ¬ (R.length : Int) < (n : Int) := by omega
      have hle : (n : Int) ≤ (R.length : Int) := by omega
      obtain ⟨A, hA⟩ : ∃ A, A = R.take n := ⟨_, rfl⟩
      obtain ⟨D, hD⟩ : ∃ D, D = R.drop n := ⟨_, rfl⟩
      have HN : Hid (numL s = .ok (n, R) ∧ textL s = .ok (A, D)) := ⟨hn, by unfold textL; rw [hn]; simp only [if_neg hlt]; rw [hA, hD]⟩
      have e1 := ext_str R 0 n
      rw [List.drop_zero, ← hA] at e1
      have e2 := ext_str R n R.length
      rw [List.take_of_length_le (Nat.le_refl _), ← hD] at e2
      have hwn : IntKind.i64.wrap (n : Int) = (n : Int) := IntWalk.i64_in _ ⟨by omega, by omega⟩
      clear hn hr hlt hA hD
      go_enter Try.func26, Try.ntmps26
      go_wp2_with fail
      refine (rget_any s _ HS.out).mono ?_
      rw [HN.out.1]
      rintro e w1 ⟨rfl, b1⟩
      simp only [toldN]
      have H1 : Hid (Below w.heap.size w w1) := b1
      clear b1
      go_wp2_with fail
      go_quiet (fail)
      go_wp2
      go_ret3
      exact ⟨by rw [HN.out.2]; rfl, below_drewN H1.out _⟩
end Go.Proofs.Ytmmbgfbliekkgaa

/-! The reference's GetNat of layer 6; Same of layer 2. -/
namespace Go.Proofs.Ytmmbgfbliekkgaa
open Go.RowKit

/-- What GetNat tells. -/
def NatTold (r : Except Int (List Int × List UInt8)) (xs : List Int) (R : List UInt8) (k : Int) : Prop :=
  match r with
  | .error e => xs = [] ∧ R = [] ∧ k = e
  | .ok (x, r) => xs = x ∧ R = r ∧ k = 0

theorem NatTold.one {r : Except Int (List Int × List UInt8)} {xs ys : List Int} {R S : List UInt8} {k j : Int} (h : NatTold r xs R k) (h2 : NatTold r ys S j) : xs = ys ∧ R = S ∧ k = j := by
  unfold NatTold at h h2
  cases r with
  | error e => exact ⟨h.1.trans h2.1.symm, h.2.1.trans h2.2.1.symm, h.2.2.trans h2.2.2.symm⟩
  | ok p => exact ⟨h.1.trans h2.1.symm, h.2.1.trans h2.2.1.symm, h.2.2.trans h2.2.2.symm⟩

theorem getNat_told (s : List UInt8) (w : World) (hs : s.length ≤ 70000) :
    Calls Try.prog 21 #[.string (str s)] w fun e w' => ∃ (ao : Option Addr) (m c : Nat) (xs : List Int) (R : List UInt8) (k : Int), e = .returned (.tuple #[.slice ao m c, .string (str R), .int .i64 k]) ∧ RowAt w' ao m c xs ∧ NatTold (natL s) xs R k ∧ Below w.heap.size w w' := by
  cases hn : natL s with
  | error k => exact (getNat_err s k w hn (by omega)).mono fun e w' ⟨h1, h2⟩ => ⟨none, 0, 0, [], [], k, h1, RowAt.nil _, ⟨rfl, rfl, rfl⟩, h2⟩
  | ok p =>
    obtain ⟨xs, r⟩ := p
    exact (getNat_ok s xs r w hn (by omega)).mono fun e w' ⟨ao, m, h1, h2, _, h4⟩ => ⟨ao, m, m, xs, r, 0, h1, h2, ⟨rfl, rfl, rfl⟩, h4⟩

theorem limb_chunk (R : List UInt8) (n j i : Nat) (h : 8 * n ≤ R.length) (hi : n = i + 1 + j) : limbAt (R.take (8 * n)) j = ((joinL ((R.take (8 * i + 8)).drop (8 * i)) : Nat) : Int) := by
  have hl : (R.take (8 * n)).length = 8 * n := by rw [List.length_take, Nat.min_eq_left h]
  unfold limbAt
  rw [hl, List.take_take, show 8 * n - 8 * j = 8 * i + 8 by omega, Nat.min_eq_left (by omega)]
  rfl

theorem cell_one_row (W : World) (v : Value) (t : TypeId) : ∀ j u, [v][j]? = some u → (W.alloc (.cells #[v] t)).cell? ((⟨W.heap.size, 0, none⟩ : Addr).add j) = some u := by
  intro j u h
  have hadd : (⟨W.heap.size, 0, none⟩ : Addr).add j = ⟨W.heap.size, j, none⟩ := by unfold Addr.add; split <;> simp_all
  rw [hadd, cell_of_row _ W.heap.size j #[v] t (0, 0) (heap_alloc_new W _)]
  simpa using h

theorem limbsL_next (t : List UInt8) (j : Nat) : limbsL t (j + 1) = limbsL t j ++ [limbAt t j] := by
  unfold limbsL
  rw [List.range_succ, List.map_append]
  rfl

set_option maxRecDepth 100000 in
set_option maxHeartbeats 8000000 in
theorem rgetNat_any (s : List UInt8) (w : World) (hs : s.length ≤ 70000) :
    Calls Try.prog 22 #[.string (str s)] w fun e w' => ∃ (ao : Option Addr) (m c : Nat) (xs : List Int) (R : List UInt8) (k : Int), e = .returned (.tuple #[.slice ao m c, .string (str R), .int .i64 k]) ∧ RowAt w' ao m c xs ∧ NatTold (natL s) xs R k ∧ Below w.heap.size w w' := by
  have HS : Hid (s.length ≤ 70000) := hs
  clear hs
  cases hn : numL s with
  | error k =>
    have hk1 : ¬ k = 0 := numL_err hn
    have HN : Hid (numL s = .error k ∧ NatTold (natL s) [] [] k) := ⟨hn, by unfold natL; rw [hn]; exact ⟨rfl, rfl, rfl⟩⟩
    clear hn
    go_enter Try.func22, Try.ntmps22
    go_wp2_with fail
    refine (rget_any s _ HS.out).mono ?_
    rw [HN.out.1]
    rintro e w1 ⟨rfl, b1⟩
    simp only [toldN]
    have H1 : Hid (Below w.heap.size w w1) := b1
    clear b1
    go_wp2
    go_ret3
    exact ⟨none, 0, 0, [], [], k, rfl, RowAt.nil _, HN.out.2, H1.out⟩
  | ok p =>
    obtain ⟨n, R⟩ := p
    have hr := numL_rest hn
    have hzR : (str R).size = R.length := str_size R
    have hRl : (R.length : Int) ≤ 70000 := by have := HS.out; omega
    by_cases h8 : 8 < n
    · have h8' : (8 : Int) < (n : Int) := by omega
      have HN : Hid (numL s = .ok (n, R) ∧ NatTold (natL s) [] [] 62) := ⟨hn, by unfold natL; rw [hn]; simp only [if_pos h8]; exact ⟨rfl, rfl, rfl⟩⟩
      clear hn hr h8
      go_enter Try.func22, Try.ntmps22
      go_wp2_with fail
      refine (rget_any s _ HS.out).mono ?_
      rw [HN.out.1]
      rintro e w1 ⟨rfl, b1⟩
      simp only [toldN]
      have H1 : Hid (Below w.heap.size w w1) := b1
      clear b1
      go_wp2
      go_ret3
      exact ⟨none, 0, 0, [], [], 62, rfl, RowAt.nil _, HN.out.2, H1.out⟩
    · have h8' : ¬ (8 : Int) < (n : Int) := by omega
      have h8b : (n : Int) ≤ 8 := by omega
      have hwn : IntKind.i64.wrap (n : Int) = (n : Int) := IntWalk.i64_in _ ⟨by omega, by omega⟩
      obtain ⟨M, hM⟩ : ∃ M, M = 8 * n := ⟨_, rfl⟩
      have m2 : (8 : Int) * (n : Int) = (M : Int) := by omega
      have m3 : IntKind.i64.wrap (M : Int) = (M : Int) := IntWalk.i64_in _ ⟨by omega, by omega⟩
      by_cases hlt : R.length < M
      · have hlt' : (R.length : Int) < (M : Int) := by omega
        have HN : Hid (numL s = .ok (n, R) ∧ NatTold (natL s) [] [] 60) := ⟨hn, by unfold natL; rw [hn]; simp only [if_neg h8]; rw [← hM, if_pos hlt]; exact ⟨rfl, rfl, rfl⟩⟩
        clear hn hr h8 hlt hM
        go_enter Try.func22, Try.ntmps22
        go_wp2_with fail
        refine (rget_any s _ HS.out).mono ?_
        rw [HN.out.1]
        rintro e w1 ⟨rfl, b1⟩
        simp only [toldN]
        have H1 : Hid (Below w.heap.size w w1) := b1
        clear b1
        go_wp2
        go_ret3
        exact ⟨none, 0, 0, [], [], 60, rfl, RowAt.nil _, HN.out.2, H1.out⟩
      · have hlt' : ¬ (R.length : Int) < (M : Int) := by omega
        have hle : (M : Int) ≤ (R.length : Int) := by omega
        have hlt5 : decide (R.length < M) = false := decide_eq_false hlt
        have hlt6 : decide ((R.length : Int) < (M : Int)) = false := decide_eq_false hlt'
        have HN : Hid (numL s = .ok (n, R) ∧ n ≤ 8 ∧ M ≤ R.length ∧ M = 8 * n ∧ natL s = if mayB (limbsL (R.take M) n) then .ok (limbsL (R.take M) n, R.drop M) else .error 62) := ⟨hn, by omega, by omega, hM, by unfold natL; rw [hn]; simp only [if_neg h8]; rw [← hM, if_neg hlt]⟩
        obtain ⟨i0, hi, hz0, hz1, hz2⟩ := info_parts (show (Try.prog.info? 22).map (fun i => (i.zero, i.size, i.bytes)) = some (some (.int .u64 0), 1, 8) by kernel_rfl)
        obtain ⟨D, hD⟩ : ∃ D, D = R.drop M := ⟨_, rfl⟩
        have e2 := ext_str R M R.length
        rw [List.take_of_length_le (Nat.le_refl _), ← hD] at e2
        have HD : Hid (D = R.drop M) := hD
        clear hn hr h8 hlt hM hD
        go_enter Try.func22, Try.ntmps22
        go_wp2_with fail
        refine (rget_any s _ HS.out).mono ?_
        rw [HN.out.1]
        rintro e w1 ⟨rfl, b1⟩
        simp only [toldN]
        have H1 : Hid (Below w.heap.size w w1) := b1
        clear b1
        go_wp2_with fail
        go_loopg [9, 10] n (fun gk s9 s10 wr => ∃ (j g cap : Nat), j ≤ n ∧ n - j ≤ gk ∧ s10 = .int .i64 ((n : Int) - 1 - (j : Int)) ∧ s9 = .slice (some ⟨g, 0, none⟩) j cap ∧ Hid (OwnR wr w1.heap.size g j cap (limbsL (R.take M) j) ∧ Below w1.heap.size w1 wr))
        case atStart => exact ⟨0, w1.heap.size, 0, Nat.zero_le _, by omega, by go_num, rfl, OwnR.nil _, (Below.refl _ _).alloc (Nat.le_refl _) _⟩
        case round =>
          obtain ⟨j, g, cap, hj, hjn, rfl, rfl, hO⟩ := hrel
          by_cases h0 : j = n
          · subst h0
            have e0 : (j : Int) - 1 - (j : Int) = -1 := by omega
            rw [e0]
            have hrow := hO.out.1.row (limbsL_limbs _ _)
            obtain ⟨b, hb⟩ : ∃ b, b = mayB (limbsL (R.take M) j) := ⟨_, rfl⟩
            have HR : Hid (RowAt wr (some ⟨g, 0, none⟩) j cap (limbsL (R.take M) j) ∧ Below w.heap.size w wr ∧ b = mayB (limbsL (R.take M) j)) := ⟨hrow, chain H1.out hO.out.2, hb⟩
            clear hO e0 hrow hb
            go_wp2_with fail
            refine (rmay_val _ _ _ _ _ HR.out.1 b (by rw [HR.out.2.2]; exact mayB_iff _)).mono ?_
            rintro e w2 ⟨rfl, rfl⟩
            cases b with
            | true =>
              have hN2 := HN.out.2.2.2.2
              rw [← HR.out.2.2, if_pos rfl] at hN2
              have HF : Hid (NatTold (natL s) (limbsL (R.take M) j) D 0) := by rw [hN2, HD.out]; exact ⟨rfl, rfl, rfl⟩
              clear hN2
              go_wp2_with fail
              go_quiet (fail)
              go_wp2
              go_ret3
              exact ⟨_, _, _, _, D, 0, rfl, HR.out.1.below (below_drewN (Below.refl _ _) _), HF.out, below_drewN HR.out.2.1 _⟩
            | false =>
              have hN2 := HN.out.2.2.2.2
              rw [← HR.out.2.2, if_neg (by decide)] at hN2
              have HF : Hid (NatTold (natL s) [] [] 62) := by rw [hN2]; exact ⟨rfl, rfl, rfl⟩
              clear hN2
              go_wp2
              go_ret3
              exact ⟨none, 0, 0, [], [], 62, rfl, RowAt.nil _, HF.out, HR.out.2.1⟩
          · obtain ⟨i, hi9⟩ : ∃ i, n = i + 1 + j := ⟨n - 1 - j, by omega⟩
            have hij : (n : Int) - 1 - (j : Int) = (i : Int) := by omega
            rw [hij]
            obtain ⟨P, hP⟩ : ∃ P, P = 8 * i := ⟨_, rfl⟩
            obtain ⟨Q, hQ⟩ : ∃ Q, Q = 8 * i + 8 := ⟨_, rfl⟩
            obtain ⟨C, hC⟩ : ∃ C, C = (R.take Q).drop P := ⟨_, rfl⟩
            have e1 := ext_str R P Q
            rw [← hC] at e1
            have hC8 : C.length ≤ 8 := by rw [hC]; simp; omega
            obtain ⟨X, hX⟩ : ∃ X, X = joinL C := ⟨_, rfl⟩
            have hch := limb_chunk R n j i (by have := HN.out.2.2.1; have := HN.out.2.2.2.1; omega) hi9
            rw [← HN.out.2.2.2.1, ← hQ, ← hP, ← hC, ← hX] at hch
            have p1 : (8 : Int) * (i : Int) = (P : Int) := by omega
            have p2 : (P : Int) + 8 = (Q : Int) := by omega
            have p3 : IntKind.i64.wrap (P : Int) = (P : Int) := IntWalk.i64_in _ ⟨by omega, by omega⟩
            have p4 : IntKind.i64.wrap (Q : Int) = (Q : Int) := IntWalk.i64_in _ ⟨by omega, by omega⟩
            have p5 : (P : Int) ≤ (Q : Int) := by omega
            have p6 : (Q : Int) ≤ (R.length : Int) := by have := HN.out.2.2.1; have := HN.out.2.2.2.1; omega
            have hi1 : (0 : Int) ≤ (i : Int) := by omega
            have hi2 : (i : Int) ≤ 7 := by omega
            have hj9 : j ≤ 8 := by omega
            have HK : Hid (n = i + 1 + j ∧ X = joinL C ∧ C.length ≤ 8 ∧ limbsL (R.take M) (j + 1) = limbsL (R.take M) j ++ [(X : Int)] ∧ n - j ≤ gk ∧ OwnR wr w1.heap.size g j cap (limbsL (R.take M) j) ∧ Below w1.heap.size w1 wr) := ⟨hi9, hX, hC8, by rw [limbsL_next, hch], hjn, hO.out.1, hO.out.2⟩
            clear hi9 hX hC8 hch hP hQ hC hij hO h0 hjn hj
            go_wp2_with fail
            refine (rnumber_any C _ HK.out.2.2.1).mono ?_
            rw [← HK.out.2.1]
            rintro e w2 ⟨rfl, rfl⟩
            have HO : Hid (OwnR w2 w1.heap.size g j cap (limbsL (R.take M) j) ∧ Below w1.heap.size w1 w2) := HK.out.2.2.2.2.2
            go_wp2_with (at_builtin; refine wpList_append_own _ rfl (.tmp 36) (.tmp 45) 24 rfl w1.heap.size 22 i0 (.int .u64 0) 1 8 (by kernel_rfl) hi hz0 hz1 hz2 rfl (by decide) _ _ _ rfl (World.ownsRow.alloc HO.out.1 _) ⟨w2.heap.size, 0, none⟩ 1 1 [.int .u64 (X : Int)] rfl rfl (cell_one_row _ _ _) (by simp [Value.oneCell']) (by unfold maxLen; omega) (by omega) (by have := HO.out.2.size; simp; omega) ?_; intro v' w3 ho3 hg3 hn3; obtain ⟨g', cap', rfl⟩ := ownsRow_succ ho3; have H3 : Hid (w3.ownsRow w1.heap.size 22 1 (.slice (some ⟨g', 0, none⟩) (j + 1) cap') (j + 1) ((limbsL (R.take M) j).map (Value.int .u64) ++ [.int .u64 (X : Int)]) ∧ (w2.alloc (.cells #[.int .u64 (X : Int)] 22)).grownBy w3 (some g)) := ⟨ho3, hg3⟩; clear ho3 hg3 hn3)
            go_roundg (n - (j + 1))
            case measure => have := HK.out.1; have := HK.out.2.2.2.2.1; omega
            case rel =>
              refine ⟨j + 1, g', cap', by have := HK.out.1; omega, Nat.le_refl _, ?_, rfl, ?_, ?_⟩
              · congr 1
                have := HK.out.1
                omega
              · rw [HK.out.2.2.2.1]
                unfold OwnR
                rw [List.map_append]
                exact H3.out.1
              · exact below_grow (HO.out.2.alloc HO.out.2.size _) H3.out.2 HO.out.1.lt.1
end Go.Proofs.Ytmmbgfbliekkgaa

/-! The reference's GetRat of layer 6. -/
namespace Go.Proofs.Ytmmbgfbliekkgaa
open Go.RowKit

/-- What GetRat tells. -/
def RatTold (r : Except Int (RatL × List UInt8)) (q : RatL) (R : List UInt8) (k : Int) : Prop :=
  match r with
  | .error e => q = rat0 ∧ R = [] ∧ k = e
  | .ok (x, r) => q = x ∧ R = r ∧ k = 0

theorem RatTold.one {r : Except Int (RatL × List UInt8)} {p q : RatL} {R S : List UInt8} {k j : Int} (h : RatTold r p R k) (h2 : RatTold r q S j) : p = q ∧ R = S ∧ k = j := by
  unfold RatTold at h h2
  cases r with
  | error e => exact ⟨h.1.trans h2.1.symm, h.2.1.trans h2.2.1.symm, h.2.2.trans h2.2.2.symm⟩
  | ok p => exact ⟨h.1.trans h2.1.symm, h.2.1.trans h2.2.1.symm, h.2.2.trans h2.2.2.symm⟩

theorem getRat_told (s : List UInt8) (res : Except Int (RatL × List UInt8)) (w : World) (hn : RatIs s res) (hs : s.length ≤ 70000) :
    Calls Try.prog 23 #[.string (str s)] w fun e w' => ∃ (no : Option Addr) (nn nc : Nat) (eo : Option Addr) (en ec : Nat) (q : RatL) (R : List UInt8) (k : Int), e = .returned (.tuple #[.agg #[.bool q.neg, .slice no nn nc, .slice eo en ec], .string (str R), .int .i64 k]) ∧ RatAt w' no nn nc eo en ec q ∧ RatTold res q R k ∧ Below w.heap.size w w' := by
  cases res with
  | error k => exact (getRat_err s k w hn hs).mono fun e w' ⟨h1, h2⟩ => ⟨none, 0, 0, none, 0, 0, rat0, [], k, h1, RatAt.zero _, ⟨rfl, rfl, rfl⟩, h2⟩
  | ok p =>
    obtain ⟨q, r⟩ := p
    exact (getRat_ok s q r w hn hs).mono fun e w' ⟨no, nn, eo, en, h1, h2, h5⟩ => ⟨no, nn, nn, eo, en, en, q, r, 0, h1, h2, ⟨rfl, rfl, rfl⟩, h5⟩

set_option maxRecDepth 100000 in
set_option maxHeartbeats 8000000 in
theorem rgetRat_any (s : List UInt8) (res : Except Int (RatL × List UInt8)) (w : World) (hn : RatIs s res) (hs : s.length ≤ 70000) :
    Calls Try.prog 24 #[.string (str s)] w fun e w' => ∃ (no : Option Addr) (nn nc : Nat) (eo : Option Addr) (en ec : Nat) (q : RatL) (R : List UInt8) (k : Int), e = .returned (.tuple #[.agg #[.bool q.neg, .slice no nn nc, .slice eo en ec], .string (str R), .int .i64 k]) ∧ RatAt w' no nn nc eo en ec q ∧ RatTold res q R k ∧ Below w.heap.size w w' := by
  have hbx := RBox.new w false none 0 0 none 0 0
  have HB : Hid (RBox (w.alloc (.cells #[.bool false, .slice none 0 0, .slice none 0 0] 26)) w.heap.size false none 0 0 none 0 0 ∧ Below w.heap.size w (w.alloc (.cells #[.bool false, .slice none 0 0, .slice none 0 0] 26))) := ⟨hbx, (Below.refl _ _).alloc (Nat.le_refl _) _⟩
  have f0 := hbx.f 0
  have f1 := hbx.f 1
  have f2 := hbx.f 2
  have c0 := hbx.c0
  have c1 := hbx.c1
  have c2 := hbx.c2
  clear hbx
  cases s with
  | nil =>
    have HN : Hid (RatTold res rat0 [] 60) := by
      have h9 : res = .error 60 := hn
      rw [h9]
      exact ⟨rfl, rfl, rfl⟩
    have e0 : (str []).size = 0 := rfl
    clear hn hs
    go_enter Try.func24, Try.ntmps24
    go_wp2
    refine bodyPost_ret (results_g rfl _ _ _ HB.out.1 rfl rfl rfl) rfl ?_
    exact ⟨none, 0, 0, none, 0, 0, rat0, [], 60, rfl, RatAt.zero _, HN.out, HB.out.2⟩
  | cons c t =>
    have hsz : (str (c :: t)).size = t.length + 1 := by rw [str_size]; rfl
    have hz : 0 < (str (c :: t)).size := by rw [str_size]; exact Nat.zero_lt_succ _
    have hz2 : (str (c :: t))[0] = c := rfl
    have hl : t.length ≤ 69999 := by simp at hs; omega
    have g0 : ¬ ((t.length : Int) + 1 = 0) := by omega
    have g1 : (t.length : Int) ≤ 69999 := by omega
    have e1 : (str (c :: t)).extract 1 (t.length + 1) = str t := by
      have h9 := ext_str (c :: t) 1 (t.length + 1)
      rw [List.take_of_length_le (by simp)] at h9
      exact h9
    have HL : Hid (t.length ≤ 69999) := hl
    clear hs hl
    by_cases hc : 1 < c.toNat
    · have hc1 : (1 : Int) < (c.toNat : Int) := by omega
      have HN : Hid (RatTold res rat0 [] 62) := by
        unfold RatIs at hn
        simp only [if_pos hc] at hn
        rw [hn]
        exact ⟨rfl, rfl, rfl⟩
      clear hn hc
      go_enter Try.func24, Try.ntmps24
      go_wp2
      refine bodyPost_ret (results_g rfl _ _ _ HB.out.1 rfl rfl rfl) rfl ?_
      exact ⟨none, 0, 0, none, 0, 0, rat0, [], 62, rfl, RatAt.zero _, HN.out, HB.out.2⟩
    · have hc1 : ¬ (1 : Int) < (c.toNat : Int) := by omega
      obtain ⟨g, hg⟩ : ∃ g, g = (c == 1) := ⟨_, rfl⟩
      have hcg := eq_one c (by omega)
      rw [← hg] at hcg
      have HN : Hid (RatIs (c :: t) res ∧ ¬ 1 < c.toNat ∧ g = (c == 1)) := ⟨hn, hc, hg⟩
      clear hn hc hg
      go_enter Try.func24, Try.ntmps24
      go_wp2_with fail
      refine (rgetNat_any t _ (by have := HL.out; omega)).mono ?_
      rintro e w1 ⟨ao, m, ca, xs, R1, k1, rfl, ro1, t1, b1⟩
      have bx1 := HB.out.1.below b1
      have H1 : Hid (RowAt w1 ao m ca xs ∧ NatTold (natL t) xs R1 k1 ∧ Below w.heap.size w w1 ∧ RBox w1 w.heap.size false none 0 0 none 0 0) := ⟨ro1, t1, chain HB.out.2 b1, bx1⟩
      clear f0 f1 f2 c0 c1 c2
      have f0 := bx1.f 0
      have f1 := bx1.f 1
      have f2 := bx1.f 2
      have c0 := bx1.c0
      have c1 := bx1.c1
      have c2 := bx1.c2
      clear ro1 b1 bx1
      cases hnt : natL t with
      | error kk =>
        rw [hnt] at t1
        have hk1 : ¬ k1 = 0 := by rw [t1.2.2]; exact natL_err hnt
        have HF : Hid (RatTold res rat0 [] k1) := by
          have h8 := HN.out.1
          unfold RatIs at h8
          simp only [if_neg HN.out.2.1, hnt] at h8
          rw [h8]
          exact ⟨rfl, rfl, t1.2.2⟩
        clear hnt t1
        go_wp2
        refine bodyPost_ret (results_g rfl _ _ _ (H1.out.2.2.2.set false none 0 0 none 0 0) rfl rfl rfl) rfl ?_
        exact ⟨none, 0, 0, none, 0, 0, rat0, [], k1, rfl, RatAt.zero _, HF.out, below_set H1.out.2.2.1 (Nat.le_refl _) _ _ _⟩
      | ok p1 =>
        obtain ⟨x, r1⟩ := p1
        rw [hnt] at t1
        obtain ⟨rfl, rfl, rfl⟩ := t1
        have HT : Hid (natL t = .ok (xs, R1) ∧ R1.length ≤ t.length) := ⟨hnt, (natL_one _ _ _ hnt).2.2.2⟩
        clear hnt
        go_wp2_with fail
        refine (rgetNat_any R1 _ (by have := HL.out; have := HT.out.2; omega)).mono ?_
        rintro e w2 ⟨bo, m2, cb, ys, R2, k2, rfl, ro2, t2, b2⟩
        have bx2 := H1.out.2.2.2.below b2
        have H2 : Hid (RatAt w2 ao m ca bo m2 cb ⟨g, xs, ys⟩ ∧ Below w.heap.size w w2 ∧ RBox w2 w.heap.size false none 0 0 none 0 0) := ⟨⟨H1.out.1.below b2, ro2⟩, chain H1.out.2.2.1 b2, bx2⟩
        clear f0 f1 f2 c0 c1 c2
        have f0 := bx2.f 0
        have f1 := bx2.f 1
        have f2 := bx2.f 2
        have c0 := bx2.c0
        have c1 := bx2.c1
        have c2 := bx2.c2
        clear ro2 b2 bx2
        cases hnt : natL R1 with
        | error kk =>
          rw [hnt] at t2
          have hk2 : ¬ k2 = 0 := by rw [t2.2.2]; exact natL_err hnt
          have HF : Hid (RatTold res rat0 [] k2) := by
            have h8 := HN.out.1
            unfold RatIs at h8
            simp only [if_neg HN.out.2.1, HT.out.1, hnt] at h8
            rw [h8]
            exact ⟨rfl, rfl, t2.2.2⟩
          clear hnt t2
          go_wp2
          refine bodyPost_ret (results_g rfl _ _ _ (H2.out.2.2.set false none 0 0 none 0 0) rfl rfl rfl) rfl ?_
          exact ⟨none, 0, 0, none, 0, 0, rat0, [], k2, rfl, RatAt.zero _, HF.out, below_set H2.out.2.1 (Nat.le_refl _) _ _ _⟩
        | ok p2 =>
          obtain ⟨y, r2⟩ := p2
          rw [hnt] at t2
          obtain ⟨rfl, rfl, rfl⟩ := t2
          have hB3 : Below w2.heap.size w2 (w2.alloc (.cells #[.bool g, .slice ao m ca, .slice bo m2 cb] 26)) := (Below.refl _ _).alloc (Nat.le_refl _) _
          have bx3 := RBox.new w2 g ao m ca bo m2 cb
          have d0 := bx3.c0
          have d1 := bx3.c1
          have d2 := bx3.c2
          obtain ⟨b, hb⟩ := mayR_ex ⟨g, xs, ys⟩
          have H3 : Hid (RatAt (w2.alloc (.cells #[.bool g, .slice ao m ca, .slice bo m2 cb] 26)) ao m ca bo m2 cb ⟨g, xs, ys⟩ ∧ Below w.heap.size w (w2.alloc (.cells #[.bool g, .slice ao m ca, .slice bo m2 cb] 26)) ∧ RBox (w2.alloc (.cells #[.bool g, .slice ao m ca, .slice bo m2 cb] 26)) w.heap.size false none 0 0 none 0 0 ∧ RBox (w2.alloc (.cells #[.bool g, .slice ao m ca, .slice bo m2 cb] 26)) w2.heap.size g ao m ca bo m2 cb ∧ (b = true ↔ MayR ⟨g, xs, ys⟩)) := ⟨H2.out.1.below hB3, chain H2.out.2.1 hB3, H2.out.2.2.alloc _, bx3, hb⟩
          have HR : Hid ((MayR ⟨g, xs, ys⟩ → res = .ok (⟨g, xs, ys⟩, R2)) ∧ (¬ MayR ⟨g, xs, ys⟩ → res = .error 62)) := by
            have h8 := HN.out.1
            unfold RatIs at h8
            simp only [if_neg HN.out.2.1, HT.out.1, hnt] at h8
            rw [← HN.out.2.2] at h8
            exact h8
          clear hnt hB3 bx3 hb
          go_wp2_with fail
          refine (rrmay_r g ao m ca bo m2 cb ⟨g, xs, ys⟩ _ H3.out.1 rfl b H3.out.2.2.2.2).mono ?_
          rintro e w4 ⟨rfl, b4⟩
          have bx4 := H3.out.2.2.1.below b4
          have by4 := H3.out.2.2.2.1.below b4
          have H4 : Hid (RatAt w4 ao m ca bo m2 cb ⟨g, xs, ys⟩ ∧ Below w.heap.size w w4 ∧ RBox w4 w.heap.size false none 0 0 none 0 0) := ⟨H3.out.1.below b4, chain H3.out.2.1 b4, bx4⟩
          have HBB : Hid (b = true ↔ MayR ⟨g, xs, ys⟩) := H3.out.2.2.2.2
          clear f0 f1 f2 c0 c1 c2 d0 d1 d2
          have f0 := bx4.f 0
          have f1 := bx4.f 1
          have f2 := bx4.f 2
          have c0 := bx4.c0
          have c1 := bx4.c1
          have c2 := bx4.c2
          have d0 := by4.c0
          have d1 := by4.c1
          have d2 := by4.c2
          clear b4 bx4 by4 H3
          cases b with
          | false =>
            have HF : Hid (RatTold res rat0 [] 62) := by
              rw [HR.out.2 (fun e => by have := HBB.out.2 e; cases this)]
              exact ⟨rfl, rfl, rfl⟩
            go_wp2
            refine bodyPost_ret (results_g rfl _ _ _ (H4.out.2.2.set false none 0 0 none 0 0) rfl rfl rfl) rfl ?_
            exact ⟨none, 0, 0, none, 0, 0, rat0, [], 62, rfl, RatAt.zero _, HF.out, below_set H4.out.2.1 (Nat.le_refl _) _ _ _⟩
          | true =>
            have HF : Hid (RatTold res ⟨g, xs, ys⟩ R2 0) := by
              rw [HR.out.1 (HBB.out.1 rfl)]
              exact ⟨rfl, rfl, rfl⟩
            go_wp2
            refine bodyPost_ret (results_g rfl _ _ _ (H4.out.2.2.set g ao m ca bo m2 cb) rfl rfl rfl) rfl ?_
            exact ⟨ao, m, ca, bo, m2, cb, ⟨g, xs, ys⟩, R2, 0, rfl, H4.out.1.setR H4.out.2.2 _ _ _, HF.out, below_set H4.out.2.1 (Nat.le_refl _) _ _ _⟩
end Go.Proofs.Ytmmbgfbliekkgaa

/-! OctetGets, walked. -/
namespace Go.Proofs.Ytmmbgfbliekkgaa
open Go.RowKit

set_option maxRecDepth 100000 in
set_option maxHeartbeats 8000000 in
theorem gets_walk (s : List UInt8) (w : World) (hl : s.length ≤ 9223372036854775807) :
    Calls Try.prog 4 #[.string (str s)] w fun e w' => e = .returned (.bool true) ∧ Below w.heap.size w w' := by
  have hsz : (str s).size = s.length := str_size s
  have hsi : (s.length : Int) ≤ 9223372036854775807 := by omega
  clear hl
  by_cases hl : 1000 < s.length
  · have hl2 : (1000 : Int) < (s.length : Int) := by omega
    go_enter Try.func4, Try.ntmps4
    go_wp2_with (go_at_call 10; refine (shown_any _).mono ?_; rintro e w3 ⟨rfl, b1⟩; have H1 : Hid (Below w.heap.size w w3) := b1; clear b1)
    go_ret
    exact ⟨rfl, H1.out⟩
  · have hl2 : ¬ (1000 : Int) < (s.length : Int) := by omega
    have hl3 : decide ((1000 : Int) < (s.length : Int)) = false := decide_eq_false hl2
    obtain ⟨n, R1, k1, hto⟩ := toldN_ex (numL s)
    obtain ⟨T, R4, k4, htt⟩ := toldT_ex (textL s)
    obtain ⟨res, hrat⟩ := RatIs.ex s
    have HS : Hid (s.length ≤ 70000 ∧ toldN (numL s) = .tuple #[.int .u64 (n : Int), .string (str R1), .int .i64 k1] ∧ toldT (textL s) = .tuple #[.string (str T), .string (str R4), .int .i64 k4] ∧ RatIs s res) := ⟨by omega, hto, htt, hrat⟩
    clear hl hto htt hrat
    go_enter Try.func4, Try.ntmps4
    go_wp2_with fail
    refine (shown_any _).mono ?_
    rintro e w1 ⟨rfl, b1⟩
    have H1 : Hid (Below w.heap.size w w1) := b1
    clear b1
    go_wp2_with fail
    refine (get_told s _ HS.out.1).mono ?_
    rw [HS.out.2.1]
    rintro e w2 ⟨rfl, b2⟩
    have H2 : Hid (Below w.heap.size w w2) := chain H1.out b2
    clear b2 H1
    go_wp2_with fail
    refine (rget_any s _ HS.out.1).mono ?_
    rw [HS.out.2.1]
    rintro e w3 ⟨rfl, b3⟩
    have H3 : Hid (Below w.heap.size w w3) := chain H2.out b3
    clear b3 H2
    go_wp2_with fail
    refine (getNat_told s _ HS.out.1).mono ?_
    rintro e w4 ⟨ao, am, ac, xs, R2, k2, rfl, ra, ta, b4⟩
    have H4 : Hid (Below w.heap.size w w4 ∧ RowAt w4 ao am ac xs ∧ NatTold (natL s) xs R2 k2) := ⟨chain H3.out b4, ra, ta⟩
    clear b4 ra ta H3
    go_wp2_with fail
    refine (rgetNat_any s _ HS.out.1).mono ?_
    rintro e w5 ⟨bo, bm, bc, ys, S2, j2, rfl, rb, tb, b5⟩
    obtain ⟨e1, e2, e3⟩ := H4.out.2.2.one tb
    subst e2
    subst e3
    have H5 : Hid (Below w.heap.size w w5 ∧ RowAt w5 ao am ac xs ∧ RowAt w5 bo bm bc ys ∧ xs = ys) := ⟨chain H4.out.1 b5, H4.out.2.1.below b5, rb, e1⟩
    clear b5 rb tb e1 H4
    go_wp2_with fail
    refine (getRat_told s res _ HS.out.2.2.2 HS.out.1).mono ?_
    rintro e w6 ⟨no, nn, nc, eo, en, ec, q, R3, k3, rfl, rq, tq, b6⟩
    obtain ⟨g, hg⟩ : ∃ g, g = q.neg := ⟨_, rfl⟩
    rw [← hg]
    have hb6 : Below w6.heap.size w6 (w6.alloc (.cells #[.bool g, .slice no nn nc, .slice eo en ec] 26)) := (Below.refl _ _).alloc (Nat.le_refl _) _
    have bx6 := RBox.new w6 g no nn nc eo en ec
    have H6 : Hid (Below w.heap.size w (w6.alloc (.cells #[.bool g, .slice no nn nc, .slice eo en ec] 26)) ∧ RowAt (w6.alloc (.cells #[.bool g, .slice no nn nc, .slice eo en ec] 26)) ao am ac xs ∧ RowAt (w6.alloc (.cells #[.bool g, .slice no nn nc, .slice eo en ec] 26)) bo bm bc ys ∧ xs = ys ∧ RatAt (w6.alloc (.cells #[.bool g, .slice no nn nc, .slice eo en ec] 26)) no nn nc eo en ec q ∧ RatTold res q R3 k3 ∧ RBox (w6.alloc (.cells #[.bool g, .slice no nn nc, .slice eo en ec] 26)) w6.heap.size g no nn nc eo en ec ∧ g = q.neg) :=
      ⟨chain (chain H5.out.1 b6) hb6, (H5.out.2.1.below b6).below hb6, (H5.out.2.2.1.below b6).below hb6, H5.out.2.2.2, rq.below hb6, tq, bx6, hg⟩
    clear b6 rq tq hb6 bx6 hg H5
    go_wp2_with fail
    refine (rgetRat_any s res _ HS.out.2.2.2 HS.out.1).mono ?_
    rintro e w7 ⟨po, pn, pc, qo, qn, qc, q2, S3, j3, rfl, rq, tq, b7⟩
    obtain ⟨e1, e2, e3⟩ := H6.out.2.2.2.2.2.1.one tq
    subst e1
    subst e2
    subst e3
    have HG : Hid (g = q.neg) := H6.out.2.2.2.2.2.2.2
    rw [← HG.out]
    have hb7 : Below w7.heap.size w7 (w7.alloc (.cells #[.bool g, .slice po pn pc, .slice qo qn qc] 26)) := (Below.refl _ _).alloc (Nat.le_refl _) _
    have bx7 := RBox.new w7 g po pn pc qo qn qc
    have H7 : Hid (Below w.heap.size w (w7.alloc (.cells #[.bool g, .slice po pn pc, .slice qo qn qc] 26)) ∧ RowAt (w7.alloc (.cells #[.bool g, .slice po pn pc, .slice qo qn qc] 26)) ao am ac xs ∧ RowAt (w7.alloc (.cells #[.bool g, .slice po pn pc, .slice qo qn qc] 26)) bo bm bc ys ∧ xs = ys ∧ RatAt (w7.alloc (.cells #[.bool g, .slice po pn pc, .slice qo qn qc] 26)) no nn nc eo en ec q ∧ RatAt (w7.alloc (.cells #[.bool g, .slice po pn pc, .slice qo qn qc] 26)) po pn pc qo qn qc q ∧ RBox (w7.alloc (.cells #[.bool g, .slice po pn pc, .slice qo qn qc] 26)) w6.heap.size g no nn nc eo en ec ∧ RBox (w7.alloc (.cells #[.bool g, .slice po pn pc, .slice qo qn qc] 26)) w7.heap.size g po pn pc qo qn qc) :=
      ⟨chain (chain H6.out.1 b7) hb7, (H6.out.2.1.below b7).below hb7, (H6.out.2.2.1.below b7).below hb7, H6.out.2.2.2.1, (H6.out.2.2.2.2.1.below b7).below hb7, rq.below hb7, (H6.out.2.2.2.2.2.2.1.below b7).alloc _, bx7⟩
    clear b7 rq tq hb7 bx7 H6
    go_wp2_with fail
    refine (getText_told s _ HS.out.1).mono ?_
    rw [HS.out.2.2.1]
    rintro e w8 ⟨rfl, b8⟩
    have H8 : Hid (Below w.heap.size w w8 ∧ RowAt w8 ao am ac xs ∧ RowAt w8 bo bm bc ys ∧ xs = ys ∧ RatAt w8 no nn nc eo en ec q ∧ RatAt w8 po pn pc qo qn qc q ∧ RBox w8 w6.heap.size g no nn nc eo en ec ∧ RBox w8 w7.heap.size g po pn pc qo qn qc) :=
      ⟨chain H7.out.1 b8, H7.out.2.1.below b8, H7.out.2.2.1.below b8, H7.out.2.2.2.1, H7.out.2.2.2.2.1.below b8, H7.out.2.2.2.2.2.1.below b8, H7.out.2.2.2.2.2.2.1.below b8, H7.out.2.2.2.2.2.2.2.below b8⟩
    clear b8 H7
    go_wp2_with fail
    refine (rgetText_any s _ HS.out.1).mono ?_
    rw [HS.out.2.2.1]
    rintro e w9 ⟨rfl, b9⟩
    have H9 : Hid (Below w.heap.size w w9 ∧ RowAt w9 ao am ac xs ∧ RowAt w9 bo bm bc ys ∧ xs = ys ∧ RatAt w9 no nn nc eo en ec q ∧ RatAt w9 po pn pc qo qn qc q ∧ RBox w9 w6.heap.size g no nn nc eo en ec ∧ RBox w9 w7.heap.size g po pn pc qo qn qc) :=
      ⟨chain H8.out.1 b9, H8.out.2.1.below b9, H8.out.2.2.1.below b9, H8.out.2.2.2.1, H8.out.2.2.2.2.1.below b9, H8.out.2.2.2.2.2.1.below b9, H8.out.2.2.2.2.2.2.1.below b9, H8.out.2.2.2.2.2.2.2.below b9⟩
    clear b9 H8
    go_wp2_with fail
    refine (nsame_b _ _ _ _ _ _ xs ys _ H9.out.2.1 H9.out.2.2.1 true ⟨fun _ => H9.out.2.2.2.1, fun _ => rfl⟩).mono ?_
    rintro e w10 ⟨rfl, b10⟩
    have bx10 := H9.out.2.2.2.2.2.2.1.below b10
    have by10 := H9.out.2.2.2.2.2.2.2.below b10
    have H10 : Hid (Below w.heap.size w w10 ∧ RatAt w10 no nn nc eo en ec q ∧ RatAt w10 po pn pc qo qn qc q) := ⟨chain H9.out.1 b10, H9.out.2.2.2.2.1.below b10, H9.out.2.2.2.2.2.1.below b10⟩
    have c0 := bx10.c0
    have c1 := bx10.c1
    have c2 := bx10.c2
    have d0 := by10.c0
    have d1 := by10.c1
    have d2 := by10.c2
    clear b10 bx10 by10 H9
    go_wp2_with fail
    refine (rsame_r g no nn nc eo en ec po pn pc qo qn qc q _ H10.out.2.1 H10.out.2.2).mono ?_
    rintro e w11 ⟨rfl, b11⟩
    have H11 : Hid (Below w.heap.size w w11) := chain H10.out.1 b11
    clear b11 H10 c0 c1 c2 d0 d1 d2
    go_wp2
    go_ret
    exact ⟨rfl, H11.out⟩
end Go.Proofs.Ytmmbgfbliekkgaa
