/-
  The reference's number, Get and GetText of layer 6.
-/
import Derived.Test.YtmmbgfbliekkgaaOctS
import Derived.Deep.QuietTactic
import Derived.BigQuiet
namespace Go.Proofs.Ytmmbgfbliekkgaa
open Go.RowKit

theorem take_nextB (s : List UInt8) (k : Nat) (h : k < s.length) : s.take (k + 1) = s.take k ++ [s[k]] := by
  rw [List.take_add_one, List.getElem?_eq_getElem h]
  rfl

set_option maxRecDepth 100000 in
set_option maxHeartbeats 2000000 in
theorem rnumber_any (t : List UInt8) (w : World) (hl : t.length ≤ 8) :
    Calls Try.prog 40 #[.string (str t)] w fun e w' => e = .returned (.int .u64 (joinL t : Nat)) ∧ w' = w := by
  have hsz : (str t).size = t.length := str_size t
  obtain ⟨L, hL⟩ : ∃ L, L = t.length := ⟨_, rfl⟩
  rw [← hL] at hsz
  have HL : Hid (L = t.length) := hL
  have hl2 : (L : Int) ≤ 8 := by omega
  clear hL hl
  go_enter Try.func40, Try.ntmps40
  go_wp2
  go_loopw [3, 4] (fun d i wr => ∃ (k v : Nat), k ≤ L ∧ d = .int .u64 v ∧ i = .int .i64 k ∧ wr = w ∧ Hid (v = joinL (t.take k))) (fun _ i _ => L - (intOf i).toNat)
  case atStart => exact ⟨0, 0, Nat.zero_le _, rfl, rfl, rfl, rfl⟩
  case round =>
    obtain ⟨k, v, hk, rfl, rfl, rfl, hv⟩ := hrel
    by_cases hlt : k < L
    · have hlt' : (k : Int) < (L : Int) := by omega
      have hkl : k < t.length := by have := HL.out; omega
      have hks : k < (str t).size := by omega
      have hst : (str t)[k] = t[k] := rfl
      obtain ⟨b, hb⟩ : ∃ b, b = t[k] := ⟨_, rfl⟩
      rw [← hb] at hst
      have hlen : (t.take k).length ≤ 7 := by simp; omega
      have hv4 : v < 72057594037927936 := by
        rw [hv.out]
        have := joinL_lt (t.take k)
        have h7 : 256 ^ (t.take k).length ≤ 256 ^ 7 := Nat.pow_le_pow_right (by decide) hlen
        have e7 : (256 : Nat) ^ 7 = 72057594037927936 := by decide
        omega
      have hbt := b.toNat_lt
      have HV : Hid (v * 256 + b.toNat = joinL (t.take (k + 1))) := by
        have h9 : v * 256 + b.toNat = joinL (t.take (k + 1)) := by rw [take_nextB t k hkl, joinL_snoc, ← hv.out, hb]; rfl
        exact h9
      have hv5 : (v : Int) < 72057594037927936 := by omega
      have hb5 : (b.toNat : Int) < 256 := by omega
      have x1 : IntKind.u64.wrap ((v : Int) * 256) = (v : Int) * 256 := by rw [IntKind.wrap_u64]; omega
      have x2 : IntKind.u64.wrap (b.toNat : Int) = (b.toNat : Int) := by rw [IntKind.wrap_u64]; omega
      have x3 : IntKind.u64.wrap ((v : Int) * 256 + (b.toNat : Int)) = (v : Int) * 256 + (b.toNat : Int) := by rw [IntKind.wrap_u64]; omega
      clear hv hb hv4 hkl hlen hbt
      go_wp2
      go_roundw
      case rel => exact ⟨k + 1, v * 256 + b.toNat, by omega, by go_num, by go_num, by first | rfl | trivial, HV.out⟩
      case measure => simp [intOf]; omega
    · have hkt : k = L := by omega
      have h := hv.out
      rw [hkt, HL.out, List.take_length] at h
      subst h
      clear hv
      go_wp2
      go_ret
      exact ⟨rfl, rfl⟩


/-- What Get tells. -/
def toldN (r : Except Int (Nat × List UInt8)) : Value :=
  match r with
  | .error k => .tuple #[.int .u64 0, .string (str []), .int .i64 k]
  | .ok (n, r) => .tuple #[.int .u64 (n : Int), .string (str r), .int .i64 0]

theorem toldN_ex (r : Except Int (Nat × List UInt8)) : ∃ (n : Nat) (R : List UInt8) (k : Int), toldN r = .tuple #[.int .u64 (n : Int), .string (str R), .int .i64 k] := by
  cases r with
  | error k => exact ⟨0, [], k, rfl⟩
  | ok p => exact ⟨p.1, p.2, 0, rfl⟩

theorem get_told (s : List UInt8) (w : World) (hs : s.length ≤ 70000) : Calls Try.prog 19 #[.string (str s)] w fun e w' => e = .returned (toldN (numL s)) ∧ Below w.heap.size w w' := by
  cases hn : numL s with
  | error k => exact get_err s k w hn (by omega)
  | ok p => exact get_ok s p.1 p.2 w hn (by omega)

theorem wrap_byte (c : UInt8) : IntKind.i64.wrap (c.toNat : Int) = (c.toNat : Int) := IntWalk.i64_in _ ⟨by omega, by have := c.toNat_lt; omega⟩

set_option maxRecDepth 100000 in
set_option maxHeartbeats 4000000 in
theorem rget_any (s : List UInt8) (w : World) (hs : s.length ≤ 70000) : Calls Try.prog 20 #[.string (str s)] w fun e w' => e = .returned (toldN (numL s)) ∧ Below w.heap.size w w' := by
  have hsz : (str s).size = s.length := str_size s
  cases s with
  | nil =>
    have e0 : (str []).size = 0 := rfl
    clear hsz
    go_enter Try.func20, Try.ntmps20
    go_wp2
    go_ret3
    exact ⟨rfl, Below.refl _ _⟩
  | cons c t =>
    have hz : 0 < (str (c :: t)).size := by rw [str_size]; exact Nat.zero_lt_succ _
    have hz2 : (str (c :: t))[0] = c := rfl
    have hwc := wrap_byte c
    obtain ⟨L, hL⟩ : ∃ L, L = t.length := ⟨_, rfl⟩
    have hsz2 : (str (c :: t)).size = L + 1 := by rw [hL]; exact hsz
    have hl : L ≤ 69999 := by simp at hs; omega
    have g0 : ¬ ((L : Int) + 1 = 0) := by omega
    have g1 : (L : Int) ≤ 69999 := by omega
    have hc9 : (c.toNat : Int) < 256 := by have := c.toNat_lt; omega
    clear hsz hs
    by_cases h8 : 8 < c.toNat
    · have h8' : (8 : Int) < (c.toNat : Int) := by omega
      have HN : Hid (numL (c :: t) = .error 62) := by
        have h9 : numL (c :: t) = .error 62 := by simp only [numL]; rw [if_pos h8]
        exact h9
      clear h8 hL
      go_enter Try.func20, Try.ntmps20
      go_wp2
      go_ret3
      exact ⟨by rw [HN.out]; rfl, Below.refl _ _⟩
    · have h8' : ¬ (8 : Int) < (c.toNat : Int) := by omega
      obtain ⟨K, hK⟩ : ∃ K, K = c.toNat := ⟨_, rfl⟩
      have hK1 : (c.toNat : Int) = (K : Int) := by omega
      by_cases hlt : L < K
      · have hlt' : (L : Int) < (K : Int) := by omega
        have HN : Hid (numL (c :: t) = .error 60) := by
          have h9 : numL (c :: t) = .error 60 := by simp only [numL]; rw [if_neg h8, ← hK, ← hL, if_pos hlt]
          exact h9
        have g2 : (L : Int) + 1 < 1 + (K : Int) := by omega
        have g3 : ¬ (8 : Int) < (K : Int) := by omega
        rw [hK1] at hwc h8'
        clear h8 hlt hK hL
        go_enter Try.func20, Try.ntmps20
        go_wp2
        go_ret3
        exact ⟨by rw [HN.out]; rfl, Below.refl _ _⟩
      · have hge : K ≤ L := by omega
        have hge' : (K : Int) ≤ (L : Int) := by omega
        have g2 : ¬ (L : Int) + 1 < 1 + (K : Int) := by omega
        have g3 : ¬ (8 : Int) < (K : Int) := by omega
        obtain ⟨M, hM⟩ : ∃ M, M = 1 + K := ⟨_, rfl⟩
        have m1 : IntKind.i64.wrap (1 + (K : Int)) = (M : Int) := by rw [show (1 : Int) + (K : Int) = (M : Int) by omega]; exact IntWalk.i64_in _ ⟨by omega, by omega⟩
        have m2 : (1 : Int) + (K : Int) = (M : Int) := by omega
        have m3 : IntKind.i64.wrap (M : Int) = (M : Int) := IntWalk.i64_in _ ⟨by omega, by omega⟩
        have m4 : (M : Int) ≤ (L : Int) + 1 := by omega
        have m5 : (1 : Int) ≤ (M : Int) := by omega
        have m6 : ¬ (L : Int) + 1 < (M : Int) := by omega
        obtain ⟨A, hA⟩ : ∃ A, A = t.take K := ⟨_, rfl⟩
        obtain ⟨D, hD⟩ : ∃ D, D = t.drop K := ⟨_, rfl⟩
        have e1 : (str (c :: t)).extract 1 M = str A := by
          rw [ext_str, hM, hA, Nat.add_comm 1 K]
          rfl
        have e2 : (str (c :: t)).extract M (L + 1) = str D := by
          have h9 := ext_str (c :: t) M (L + 1)
          rw [List.take_of_length_le (by simp; omega), hM, Nat.add_comm 1 K] at h9
          rw [hM, Nat.add_comm 1 K, hD]
          exact h9
        have hA8 : A.length ≤ 8 := by rw [hA]; simp; omega
        obtain ⟨X, hX⟩ : ∃ X, X = joinL A := ⟨_, rfl⟩
        have HC : Hid (∀ w1, Calls Try.prog 40 #[.string (str A)] w1 fun e w' => e = .returned (.int .u64 (X : Int)) ∧ w' = w1) := by
          have a1 := fun w1 => rnumber_any A w1 hA8
          rw [← hX] at a1
          exact a1
        rw [hK1] at hwc h8'
        by_cases h0 : K = 0
        · have HN : Hid (numL (c :: t) = .ok (X, D)) := by
            have h9 : numL (c :: t) = .ok (X, D) := by simp only [numL]; rw [← hK, ← hL, if_neg (by omega), if_neg (by omega), if_neg (by omega), hX, hA, hD]
            exact h9
          have h0' : ¬ (0 : Int) < (K : Int) := by omega
          have h0b : decide ((0 : Int) < (K : Int)) = false := decide_eq_false h0'
          clear hL h8 hlt hK hM hA hD hA8 hX h0
          go_enter Try.func20, Try.ntmps20
          go_wp2_with fail
          go_quiet ((go_at_call 40; exact Calls.quiet_of_same (HC.out _)))
          go_wp2
          go_ret3
          exact ⟨by rw [HN.out]; rfl, below_drewN (Below.refl _ _) _⟩
        · have h0' : (0 : Int) < (K : Int) := by omega
          obtain ⟨d, t', rfl⟩ : ∃ d t', t = d :: t' := by
            cases t with
            | nil => simp at hL; omega
            | cons d t' => exact ⟨d, t', rfl⟩
          have hz3 : (str (c :: d :: t'))[1]'(by rw [str_size]; simp) = d := rfl
          have hz4 : 1 < (str (c :: d :: t')).size := by rw [str_size]; simp
          have hz5 : (1 : Int) < (L : Int) + 1 := by omega
          by_cases hd : d = 0
          · have HN : Hid (numL (c :: d :: t') = .error 62) := by
              have h9 : numL (c :: d :: t') = .error 62 := by simp only [numL]; rw [← hK, ← hL, if_neg (by omega), if_neg (by omega), if_pos ⟨by omega, by rw [hd]; rfl⟩]
              exact h9
            have hd1 : ((d.toNat : Int) == 0) = true := by rw [hd]; rfl
            clear hL h8 hlt hK hM hA hD hA8 hX h0 hd
            go_enter Try.func20, Try.ntmps20
            go_wp2
            go_ret3
            exact ⟨by rw [HN.out]; rfl, Below.refl _ _⟩
          · have HN : Hid (numL (c :: d :: t') = .ok (X, D)) := by
              have h9 : numL (c :: d :: t') = .ok (X, D) := by simp only [numL]; rw [← hK, ← hL, if_neg (by omega), if_neg (by omega), if_neg (fun h => hd h.2), hX, hA, hD]
              exact h9
            have hd1 : ((d.toNat : Int) == 0) = false := by
              rw [beq_eq_false_iff_ne]
              intro e
              apply hd
              apply UInt8.toNat_inj.1
              show d.toNat = 0
              omega
            clear hL h8 hlt hK hM hA hD hA8 hX h0 hd
            go_enter Try.func20, Try.ntmps20
            go_wp2_with fail
            go_quiet ((go_at_call 40; exact Calls.quiet_of_same (HC.out _)))
            go_wp2
            go_ret3
            exact ⟨by rw [HN.out]; rfl, below_drewN (Below.refl _ _) _⟩

/-- What GetText tells. -/
def toldT (r : Except Int (List UInt8 × List UInt8)) : Value :=
  match r with
  | .error k => .tuple #[.string (str []), .string (str []), .int .i64 k]
  | .ok (t, r) => .tuple #[.string (str t), .string (str r), .int .i64 0]

theorem toldT_ex (r : Except Int (List UInt8 × List UInt8)) : ∃ (t : List UInt8) (R : List UInt8) (k : Int), toldT r = .tuple #[.string (str t), .string (str R), .int .i64 k] := by
  cases r with
  | error k => exact ⟨[], [], k, rfl⟩
  | ok p => exact ⟨p.1, p.2, 0, rfl⟩

theorem getText_told (s : List UInt8) (w : World) (hs : s.length ≤ 70000) : Calls Try.prog 25 #[.string (str s)] w fun e w' => e = .returned (toldT (textL s)) ∧ Below w.heap.size w w' := by
  cases hn : textL s with
  | error k => exact getText_err s k w hn (by omega)
  | ok p => exact getText_ok s p.1 p.2 w hn (by omega)

set_option maxRecDepth 100000 in
set_option maxHeartbeats 4000000 in
theorem rgetText_any (s : List UInt8) (w : World) (hs : s.length ≤ 70000) : Calls Try.prog 26 #[.string (str s)] w fun e w' => e = .returned (toldT (textL s)) ∧ Below w.heap.size w w' := by
  have HS : Hid (s.length ≤ 70000) := hs
  clear hs
  cases hn : numL s with
  | error k =>
    have hk := numL_err hn
    have hk1 : ¬ k = 0 := hk
    have HN : Hid (numL s = .error k ∧ textL s = .error k) := ⟨hn, by unfold textL; rw [hn]⟩
    clear hn hk
    go_enter Try.func26, Try.ntmps26
    go_wp2_with fail
    refine (rget_any s _ HS.out).mono ?_
    rw [HN.out.1]
    rintro e w1 ⟨rfl, b1⟩
    simp only [toldN]
    have H1 : Hid (Below w.heap.size w w1) := b1
    clear b1
    go_wp2
    go_ret3
    exact ⟨by rw [HN.out.2]; rfl, H1.out⟩
  | ok p =>
    obtain ⟨n, R⟩ := p
    have hr := numL_rest hn
    have hzR : (str R).size = R.length := str_size R
    have hRl : (R.length : Int) ≤ 70000 := by have := HS.out; omega
    have hwR : IntKind.u64.wrap (R.length : Int) = (R.length : Int) := by rw [IntKind.wrap_u64]; omega
    by_cases hlt : R.length < n
    · have hlt' : (R.length : Int) < (n : Int) := by omega
      have HN : Hid (numL s = .ok (n, R) ∧ textL s = .error 60) := ⟨hn, by unfold textL; rw [hn]; simp only [if_pos hlt]⟩
      clear hn hr hlt
      go_enter Try.func26, Try.ntmps26
      go_wp2_with fail
      refine (rget_any s _ HS.out).mono ?_
      rw [HN.out.1]
      rintro e w1 ⟨rfl, b1⟩
      simp only [toldN]
      have H1 : Hid (Below w.heap.size w w1) := b1
      clear b1
      go_wp2
      go_ret3
      exact ⟨by rw [HN.out.2]; rfl, H1.out⟩
    · have hlt' : ¬ (R.length : Int) < (n : Int) := by omega
      have hle : (n : Int) ≤ (R.length : Int) := by omega
      obtain ⟨A, hA⟩ : ∃ A, A = R.take n := ⟨_, rfl⟩
      obtain ⟨D, hD⟩ : ∃ D, D = R.drop n := ⟨_, rfl⟩
      have HN : Hid (numL s = .ok (n, R) ∧ textL s = .ok (A, D)) := ⟨hn, by unfold textL; rw [hn]; simp only [if_neg hlt]; rw [hA, hD]⟩
      have e1 := ext_str R 0 n
      rw [List.drop_zero, ← hA] at e1
      have e2 := ext_str R n R.length
      rw [List.take_of_length_le (Nat.le_refl _), ← hD] at e2
      have hwn : IntKind.i64.wrap (n : Int) = (n : Int) := IntWalk.i64_in _ ⟨by omega, by omega⟩
      clear hn hr hlt hA hD
      go_enter Try.func26, Try.ntmps26
      go_wp2_with fail
      refine (rget_any s _ HS.out).mono ?_
      rw [HN.out.1]
      rintro e w1 ⟨rfl, b1⟩
      simp only [toldN]
      have H1 : Hid (Below w.heap.size w w1) := b1
      clear b1
      go_wp2_with fail
      go_quiet (fail)
      go_wp2
      go_ret3
      exact ⟨by rw [HN.out.2]; rfl, below_drewN H1.out _⟩
end Go.Proofs.Ytmmbgfbliekkgaa
