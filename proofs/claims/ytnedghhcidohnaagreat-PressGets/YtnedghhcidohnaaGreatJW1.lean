/-
  Joined: OctS · OctEE · OctT · OctU · OctW · OctBB.
-/
import Derived.Test.YtnedghhcidohnaaGreatJV1
import Derived.Test.YtnedghhcidohnaaGreatJL1
import Derived.Deep.Cut
import Derived.Deep.CutRange
import Derived.Deep.CutBlock
import Derived.Deep.QuietTactic
import Derived.BigQuiet
import Derived.Test.YtnedghhcidohnaaGreatJN1
import Derived.Test.YtnedghhcidohnaaGreatJS1

/-! What any bytes begin by, in one word each; OctetOne, walked. -/
namespace Go.Proofs.YtnedghhcidohnaaGreat
open Go.RowKit

theorem numL_err {s : List UInt8} {k : Int} (h : numL s = .error k) : k ≠ 0 := by
  cases s with
  | nil => cases h; decide
  | cons c t =>
    simp only [numL] at h
    split at h
    · cases h; decide
    · split at h
      · cases h; decide
      · split at h
        · cases h; decide
        · cases h
theorem textL_err {s : List UInt8} {k : Int} (h : textL s = .error k) : k ≠ 0 := by
  unfold textL at h
  split at h
  · rename_i e hn; cases h; exact numL_err hn
  · split at h
    · cases h; decide
    · cases h
theorem natL_err {s : List UInt8} {k : Int} (h : natL s = .error k) : k ≠ 0 := by
  unfold natL at h
  split at h
  · rename_i e hn; cases h; exact numL_err hn
  · split at h
    · cases h; decide
    · split at h
      · cases h; decide
      · split at h
        · cases h
        · cases h; decide
theorem RatIs.err {s : List UInt8} {k : Int} (h : RatIs s (.error k)) : k ≠ 0 := by
  rcases h.fault with ⟨_, rfl⟩ | ⟨c, t, _, ⟨_, rfl⟩ | ⟨_, h1⟩ | ⟨_, _, _, _, h2⟩ | ⟨_, _, _, _, _, _, _, _, rfl⟩⟩
  · decide
  · decide
  · exact natL_err h1
  · exact natL_err h2
  · decide

theorem get_any (s : List UInt8) (w : World) (hs : s.length ≤ 700000) :
    Calls Tryz.prog 54 #[.string (str s)] w fun e w' => ∃ (n : Nat) (R : List UInt8) (k : Int), e = .returned (.tuple #[.int .u64 n, .string (str R), .int .i64 k]) ∧ n < 18446744073709551616 ∧ R.length ≤ s.length ∧ (k = 0 → putL n ++ R = s) ∧ Below w.heap.size w w' := by
  cases hn : numL s with
  | error k => exact (get_err s k w hn (by omega)).mono fun e w' ⟨h1, h2⟩ => ⟨0, [], k, h1, by decide, Nat.zero_le _, fun e => absurd e (numL_err hn), h2⟩
  | ok p =>
    obtain ⟨n, r⟩ := p
    have h3 := numL_rest hn
    exact (get_ok s n r w hn (by omega)).mono fun e w' ⟨h1, h2⟩ => ⟨n, r, 0, h1, by have := h3.2; omega, h3.1, fun _ => numL_one s n r hn, h2⟩

theorem getRat_any (s : List UInt8) (w : World) (hs : s.length ≤ 700000) :
    Calls Tryz.prog 55 #[.string (str s)] w fun e w' => ∃ (neg : Bool) (no : Option Addr) (nn : Nat) (eo : Option Addr) (en : Nat) (q : RatL) (R : List UInt8) (k : Int), e = .returned (.tuple #[.agg #[.bool neg, .slice no nn nn, .slice eo en en], .string (str R), .int .i64 k]) ∧ RatAt w' no nn nn eo en en q ∧ q.neg = neg ∧ R.length ≤ s.length ∧ (k = 0 → MayR q ∧ putR q ++ R = s) ∧ Below w.heap.size w w' := by
  obtain ⟨res, hn⟩ := RatIs.ex s
  cases res with
  | error k => exact (getRat_err s k w hn hs).mono fun e w' ⟨h1, h2⟩ => ⟨false, none, 0, none, 0, rat0, [], k, h1, RatAt.zero _, rfl, Nat.zero_le _, fun e => absurd e hn.err, h2⟩
  | ok p =>
    obtain ⟨q, r⟩ := p
    have h3 := hn.one
    have h4 := congrArg List.length h3.1
    rw [List.length_append] at h4
    exact (getRat_ok s q r w hn hs).mono fun e w' ⟨no, nn, eo, en, h1, h2, h5⟩ => ⟨q.neg, no, nn, eo, en, q, r, 0, h1, h2, rfl, by omega, fun _ => ⟨h3.2, h3.1⟩, h5⟩

theorem putR_small {q : RatL} (h : MayR q) : (putR q).length ≤ 300 := by
  unfold putR
  have h1 := putN_small h.num
  have h2 := putN_small h.den
  rw [str_size] at h1 h2
  rw [List.length_cons, List.length_append]
  omega

theorem putRat_any (neg : Bool) (no : Option Addr) (nn nc : Nat) (eo : Option Addr) (en ec : Nat) (r : RatL) (w : World) (h : RatAt w no nn nc eo en ec r) (hg : r.neg = neg) :
    Calls Tryz.prog 51 #[.agg #[.bool neg, .slice no nn nc, .slice eo en ec]] w fun e w' => ∃ (P : List UInt8) (k : Int), e = .returned (.tuple #[.string (str P), .int .i64 k]) ∧ P.length ≤ 300 ∧ (MayR r → P = putR r ∧ k = 0) ∧ (¬ MayR r → P = [] ∧ k = 1) ∧ Below w.heap.size w w' := by
  by_cases hm : MayR r
  · exact (putRat_ok neg no nn nc eo en ec r w h hg hm).mono fun e w' ⟨h1, h2⟩ => ⟨putR r, 0, h1, putR_small hm, fun _ => ⟨rfl, rfl⟩, fun hn => absurd hm hn, h2⟩
  · exact (putRat_bad neg no nn nc eo en ec r w h hg hm).mono fun e w' ⟨h1, h2⟩ => ⟨[], 1, h1, Nat.zero_le _, fun hn => absurd hn hm, fun _ => ⟨rfl, rfl⟩, h2⟩

theorem put_n (n : Nat) (w : World) (h : n < 18446744073709551616) : Calls Tryz.prog 49 #[.int .u64 (n : Int)] w fun e w' => e = .returned (.string (str (putL n))) ∧ Below w.heap.size w w' := by
  have := put_s (n : Int) w (by omega) (by unfold BB; omega)
  rwa [Int.toNat_natCast] at this

theorem putL_small (n : Nat) (h : n < 18446744073709551616) : (putL n).length ≤ 9 := by
  rw [putL_length]
  have := cntB_le n (by omega)
  omega

end Go.Proofs.YtnedghhcidohnaaGreat

/-! What was put is got again: numbers, texts, naturals, ratios. -/
namespace Go.Proofs.YtnedghhcidohnaaGreat
open Go.RowKit

theorem limbs_back : ∀ l : List Int, Limbs l → limbsL (limbB l) l.length = l.reverse
  | [], _ => rfl
  | x :: l, h => by
    have e : limbB (x :: l) = lowB x.toNat 8 ++ limbB l := by simp [limbB]
    have h8 : (lowB x.toNat 8).length = 8 := lowB_length _ _
    have hx := h x (List.mem_cons_self)
    have hl : Limbs l := fun y hy => h y (List.mem_cons_of_mem _ hy)
    rw [e, List.length_cons, limbsL_succ _ _ (by rw [List.length_append, h8, limbB_length]; omega), List.drop_left' h8, List.take_left' h8, limbs_back l hl, List.reverse_cons, join_low]
    congr 2
    have h256 : (256 : Nat) ^ 8 = 18446744073709551616 := by decide
    rw [h256]
    unfold BB at hx
    omega

theorem natL_put (xs : List Int) (hm : May xs) (hl : Limbs xs) (r : List UInt8) : natL (putN xs ++ r) = .ok (xs, r) := by
  have h8 := hm.1
  have hr : Limbs xs.reverse := fun y hy => hl y (List.mem_reverse.1 hy)
  have hb := limbs_back xs.reverse hr
  rw [List.length_reverse, List.reverse_reverse] at hb
  have hlen : (limbB xs.reverse).length = 8 * xs.length := by rw [limbB_length, List.length_reverse]
  unfold natL putN
  rw [List.append_assoc, numL_put _ (by omega)]
  simp only
  rw [if_neg (by omega), if_neg (by rw [List.length_append, hlen]; omega), List.take_left' hlen, List.drop_left' hlen, hb, if_pos ((mayB_iff xs).2 hm)]

theorem textL_put (s : List UInt8) (hs : s.length ≤ 800000) (r : List UInt8) : textL (putT s ++ r) = .ok (s, r) := by
  unfold textL putT
  rw [List.append_assoc, numL_put _ (by omega)]
  simp only
  rw [if_neg (by rw [List.length_append]; omega), List.take_left' rfl, List.drop_left' rfl]

theorem RatIs.put (q : RatL) (hm : MayR q) (hl : LimR q) (r : List UInt8) : RatIs (putR q ++ r) (.ok (q, r)) := by
  obtain ⟨g, x, y⟩ := q
  have h1 := natL_put x hm.num hl.1 (putN y ++ r)
  have h2 := natL_put y hm.den hl.2 r
  have e : putR ⟨g, x, y⟩ ++ r = (if g then 1 else 0) :: (putN x ++ (putN y ++ r)) := by
    unfold putR
    rw [List.cons_append, List.append_assoc]
  rw [e]
  cases g with
  | false =>
    show RatIs ((0 : UInt8) :: (putN x ++ (putN y ++ r))) _
    unfold RatIs
    simp only
    rw [if_neg (by decide), h1]
    simp only
    rw [h2]
    exact ⟨fun _ => rfl, fun h => absurd hm h⟩
  | true =>
    show RatIs ((1 : UInt8) :: (putN x ++ (putN y ++ r))) _
    unfold RatIs
    simp only
    rw [if_neg (by decide), h1]
    simp only
    rw [h2]
    exact ⟨fun _ => rfl, fun h => absurd hm h⟩
end Go.Proofs.YtnedghhcidohnaaGreat

/-! The reference's number, Get and GetText of layer 6. -/
namespace Go.Proofs.YtnedghhcidohnaaGreat
open Go.RowKit

theorem take_nextB (s : List UInt8) (k : Nat) (h : k < s.length) : s.take (k + 1) = s.take k ++ [s[k]] := by
  rw [List.take_add_one, List.getElem?_eq_getElem h]
  rfl

set_option maxRecDepth 100000 in
set_option maxHeartbeats 2000000 in
theorem rnumber_any (t : List UInt8) (w : World) (hl : t.length ≤ 8) :
    Calls Tryz.prog 56 #[.string (str t)] w fun e w' => e = .returned (.int .u64 (joinL t : Nat)) ∧ w' = w := by
  have hsz : (str t).size = t.length := str_size t
  obtain ⟨L, hL⟩ : ∃ L, L = t.length := ⟨_, rfl⟩
  rw [← hL] at hsz
  have HL : Hid (L = t.length) := hL
  have hl2 : (L : Int) ≤ 8 := by omega
  clear hL hl
  go_enter Tryz.func56, Tryz.ntmps56
  go_wp2
  go_loopw [3, 4] (fun d i wr => ∃ (k v : Nat), k ≤ L ∧ d = .int .u64 v ∧ i = .int .i64 k ∧ wr = w ∧ Hid (v = joinL (t.take k))) (fun _ i _ => L - (intOf i).toNat)
  case atStart => exact ⟨0, 0, Nat.zero_le _, rfl, rfl, rfl, rfl⟩
  case round =>
    obtain ⟨k, v, hk, rfl, rfl, rfl, hv⟩ := hrel
    by_cases hlt : k < L
    · have hlt' : (k : Int) < (L : Int) := by omega
      have hkl : k < t.length := by have := HL.out; omega
      have hks : k < (str t).size := by omega
      have hst : (str t)[k] = t[k] := rfl
      obtain ⟨b, hb⟩ : ∃ b, b = t[k] := ⟨_, rfl⟩
      rw [← hb] at hst
      have hlen : (t.take k).length ≤ 7 := by simp; omega
      have hv4 : v < 72057594037927936 := by
        rw [hv.out]
        have := joinL_lt (t.take k)
        have h7 : 256 ^ (t.take k).length ≤ 256 ^ 7 := Nat.pow_le_pow_right (by decide) hlen
        have e7 : (256 : Nat) ^ 7 = 72057594037927936 := by decide
        omega
      have hbt := b.toNat_lt
      have HV : Hid (v * 256 + b.toNat = joinL (t.take (k + 1))) := by
        have h9 : v * 256 + b.toNat = joinL (t.take (k + 1)) := by rw [take_nextB t k hkl, joinL_snoc, ← hv.out, hb]; rfl
        exact h9
      have hv5 : (v : Int) < 72057594037927936 := by omega
      have hb5 : (b.toNat : Int) < 256 := by omega
      have x1 : IntKind.u64.wrap ((v : Int) * 256) = (v : Int) * 256 := by rw [IntKind.wrap_u64]; omega
      have x2 : IntKind.u64.wrap (b.toNat : Int) = (b.toNat : Int) := by rw [IntKind.wrap_u64]; omega
      have x3 : IntKind.u64.wrap ((v : Int) * 256 + (b.toNat : Int)) = (v : Int) * 256 + (b.toNat : Int) := by rw [IntKind.wrap_u64]; omega
      clear hv hb hv4 hkl hlen hbt
      go_wp2
      go_roundw
      case rel => exact ⟨k + 1, v * 256 + b.toNat, by omega, by go_num, by go_num, by first | rfl | trivial, HV.out⟩
      case measure => simp [intOf]; omega
    · have hkt : k = L := by omega
      have h := hv.out
      rw [hkt, HL.out, List.take_length] at h
      subst h
      clear hv
      go_wp2
      go_ret
      exact ⟨rfl, rfl⟩


/-- What Get tells. -/
def toldN (r : Except Int (Nat × List UInt8)) : Value :=
  match r with
  | .error k => .tuple #[.int .u64 0, .string (str []), .int .i64 k]
  | .ok (n, r) => .tuple #[.int .u64 (n : Int), .string (str r), .int .i64 0]

theorem toldN_ex (r : Except Int (Nat × List UInt8)) : ∃ (n : Nat) (R : List UInt8) (k : Int), toldN r = .tuple #[.int .u64 (n : Int), .string (str R), .int .i64 k] := by
  cases r with
  | error k => exact ⟨0, [], k, rfl⟩
  | ok p => exact ⟨p.1, p.2, 0, rfl⟩

theorem get_told (s : List UInt8) (w : World) (hs : s.length ≤ 700000) : Calls Tryz.prog 54 #[.string (str s)] w fun e w' => e = .returned (toldN (numL s)) ∧ Below w.heap.size w w' := by
  cases hn : numL s with
  | error k => exact get_err s k w hn (by omega)
  | ok p => exact get_ok s p.1 p.2 w hn (by omega)

theorem wrap_byte (c : UInt8) : IntKind.i64.wrap (c.toNat : Int) = (c.toNat : Int) := IntWalk.i64_in _ ⟨by omega, by have := c.toNat_lt; omega⟩

set_option maxRecDepth 100000 in
set_option maxHeartbeats 4000000 in
theorem rget_any (s : List UInt8) (w : World) (hs : s.length ≤ 700000) : Calls Tryz.prog 31 #[.string (str s)] w fun e w' => e = .returned (toldN (numL s)) ∧ Below w.heap.size w w' := by
  have hsz : (str s).size = s.length := str_size s
  cases s with
  | nil =>
    have e0 : (str []).size = 0 := rfl
    clear hsz
    go_enter Tryz.func31, Tryz.ntmps31
    go_wp2
    go_ret3
    exact ⟨rfl, Below.refl _ _⟩
  | cons c t =>
    have hz : 0 < (str (c :: t)).size := by rw [str_size]; exact Nat.zero_lt_succ _
    have hz2 : (str (c :: t))[0] = c := rfl
    have hwc := wrap_byte c
    obtain ⟨L, hL⟩ : ∃ L, L = t.length := ⟨_, rfl⟩
    have hsz2 : (str (c :: t)).size = L + 1 := by rw [hL]; exact hsz
    have hl : L ≤ 699999 := by simp at hs; omega
    have g0 : ¬ ((L : Int) + 1 = 0) := by omega
    have g1 : (L : Int) ≤ 699999 := by omega
    have hc9 : (c.toNat : Int) < 256 := by have := c.toNat_lt; omega
    clear hsz hs
    by_cases h8 : 8 < c.toNat
    · have h8' : (8 : Int) < (c.toNat : Int) := by omega
      have HN : Hid (numL (c :: t) = .error 62) := by
        have h9 : numL (c :: t) = .error 62 := by simp only [numL]; rw [if_pos h8]
        exact h9
      clear h8 hL
      go_enter Tryz.func31, Tryz.ntmps31
      go_wp2
      go_ret3
      exact ⟨by rw [HN.out]; rfl, Below.refl _ _⟩
    · have h8' : ¬ (8 : Int) < (c.toNat : Int) := by omega
      obtain ⟨K, hK⟩ : ∃ K, K = c.toNat := ⟨_, rfl⟩
      have hK1 : (c.toNat : Int) = (K : Int) := by omega
      by_cases hlt : L < K
      · have hlt' : (L : Int) < (K : Int) := by omega
        have HN : Hid (numL (c :: t) = .error 60) := by
          have h9 : numL (c :: t) = .error 60 := by simp only [numL]; rw [if_neg h8, ← hK, ← hL, if_pos hlt]
          exact h9
        have g2 : (L : Int) + 1 < 1 + (K : Int) := by omega
        have g3 : ¬ (8 : Int) < (K : Int) := by omega
        rw [hK1] at hwc h8'
        clear h8 hlt hK hL
        go_enter Tryz.func31, Tryz.ntmps31
        go_wp2
        go_ret3
        exact ⟨by rw [HN.out]; rfl, Below.refl _ _⟩
      · have hge : K ≤ L := by omega
        have hge' : (K : Int) ≤ (L : Int) := by omega
        have g2 : ¬ (L : Int) + 1 < 1 + (K : Int) := by omega
        have g3 : ¬ (8 : Int) < (K : Int) := by omega
        obtain ⟨M, hM⟩ : ∃ M, M = 1 + K := ⟨_, rfl⟩
        have m1 : IntKind.i64.wrap (1 + (K : Int)) = (M : Int) := by rw [show (1 : Int) + (K : Int) = (M : Int) by omega]; exact IntWalk.i64_in _ ⟨by omega, by omega⟩
        have m2 : (1 : Int) + (K : Int) = (M : Int) := by omega
        have m3 : IntKind.i64.wrap (M : Int) = (M : Int) := IntWalk.i64_in _ ⟨by omega, by omega⟩
        have m4 : (M : Int) ≤ (L : Int) + 1 := by omega
        have m5 : (1 : Int) ≤ (M : Int) := by omega
        have m6 : ¬ (L : Int) + 1 < (M : Int) := by omega
        obtain ⟨A, hA⟩ : ∃ A, A = t.take K := ⟨_, rfl⟩
        obtain ⟨D, hD⟩ : ∃ D, D = t.drop K := ⟨_, rfl⟩
        have e1 : (str (c :: t)).extract 1 M = str A := by
          rw [ext_str, hM, hA, Nat.add_comm 1 K]
          rfl
        have e2 : (str (c :: t)).extract M (L + 1) = str D := by
          have h9 := ext_str (c :: t) M (L + 1)
          rw [List.take_of_length_le (by simp; omega), hM, Nat.add_comm 1 K] at h9
          rw [hM, Nat.add_comm 1 K, hD]
          exact h9
        have hA8 : A.length ≤ 8 := by rw [hA]; simp; omega
        obtain ⟨X, hX⟩ : ∃ X, X = joinL A := ⟨_, rfl⟩
        have HC : Hid (∀ w1, Calls Tryz.prog 56 #[.string (str A)] w1 fun e w' => e = .returned (.int .u64 (X : Int)) ∧ w' = w1) := by
          have a1 := fun w1 => rnumber_any A w1 hA8
          rw [← hX] at a1
          exact a1
        rw [hK1] at hwc h8'
        by_cases h0 : K = 0
        · have HN : Hid (numL (c :: t) = .ok (X, D)) := by
            have h9 : numL (c :: t) = .ok (X, D) := by simp only [numL]; rw [← hK, ← hL, if_neg (by omega), if_neg (by omega), if_neg (by omega), hX, hA, hD]
            exact h9
          have h0' : ¬ (0 : Int) < (K : Int) := by omega
          have h0b : decide ((0 : Int) < (K : Int)) = false := decide_eq_false h0'
          clear hL h8 hlt hK hM hA hD hA8 hX h0
          go_enter Tryz.func31, Tryz.ntmps31
          go_wp2_with fail
          go_quiet ((go_at_call 56; exact Calls.quiet_of_same (HC.out _)))
          go_wp2
          go_ret3
          exact ⟨by rw [HN.out]; rfl, below_drewN (Below.refl _ _) _⟩
        · have h0' : (0 : Int) < (K : Int) := by omega
          obtain ⟨d, t', rfl⟩ : ∃ d t', t = d :: t' := by
            cases t with
            | nil => simp at hL; omega
            | cons d t' => exact ⟨d, t', rfl⟩
          have hz3 : (str (c :: d :: t'))[1]'(by rw [str_size]; simp) = d := rfl
          have hz4 : 1 < (str (c :: d :: t')).size := by rw [str_size]; simp
          have hz5 : (1 : Int) < (L : Int) + 1 := by omega
          by_cases hd : d = 0
          · have HN : Hid (numL (c :: d :: t') = .error 62) := by
              have h9 : numL (c :: d :: t') = .error 62 := by simp only [numL]; rw [← hK, ← hL, if_neg (by omega), if_neg (by omega), if_pos ⟨by omega, by rw [hd]; rfl⟩]
              exact h9
            have hd1 : ((d.toNat : Int) == 0) = true := by rw [hd]; rfl
            clear hL h8 hlt hK hM hA hD hA8 hX h0 hd
            go_enter Tryz.func31, Tryz.ntmps31
            go_wp2
            go_ret3
            exact ⟨by rw [HN.out]; rfl, Below.refl _ _⟩
          · have HN : Hid (numL (c :: d :: t') = .ok (X, D)) := by
              have h9 : numL (c :: d :: t') = .ok (X, D) := by simp only [numL]; rw [← hK, ← hL, if_neg (by omega), if_neg (by omega), if_neg (fun h => hd h.2), hX, hA, hD]
              exact h9
            have hd1 : ((d.toNat : Int) == 0) = false := by
              rw [beq_eq_false_iff_ne]
              intro e
              apply hd
              apply UInt8.toNat_inj.1
              show d.toNat = 0
              omega
            clear hL h8 hlt hK hM hA hD hA8 hX h0 hd
            go_enter Tryz.func31, Tryz.ntmps31
            go_wp2_with fail
            go_quiet ((go_at_call 56; exact Calls.quiet_of_same (HC.out _)))
            go_wp2
            go_ret3
            exact ⟨by rw [HN.out]; rfl, below_drewN (Below.refl _ _) _⟩

/-- What GetText tells. -/
def toldT (r : Except Int (List UInt8 × List UInt8)) : Value :=
  match r with
  | .error k => .tuple #[.string (str []), .string (str []), .int .i64 k]
  | .ok (t, r) => .tuple #[.string (str t), .string (str r), .int .i64 0]

theorem toldT_ex (r : Except Int (List UInt8 × List UInt8)) : ∃ (t : List UInt8) (R : List UInt8) (k : Int), toldT r = .tuple #[.string (str t), .string (str R), .int .i64 k] := by
  cases r with
  | error k => exact ⟨[], [], k, rfl⟩
  | ok p => exact ⟨p.1, p.2, 0, rfl⟩

end Go.Proofs.YtnedghhcidohnaaGreat

/-! The reference's GetNat of layer 6; Same of layer 2. -/
namespace Go.Proofs.YtnedghhcidohnaaGreat
open Go.RowKit

/-- What GetNat tells. -/
def NatTold (r : Except Int (List Int × List UInt8)) (xs : List Int) (R : List UInt8) (k : Int) : Prop :=
  match r with
  | .error e => xs = [] ∧ R = [] ∧ k = e
  | .ok (x, r) => xs = x ∧ R = r ∧ k = 0

theorem NatTold.one {r : Except Int (List Int × List UInt8)} {xs ys : List Int} {R S : List UInt8} {k j : Int} (h : NatTold r xs R k) (h2 : NatTold r ys S j) : xs = ys ∧ R = S ∧ k = j := by
  unfold NatTold at h h2
  cases r with
  | error e => exact ⟨h.1.trans h2.1.symm, h.2.1.trans h2.2.1.symm, h.2.2.trans h2.2.2.symm⟩
  | ok p => exact ⟨h.1.trans h2.1.symm, h.2.1.trans h2.2.1.symm, h.2.2.trans h2.2.2.symm⟩

theorem limb_chunk (R : List UInt8) (n j i : Nat) (h : 8 * n ≤ R.length) (hi : n = i + 1 + j) : limbAt (R.take (8 * n)) j = ((joinL ((R.take (8 * i + 8)).drop (8 * i)) : Nat) : Int) := by
  have hl : (R.take (8 * n)).length = 8 * n := by rw [List.length_take, Nat.min_eq_left h]
  unfold limbAt
  rw [hl, List.take_take, show 8 * n - 8 * j = 8 * i + 8 by omega, Nat.min_eq_left (by omega)]
  rfl

theorem cell_one_row (W : World) (v : Value) (t : TypeId) : ∀ j u, [v][j]? = some u → (W.alloc (.cells #[v] t)).cell? ((⟨W.heap.size, 0, none⟩ : Addr).add j) = some u := by
  intro j u h
  have hadd : (⟨W.heap.size, 0, none⟩ : Addr).add j = ⟨W.heap.size, j, none⟩ := by unfold Addr.add; split <;> simp_all
  rw [hadd, cell_of_row _ W.heap.size j #[v] t (0, 0) (heap_alloc_new W _)]
  simpa using h

theorem limbsL_next (t : List UInt8) (j : Nat) : limbsL t (j + 1) = limbsL t j ++ [limbAt t j] := by
  unfold limbsL
  rw [List.range_succ, List.map_append]
  rfl

set_option maxRecDepth 100000 in
set_option maxHeartbeats 8000000 in
theorem rgetNat_any (s : List UInt8) (w : World) (hs : s.length ≤ 700000) :
    Calls Tryz.prog 57 #[.string (str s)] w fun e w' => ∃ (ao : Option Addr) (m c : Nat) (xs : List Int) (R : List UInt8) (k : Int), e = .returned (.tuple #[.slice ao m c, .string (str R), .int .i64 k]) ∧ RowAt w' ao m c xs ∧ NatTold (natL s) xs R k ∧ Below w.heap.size w w' := by
  have HS : Hid (s.length ≤ 700000) := hs
  clear hs
  cases hn : numL s with
  | error k =>
    have hk1 : ¬ k = 0 := numL_err hn
    have HN : Hid (numL s = .error k ∧ NatTold (natL s) [] [] k) := ⟨hn, by unfold natL; rw [hn]; exact ⟨rfl, rfl, rfl⟩⟩
    clear hn
    go_enter Tryz.func57, Tryz.ntmps57
    go_wp2_with fail
    refine (rget_any s _ HS.out).mono ?_
    rw [HN.out.1]
    rintro e w1 ⟨rfl, b1⟩
    simp only [toldN]
    have H1 : Hid (Below w.heap.size w w1) := b1
    clear b1
    go_wp2
    go_ret3
    exact ⟨none, 0, 0, [], [], k, rfl, RowAt.nil _, HN.out.2, H1.out⟩
  | ok p =>
    obtain ⟨n, R⟩ := p
    have hr := numL_rest hn
    have hzR : (str R).size = R.length := str_size R
    have hRl : (R.length : Int) ≤ 700000 := by have := HS.out; omega
    by_cases h8 : 8 < n
    · have h8' : (8 : Int) < (n : Int) := by omega
      have HN : Hid (numL s = .ok (n, R) ∧ NatTold (natL s) [] [] 62) := ⟨hn, by unfold natL; rw [hn]; simp only [if_pos h8]; exact ⟨rfl, rfl, rfl⟩⟩
      clear hn hr h8
      go_enter Tryz.func57, Tryz.ntmps57
      go_wp2_with fail
      refine (rget_any s _ HS.out).mono ?_
      rw [HN.out.1]
      rintro e w1 ⟨rfl, b1⟩
      simp only [toldN]
      have H1 : Hid (Below w.heap.size w w1) := b1
      clear b1
      go_wp2
      go_ret3
      exact ⟨none, 0, 0, [], [], 62, rfl, RowAt.nil _, HN.out.2, H1.out⟩
    · have h8' : ¬ (8 : Int) < (n : Int) := by omega
      have h8b : (n : Int) ≤ 8 := by omega
      have hwn : IntKind.i64.wrap (n : Int) = (n : Int) := IntWalk.i64_in _ ⟨by omega, by omega⟩
      obtain ⟨M, hM⟩ : ∃ M, M = 8 * n := ⟨_, rfl⟩
      have m2 : (8 : Int) * (n : Int) = (M : Int) := by omega
      have m3 : IntKind.i64.wrap (M : Int) = (M : Int) := IntWalk.i64_in _ ⟨by omega, by omega⟩
      by_cases hlt : R.length < M
      · have hlt' : (R.length : Int) < (M : Int) := by omega
        have HN : Hid (numL s = .ok (n, R) ∧ NatTold (natL s) [] [] 60) := ⟨hn, by unfold natL; rw [hn]; simp only [if_neg h8]; rw [← hM, if_pos hlt]; exact ⟨rfl, rfl, rfl⟩⟩
        clear hn hr h8 hlt hM
        go_enter Tryz.func57, Tryz.ntmps57
        go_wp2_with fail
        refine (rget_any s _ HS.out).mono ?_
        rw [HN.out.1]
        rintro e w1 ⟨rfl, b1⟩
        simp only [toldN]
        have H1 : Hid (Below w.heap.size w w1) := b1
        clear b1
        go_wp2
        go_ret3
        exact ⟨none, 0, 0, [], [], 60, rfl, RowAt.nil _, HN.out.2, H1.out⟩
      · have hlt' : ¬ (R.length : Int) < (M : Int) := by omega
        have hle : (M : Int) ≤ (R.length : Int) := by omega
        have hlt5 : decide (R.length < M) = false := decide_eq_false hlt
        have hlt6 : decide ((R.length : Int) < (M : Int)) = false := decide_eq_false hlt'
        have HN : Hid (numL s = .ok (n, R) ∧ n ≤ 8 ∧ M ≤ R.length ∧ M = 8 * n ∧ natL s = if mayB (limbsL (R.take M) n) then .ok (limbsL (R.take M) n, R.drop M) else .error 62) := ⟨hn, by omega, by omega, hM, by unfold natL; rw [hn]; simp only [if_neg h8]; rw [← hM, if_neg hlt]⟩
        obtain ⟨i0, hi, hz0, hz1, hz2⟩ := info_parts (show (Tryz.prog.info? 56).map (fun i => (i.zero, i.size, i.bytes)) = some (some (.int .u64 0), 1, 8) by kernel_rfl)
        obtain ⟨D, hD⟩ : ∃ D, D = R.drop M := ⟨_, rfl⟩
        have e2 := ext_str R M R.length
        rw [List.take_of_length_le (Nat.le_refl _), ← hD] at e2
        have HD : Hid (D = R.drop M) := hD
        clear hn hr h8 hlt hM hD
        go_enter Tryz.func57, Tryz.ntmps57
        go_wp2_with fail
        refine (rget_any s _ HS.out).mono ?_
        rw [HN.out.1]
        rintro e w1 ⟨rfl, b1⟩
        simp only [toldN]
        have H1 : Hid (Below w.heap.size w w1) := b1
        clear b1
        go_wp2_with fail
        go_loopg [9, 10] n (fun gk s9 s10 wr => ∃ (j g cap : Nat), j ≤ n ∧ n - j ≤ gk ∧ s10 = .int .i64 ((n : Int) - 1 - (j : Int)) ∧ s9 = .slice (some ⟨g, 0, none⟩) j cap ∧ Hid (OwnR wr w1.heap.size g j cap (limbsL (R.take M) j) ∧ Below w1.heap.size w1 wr))
        case atStart => exact ⟨0, w1.heap.size, 0, Nat.zero_le _, by omega, by go_num, rfl, OwnR.nil _, (Below.refl _ _).alloc (Nat.le_refl _) _⟩
        case round =>
          obtain ⟨j, g, cap, hj, hjn, rfl, rfl, hO⟩ := hrel
          by_cases h0 : j = n
          · subst h0
            have e0 : (j : Int) - 1 - (j : Int) = -1 := by omega
            rw [e0]
            have hrow := hO.out.1.row (limbsL_limbs _ _)
            obtain ⟨b, hb⟩ : ∃ b, b = mayB (limbsL (R.take M) j) := ⟨_, rfl⟩
            have HR : Hid (RowAt wr (some ⟨g, 0, none⟩) j cap (limbsL (R.take M) j) ∧ Below w.heap.size w wr ∧ b = mayB (limbsL (R.take M) j)) := ⟨hrow, chain H1.out hO.out.2, hb⟩
            clear hO e0 hrow hb
            go_wp2_with fail
            refine (rmay_val _ _ _ _ _ HR.out.1 b (by rw [HR.out.2.2]; exact mayB_iff _)).mono ?_
            rintro e w2 ⟨rfl, rfl⟩
            cases b with
            | true =>
              have hN2 := HN.out.2.2.2.2
              rw [← HR.out.2.2, if_pos rfl] at hN2
              have HF : Hid (NatTold (natL s) (limbsL (R.take M) j) D 0) := by rw [hN2, HD.out]; exact ⟨rfl, rfl, rfl⟩
              clear hN2
              go_wp2_with fail
              go_quiet (fail)
              go_wp2
              go_ret3
              exact ⟨_, _, _, _, D, 0, rfl, HR.out.1.below (below_drewN (Below.refl _ _) _), HF.out, below_drewN HR.out.2.1 _⟩
            | false =>
              have hN2 := HN.out.2.2.2.2
              rw [← HR.out.2.2, if_neg (by decide)] at hN2
              have HF : Hid (NatTold (natL s) [] [] 62) := by rw [hN2]; exact ⟨rfl, rfl, rfl⟩
              clear hN2
              go_wp2
              go_ret3
              exact ⟨none, 0, 0, [], [], 62, rfl, RowAt.nil _, HF.out, HR.out.2.1⟩
          · obtain ⟨i, hi9⟩ : ∃ i, n = i + 1 + j := ⟨n - 1 - j, by omega⟩
            have hij : (n : Int) - 1 - (j : Int) = (i : Int) := by omega
            rw [hij]
            obtain ⟨P, hP⟩ : ∃ P, P = 8 * i := ⟨_, rfl⟩
            obtain ⟨Q, hQ⟩ : ∃ Q, Q = 8 * i + 8 := ⟨_, rfl⟩
            obtain ⟨C, hC⟩ : ∃ C, C = (R.take Q).drop P := ⟨_, rfl⟩
            have e1 := ext_str R P Q
            rw [← hC] at e1
            have hC8 : C.length ≤ 8 := by rw [hC]; simp; omega
            obtain ⟨X, hX⟩ : ∃ X, X = joinL C := ⟨_, rfl⟩
            have hch := limb_chunk R n j i (by have := HN.out.2.2.1; have := HN.out.2.2.2.1; omega) hi9
            rw [← HN.out.2.2.2.1, ← hQ, ← hP, ← hC, ← hX] at hch
            have p1 : (8 : Int) * (i : Int) = (P : Int) := by omega
            have p2 : (P : Int) + 8 = (Q : Int) := by omega
            have p3 : IntKind.i64.wrap (P : Int) = (P : Int) := IntWalk.i64_in _ ⟨by omega, by omega⟩
            have p4 : IntKind.i64.wrap (Q : Int) = (Q : Int) := IntWalk.i64_in _ ⟨by omega, by omega⟩
            have p5 : (P : Int) ≤ (Q : Int) := by omega
            have p6 : (Q : Int) ≤ (R.length : Int) := by have := HN.out.2.2.1; have := HN.out.2.2.2.1; omega
            have hi1 : (0 : Int) ≤ (i : Int) := by omega
            have hi2 : (i : Int) ≤ 7 := by omega
            have hj9 : j ≤ 8 := by omega
            have HK : Hid (n = i + 1 + j ∧ X = joinL C ∧ C.length ≤ 8 ∧ limbsL (R.take M) (j + 1) = limbsL (R.take M) j ++ [(X : Int)] ∧ n - j ≤ gk ∧ OwnR wr w1.heap.size g j cap (limbsL (R.take M) j) ∧ Below w1.heap.size w1 wr) := ⟨hi9, hX, hC8, by rw [limbsL_next, hch], hjn, hO.out.1, hO.out.2⟩
            clear hi9 hX hC8 hch hP hQ hC hij hO h0 hjn hj
            go_wp2_with fail
            refine (rnumber_any C _ HK.out.2.2.1).mono ?_
            rw [← HK.out.2.1]
            rintro e w2 ⟨rfl, rfl⟩
            have HO : Hid (OwnR w2 w1.heap.size g j cap (limbsL (R.take M) j) ∧ Below w1.heap.size w1 w2) := HK.out.2.2.2.2.2
            go_wp2_with (at_builtin; refine wpList_append_own _ rfl (.tmp 36) (.tmp 45) 43 rfl w1.heap.size 56 i0 (.int .u64 0) 1 8 (by kernel_rfl) hi hz0 hz1 hz2 rfl (by decide) _ _ _ rfl (World.ownsRow.alloc HO.out.1 _) ⟨w2.heap.size, 0, none⟩ 1 1 [.int .u64 (X : Int)] rfl rfl (cell_one_row _ _ _) (by simp [Value.oneCell']) (by unfold maxLen; omega) (by omega) (by have := HO.out.2.size; simp; omega) ?_; intro v' w3 ho3 hg3 hn3; obtain ⟨g', cap', rfl⟩ := ownsRow_succ ho3; have H3 : Hid (w3.ownsRow w1.heap.size 56 1 (.slice (some ⟨g', 0, none⟩) (j + 1) cap') (j + 1) ((limbsL (R.take M) j).map (Value.int .u64) ++ [.int .u64 (X : Int)]) ∧ (w2.alloc (.cells #[.int .u64 (X : Int)] 56)).grownBy w3 (some g)) := ⟨ho3, hg3⟩; clear ho3 hg3 hn3)
            go_roundg (n - (j + 1))
            case measure => have := HK.out.1; have := HK.out.2.2.2.2.1; omega
            case rel =>
              refine ⟨j + 1, g', cap', by have := HK.out.1; omega, Nat.le_refl _, ?_, rfl, ?_, ?_⟩
              · congr 1
                have := HK.out.1
                omega
              · rw [HK.out.2.2.2.1]
                unfold OwnR
                rw [List.map_append]
                exact H3.out.1
              · exact below_grow (HO.out.2.alloc HO.out.2.size _) H3.out.2 HO.out.1.lt.1
end Go.Proofs.YtnedghhcidohnaaGreat

/-! The reference's GetRat of layer 6. -/
namespace Go.Proofs.YtnedghhcidohnaaGreat
open Go.RowKit

/-- What GetRat tells. -/
def RatTold (r : Except Int (RatL × List UInt8)) (q : RatL) (R : List UInt8) (k : Int) : Prop :=
  match r with
  | .error e => q = rat0 ∧ R = [] ∧ k = e
  | .ok (x, r) => q = x ∧ R = r ∧ k = 0

theorem RatTold.one {r : Except Int (RatL × List UInt8)} {p q : RatL} {R S : List UInt8} {k j : Int} (h : RatTold r p R k) (h2 : RatTold r q S j) : p = q ∧ R = S ∧ k = j := by
  unfold RatTold at h h2
  cases r with
  | error e => exact ⟨h.1.trans h2.1.symm, h.2.1.trans h2.2.1.symm, h.2.2.trans h2.2.2.symm⟩
  | ok p => exact ⟨h.1.trans h2.1.symm, h.2.1.trans h2.2.1.symm, h.2.2.trans h2.2.2.symm⟩

theorem getRat_told (s : List UInt8) (res : Except Int (RatL × List UInt8)) (w : World) (hn : RatIs s res) (hs : s.length ≤ 700000) :
    Calls Tryz.prog 55 #[.string (str s)] w fun e w' => ∃ (no : Option Addr) (nn nc : Nat) (eo : Option Addr) (en ec : Nat) (q : RatL) (R : List UInt8) (k : Int), e = .returned (.tuple #[.agg #[.bool q.neg, .slice no nn nc, .slice eo en ec], .string (str R), .int .i64 k]) ∧ RatAt w' no nn nc eo en ec q ∧ RatTold res q R k ∧ Below w.heap.size w w' := by
  cases res with
  | error k => exact (getRat_err s k w hn hs).mono fun e w' ⟨h1, h2⟩ => ⟨none, 0, 0, none, 0, 0, rat0, [], k, h1, RatAt.zero _, ⟨rfl, rfl, rfl⟩, h2⟩
  | ok p =>
    obtain ⟨q, r⟩ := p
    exact (getRat_ok s q r w hn hs).mono fun e w' ⟨no, nn, eo, en, h1, h2, h5⟩ => ⟨no, nn, nn, eo, en, en, q, r, 0, h1, h2, ⟨rfl, rfl, rfl⟩, h5⟩

set_option maxRecDepth 100000 in
set_option maxHeartbeats 8000000 in
theorem rgetRat_any (s : List UInt8) (res : Except Int (RatL × List UInt8)) (w : World) (hn : RatIs s res) (hs : s.length ≤ 700000) :
    Calls Tryz.prog 32 #[.string (str s)] w fun e w' => ∃ (no : Option Addr) (nn nc : Nat) (eo : Option Addr) (en ec : Nat) (q : RatL) (R : List UInt8) (k : Int), e = .returned (.tuple #[.agg #[.bool q.neg, .slice no nn nc, .slice eo en ec], .string (str R), .int .i64 k]) ∧ RatAt w' no nn nc eo en ec q ∧ RatTold res q R k ∧ Below w.heap.size w w' := by
  have hbx := RBox.new w false none 0 0 none 0 0
  have HB : Hid (RBox (w.alloc (.cells #[.bool false, .slice none 0 0, .slice none 0 0] 45)) w.heap.size false none 0 0 none 0 0 ∧ Below w.heap.size w (w.alloc (.cells #[.bool false, .slice none 0 0, .slice none 0 0] 45))) := ⟨hbx, (Below.refl _ _).alloc (Nat.le_refl _) _⟩
  have f0 := hbx.f 0
  have f1 := hbx.f 1
  have f2 := hbx.f 2
  have c0 := hbx.c0
  have c1 := hbx.c1
  have c2 := hbx.c2
  clear hbx
  cases s with
  | nil =>
    have HN : Hid (RatTold res rat0 [] 60) := by
      have h9 : res = .error 60 := hn
      rw [h9]
      exact ⟨rfl, rfl, rfl⟩
    have e0 : (str []).size = 0 := rfl
    clear hn hs
    go_enter Tryz.func32, Tryz.ntmps32
    go_wp2
    refine bodyPost_ret (results_g rfl _ _ _ HB.out.1 rfl rfl rfl) rfl ?_
    exact ⟨none, 0, 0, none, 0, 0, rat0, [], 60, rfl, RatAt.zero _, HN.out, HB.out.2⟩
  | cons c t =>
    have hsz : (str (c :: t)).size = t.length + 1 := by rw [str_size]; rfl
    have hz : 0 < (str (c :: t)).size := by rw [str_size]; exact Nat.zero_lt_succ _
    have hz2 : (str (c :: t))[0] = c := rfl
    have hl : t.length ≤ 699999 := by simp at hs; omega
    have g0 : ¬ ((t.length : Int) + 1 = 0) := by omega
    have g1 : (t.length : Int) ≤ 699999 := by omega
    have e1 : (str (c :: t)).extract 1 (t.length + 1) = str t := by
      have h9 := ext_str (c :: t) 1 (t.length + 1)
      rw [List.take_of_length_le (by simp)] at h9
      exact h9
    have HL : Hid (t.length ≤ 699999) := hl
    clear hs hl
    by_cases hc : 1 < c.toNat
    · have hc1 : (1 : Int) < (c.toNat : Int) := by omega
      have HN : Hid (RatTold res rat0 [] 62) := by
        unfold RatIs at hn
        simp only [if_pos hc] at hn
        rw [hn]
        exact ⟨rfl, rfl, rfl⟩
      clear hn hc
      go_enter Tryz.func32, Tryz.ntmps32
      go_wp2
      refine bodyPost_ret (results_g rfl _ _ _ HB.out.1 rfl rfl rfl) rfl ?_
      exact ⟨none, 0, 0, none, 0, 0, rat0, [], 62, rfl, RatAt.zero _, HN.out, HB.out.2⟩
    · have hc1 : ¬ (1 : Int) < (c.toNat : Int) := by omega
      obtain ⟨g, hg⟩ : ∃ g, g = (c == 1) := ⟨_, rfl⟩
      have hcg := eq_one c (by omega)
      rw [← hg] at hcg
      have HN : Hid (RatIs (c :: t) res ∧ ¬ 1 < c.toNat ∧ g = (c == 1)) := ⟨hn, hc, hg⟩
      clear hn hc hg
      go_enter Tryz.func32, Tryz.ntmps32
      go_wp2_with fail
      refine (rgetNat_any t _ (by have := HL.out; omega)).mono ?_
      rintro e w1 ⟨ao, m, ca, xs, R1, k1, rfl, ro1, t1, b1⟩
      have bx1 := HB.out.1.below b1
      have H1 : Hid (RowAt w1 ao m ca xs ∧ NatTold (natL t) xs R1 k1 ∧ Below w.heap.size w w1 ∧ RBox w1 w.heap.size false none 0 0 none 0 0) := ⟨ro1, t1, chain HB.out.2 b1, bx1⟩
      clear f0 f1 f2 c0 c1 c2
      have f0 := bx1.f 0
      have f1 := bx1.f 1
      have f2 := bx1.f 2
      have c0 := bx1.c0
      have c1 := bx1.c1
      have c2 := bx1.c2
      clear ro1 b1 bx1
      cases hnt : natL t with
      | error kk =>
        rw [hnt] at t1
        have hk1 : ¬ k1 = 0 := by rw [t1.2.2]; exact natL_err hnt
        have HF : Hid (RatTold res rat0 [] k1) := by
          have h8 := HN.out.1
          unfold RatIs at h8
          simp only [if_neg HN.out.2.1, hnt] at h8
          rw [h8]
          exact ⟨rfl, rfl, t1.2.2⟩
        clear hnt t1
        go_wp2
        refine bodyPost_ret (results_g rfl _ _ _ (H1.out.2.2.2.set false none 0 0 none 0 0) rfl rfl rfl) rfl ?_
        exact ⟨none, 0, 0, none, 0, 0, rat0, [], k1, rfl, RatAt.zero _, HF.out, below_set H1.out.2.2.1 (Nat.le_refl _) _ _ _⟩
      | ok p1 =>
        obtain ⟨x, r1⟩ := p1
        rw [hnt] at t1
        obtain ⟨rfl, rfl, rfl⟩ := t1
        have HT : Hid (natL t = .ok (xs, R1) ∧ R1.length ≤ t.length) := ⟨hnt, (natL_one _ _ _ hnt).2.2.2⟩
        clear hnt
        go_wp2_with fail
        refine (rgetNat_any R1 _ (by have := HL.out; have := HT.out.2; omega)).mono ?_
        rintro e w2 ⟨bo, m2, cb, ys, R2, k2, rfl, ro2, t2, b2⟩
        have bx2 := H1.out.2.2.2.below b2
        have H2 : Hid (RatAt w2 ao m ca bo m2 cb ⟨g, xs, ys⟩ ∧ Below w.heap.size w w2 ∧ RBox w2 w.heap.size false none 0 0 none 0 0) := ⟨⟨H1.out.1.below b2, ro2⟩, chain H1.out.2.2.1 b2, bx2⟩
        clear f0 f1 f2 c0 c1 c2
        have f0 := bx2.f 0
        have f1 := bx2.f 1
        have f2 := bx2.f 2
        have c0 := bx2.c0
        have c1 := bx2.c1
        have c2 := bx2.c2
        clear ro2 b2 bx2
        cases hnt : natL R1 with
        | error kk =>
          rw [hnt] at t2
          have hk2 : ¬ k2 = 0 := by rw [t2.2.2]; exact natL_err hnt
          have HF : Hid (RatTold res rat0 [] k2) := by
            have h8 := HN.out.1
            unfold RatIs at h8
            simp only [if_neg HN.out.2.1, HT.out.1, hnt] at h8
            rw [h8]
            exact ⟨rfl, rfl, t2.2.2⟩
          clear hnt t2
          go_wp2
          refine bodyPost_ret (results_g rfl _ _ _ (H2.out.2.2.set false none 0 0 none 0 0) rfl rfl rfl) rfl ?_
          exact ⟨none, 0, 0, none, 0, 0, rat0, [], k2, rfl, RatAt.zero _, HF.out, below_set H2.out.2.1 (Nat.le_refl _) _ _ _⟩
        | ok p2 =>
          obtain ⟨y, r2⟩ := p2
          rw [hnt] at t2
          obtain ⟨rfl, rfl, rfl⟩ := t2
          have hB3 : Below w2.heap.size w2 (w2.alloc (.cells #[.bool g, .slice ao m ca, .slice bo m2 cb] 45)) := (Below.refl _ _).alloc (Nat.le_refl _) _
          have bx3 := RBox.new w2 g ao m ca bo m2 cb
          have d0 := bx3.c0
          have d1 := bx3.c1
          have d2 := bx3.c2
          obtain ⟨b, hb⟩ := mayR_ex ⟨g, xs, ys⟩
          have H3 : Hid (RatAt (w2.alloc (.cells #[.bool g, .slice ao m ca, .slice bo m2 cb] 45)) ao m ca bo m2 cb ⟨g, xs, ys⟩ ∧ Below w.heap.size w (w2.alloc (.cells #[.bool g, .slice ao m ca, .slice bo m2 cb] 45)) ∧ RBox (w2.alloc (.cells #[.bool g, .slice ao m ca, .slice bo m2 cb] 45)) w.heap.size false none 0 0 none 0 0 ∧ RBox (w2.alloc (.cells #[.bool g, .slice ao m ca, .slice bo m2 cb] 45)) w2.heap.size g ao m ca bo m2 cb ∧ (b = true ↔ MayR ⟨g, xs, ys⟩)) := ⟨H2.out.1.below hB3, chain H2.out.2.1 hB3, H2.out.2.2.alloc _, bx3, hb⟩
          have HR : Hid ((MayR ⟨g, xs, ys⟩ → res = .ok (⟨g, xs, ys⟩, R2)) ∧ (¬ MayR ⟨g, xs, ys⟩ → res = .error 62)) := by
            have h8 := HN.out.1
            unfold RatIs at h8
            simp only [if_neg HN.out.2.1, HT.out.1, hnt] at h8
            rw [← HN.out.2.2] at h8
            exact h8
          clear hnt hB3 bx3 hb
          go_wp2_with fail
          refine (rrmay_r g ao m ca bo m2 cb ⟨g, xs, ys⟩ _ H3.out.1 rfl b H3.out.2.2.2.2).mono ?_
          rintro e w4 ⟨rfl, b4⟩
          have bx4 := H3.out.2.2.1.below b4
          have by4 := H3.out.2.2.2.1.below b4
          have H4 : Hid (RatAt w4 ao m ca bo m2 cb ⟨g, xs, ys⟩ ∧ Below w.heap.size w w4 ∧ RBox w4 w.heap.size false none 0 0 none 0 0) := ⟨H3.out.1.below b4, chain H3.out.2.1 b4, bx4⟩
          have HBB : Hid (b = true ↔ MayR ⟨g, xs, ys⟩) := H3.out.2.2.2.2
          clear f0 f1 f2 c0 c1 c2 d0 d1 d2
          have f0 := bx4.f 0
          have f1 := bx4.f 1
          have f2 := bx4.f 2
          have c0 := bx4.c0
          have c1 := bx4.c1
          have c2 := bx4.c2
          have d0 := by4.c0
          have d1 := by4.c1
          have d2 := by4.c2
          clear b4 bx4 by4 H3
          cases b with
          | false =>
            have HF : Hid (RatTold res rat0 [] 62) := by
              rw [HR.out.2 (fun e => by have := HBB.out.2 e; cases this)]
              exact ⟨rfl, rfl, rfl⟩
            go_wp2
            refine bodyPost_ret (results_g rfl _ _ _ (H4.out.2.2.set false none 0 0 none 0 0) rfl rfl rfl) rfl ?_
            exact ⟨none, 0, 0, none, 0, 0, rat0, [], 62, rfl, RatAt.zero _, HF.out, below_set H4.out.2.1 (Nat.le_refl _) _ _ _⟩
          | true =>
            have HF : Hid (RatTold res ⟨g, xs, ys⟩ R2 0) := by
              rw [HR.out.1 (HBB.out.1 rfl)]
              exact ⟨rfl, rfl, rfl⟩
            go_wp2
            refine bodyPost_ret (results_g rfl _ _ _ (H4.out.2.2.set g ao m ca bo m2 cb) rfl rfl rfl) rfl ?_
            exact ⟨ao, m, ca, bo, m2, cb, ⟨g, xs, ys⟩, R2, 0, rfl, H4.out.1.setR H4.out.2.2 _ _ _, HF.out, below_set H4.out.2.1 (Nat.le_refl _) _ _ _⟩
end Go.Proofs.YtnedghhcidohnaaGreat

/-! The reference's PutRat. -/
namespace Go.Proofs.YtnedghhcidohnaaGreat
open Go.RowKit

set_option maxRecDepth 100000 in
set_option maxHeartbeats 2000000 in
theorem rputRat_bad (neg : Bool) (no : Option Addr) (nn nc : Nat) (eo : Option Addr) (en ec : Nat) (r : RatL) (w : World) (h : RatAt w no nn nc eo en ec r) (hg : r.neg = neg) (hm : ¬ MayR r) :
    Calls Tryz.prog 27 #[.agg #[.bool neg, .slice no nn nc, .slice eo en ec]] w fun e w' => e = .returned (.tuple #[.string (str []), .int .i64 1]) ∧ Below w.heap.size w w' := by
  have bx := RBox.new w neg no nn nc eo en ec
  have hB0 : Below w.heap.size w (w.alloc (.cells #[.bool neg, .slice no nn nc, .slice eo en ec] 45)) := (Below.refl _ _).alloc (Nat.le_refl _) _
  have H : Hid (RatAt (w.alloc (.cells #[.bool neg, .slice no nn nc, .slice eo en ec] 45)) no nn nc eo en ec r ∧ Below w.heap.size w (w.alloc (.cells #[.bool neg, .slice no nn nc, .slice eo en ec] 45)) ∧ r.neg = neg ∧ ¬ MayR r) := ⟨h.below hB0, hB0, hg, hm⟩
  have c0 := bx.c0
  have c1 := bx.c1
  have c2 := bx.c2
  clear bx hB0 h hg hm
  go_enter Tryz.func27, Tryz.ntmps27
  go_wp2_with fail
  refine (rrmay_r _ _ _ _ _ _ _ r _ H.out.1 H.out.2.2.1 false ⟨(fun e => by cases e), fun e => absurd e H.out.2.2.2⟩).mono ?_
  rintro e w1 ⟨rfl, b1⟩
  have H1 : Hid (Below w.heap.size w w1) := chain H.out.2.1 b1
  clear b1
  go_wp2_with fail
  go_ret2
  exact ⟨rfl, H1.out⟩

set_option maxRecDepth 100000 in
set_option maxHeartbeats 2000000 in
theorem rputRat_ok (neg : Bool) (no : Option Addr) (nn nc : Nat) (eo : Option Addr) (en ec : Nat) (r : RatL) (w : World) (h : RatAt w no nn nc eo en ec r) (hg : r.neg = neg) (hm : MayR r) :
    Calls Tryz.prog 27 #[.agg #[.bool neg, .slice no nn nc, .slice eo en ec]] w fun e w' => e = .returned (.tuple #[.string (str (putR r)), .int .i64 0]) ∧ Below w.heap.size w w' := by
  have bx := RBox.new w neg no nn nc eo en ec
  have hB0 : Below w.heap.size w (w.alloc (.cells #[.bool neg, .slice no nn nc, .slice eo en ec] 45)) := (Below.refl _ _).alloc (Nat.le_refl _) _
  have H : Hid (RatAt (w.alloc (.cells #[.bool neg, .slice no nn nc, .slice eo en ec] 45)) no nn nc eo en ec r ∧ RBox (w.alloc (.cells #[.bool neg, .slice no nn nc, .slice eo en ec] 45)) w.heap.size neg no nn nc eo en ec ∧ Below w.heap.size w (w.alloc (.cells #[.bool neg, .slice no nn nc, .slice eo en ec] 45)) ∧ r.neg = neg ∧ MayR r) := ⟨h.below hB0, bx, hB0, hg, hm⟩
  have c0 := bx.c0
  have c1 := bx.c1
  have c2 := bx.c2
  have z1 := putN_small hm.num
  have z2 := putN_small hm.den
  obtain ⟨X, hX⟩ : ∃ X, X = putN r.num := ⟨_, rfl⟩
  obtain ⟨Y, hY⟩ : ∃ Y, Y = putN r.den := ⟨_, rfl⟩
  rw [← hX] at z1
  rw [← hY] at z2
  have a1 := str_cons 0 X
  have a2 := str_cons 1 X
  have a3 := str_append (0 :: X) Y
  have a4 := str_append (1 :: X) Y
  have z3 : (str (0 :: X)).size = (str X).size + 1 := by rw [str_size, str_size]; rfl
  have z4 : (str (1 :: X)).size = (str X).size + 1 := by rw [str_size, str_size]; rfl
  have HX : Hid (X = putN r.num ∧ Y = putN r.den) := ⟨hX, hY⟩
  clear bx hB0 h hg hm hX hY
  go_enter Tryz.func27, Tryz.ntmps27
  go_wp2_with fail
  refine (rrmay_r _ _ _ _ _ _ _ r _ H.out.1 H.out.2.2.2.1 true ⟨fun _ => H.out.2.2.2.2, fun _ => rfl⟩).mono ?_
  rintro e w1 ⟨rfl, b1⟩
  have bx1 := H.out.2.1.below b1
  have H1 : Hid (RatAt w1 no nn nc eo en ec r ∧ RBox w1 w.heap.size neg no nn nc eo en ec ∧ Below w.heap.size w w1) := ⟨H.out.1.below b1, bx1, chain H.out.2.2.1 b1⟩
  have d0 := bx1.c0
  have d1 := bx1.c1
  clear b1 bx1 c0 c1 c2
  have HN : Hid (r.neg = neg) := H.out.2.2.2.1
  cases neg with
  | false =>
    go_wp2_with fail
    refine (rputNat_ok _ _ _ r.num _ H1.out.1.num H.out.2.2.2.2.num).mono ?_
    rw [← HX.out.1]
    rintro e w2 ⟨rfl, b2⟩
    have bx2 := H1.out.2.1.below b2
    have H2 : Hid (RatAt w2 no nn nc eo en ec r ∧ Below w.heap.size w w2) := ⟨H1.out.1.below b2, chain H1.out.2.2 b2⟩
    have e2 := bx2.c2
    clear b2 bx2 d0 d1
    go_wp2_with fail
    refine (rputNat_ok _ _ _ r.den _ H2.out.1.den H.out.2.2.2.2.den).mono ?_
    rw [← HX.out.2]
    rintro e w3 ⟨rfl, b3⟩
    have H3 : Hid (Below w.heap.size w w3) := chain H2.out.2 b3
    clear b3 e2
    go_wp2_with fail
    go_ret2
    refine ⟨?_, H3.out⟩
    unfold putR
    rw [HN.out, ← HX.out.1, ← HX.out.2]
    rfl
  | true =>
    go_wp2_with fail
    refine (rputNat_ok _ _ _ r.num _ H1.out.1.num H.out.2.2.2.2.num).mono ?_
    rw [← HX.out.1]
    rintro e w2 ⟨rfl, b2⟩
    have bx2 := H1.out.2.1.below b2
    have H2 : Hid (RatAt w2 no nn nc eo en ec r ∧ Below w.heap.size w w2) := ⟨H1.out.1.below b2, chain H1.out.2.2 b2⟩
    have e2 := bx2.c2
    clear b2 bx2 d0 d1
    go_wp2_with fail
    refine (rputNat_ok _ _ _ r.den _ H2.out.1.den H.out.2.2.2.2.den).mono ?_
    rw [← HX.out.2]
    rintro e w3 ⟨rfl, b3⟩
    have H3 : Hid (Below w.heap.size w w3) := chain H2.out.2 b3
    clear b3 e2
    go_wp2_with fail
    go_ret2
    refine ⟨?_, H3.out⟩
    unfold putR
    rw [HN.out, ← HX.out.1, ← HX.out.2]
    rfl

/-- What PutNat tells. -/
def NatPut (xs : List Int) (S : List UInt8) (k : Int) : Prop := (May xs ∧ S = putN xs ∧ k = 0) ∨ (¬ May xs ∧ S = [] ∧ k = 1)
theorem NatPut.ex (xs : List Int) : ∃ S k, NatPut xs S k ∧ S.length ≤ 100 := by
  by_cases h : May xs
  · exact ⟨putN xs, 0, .inl ⟨h, rfl, rfl⟩, by have := putN_small h; rwa [str_size] at this⟩
  · exact ⟨[], 1, .inr ⟨h, rfl, rfl⟩, by simp⟩
theorem putNat_told (ao : Option Addr) (n cap : Nat) (xs : List Int) (S : List UInt8) (k : Int) (w : World) (h : RowAt w ao n cap xs) (hp : NatPut xs S k) :
    Calls Tryz.prog 81 #[.slice ao n cap] w fun e w' => e = .returned (.tuple #[.string (str S), .int .i64 k]) ∧ Below w.heap.size w w' := by
  rcases hp with ⟨hm, rfl, rfl⟩ | ⟨hm, rfl, rfl⟩
  · exact putNat_ok ao n cap xs w h hm
  · exact putNat_bad ao n cap xs w h hm
theorem rputNat_told (ao : Option Addr) (n cap : Nat) (xs : List Int) (S : List UInt8) (k : Int) (w : World) (h : RowAt w ao n cap xs) (hp : NatPut xs S k) :
    Calls Tryz.prog 53 #[.slice ao n cap] w fun e w' => e = .returned (.tuple #[.string (str S), .int .i64 k]) ∧ Below w.heap.size w w' := by
  rcases hp with ⟨hm, rfl, rfl⟩ | ⟨hm, rfl, rfl⟩
  · exact rputNat_ok ao n cap xs w h hm
  · exact rputNat_bad ao n cap xs w h hm

/-- What PutRat tells. -/
def RatPut (r : RatL) (S : List UInt8) (k : Int) : Prop := (MayR r ∧ S = putR r ∧ k = 0) ∨ (¬ MayR r ∧ S = [] ∧ k = 1)
theorem RatPut.ex (r : RatL) : ∃ S k, RatPut r S k ∧ S.length ≤ 300 := by
  by_cases h : MayR r
  · exact ⟨putR r, 0, .inl ⟨h, rfl, rfl⟩, putR_small h⟩
  · exact ⟨[], 1, .inr ⟨h, rfl, rfl⟩, by simp⟩
theorem putRat_told (neg : Bool) (no : Option Addr) (nn nc : Nat) (eo : Option Addr) (en ec : Nat) (r : RatL) (S : List UInt8) (k : Int) (w : World) (h : RatAt w no nn nc eo en ec r) (hg : r.neg = neg) (hp : RatPut r S k) :
    Calls Tryz.prog 51 #[.agg #[.bool neg, .slice no nn nc, .slice eo en ec]] w fun e w' => e = .returned (.tuple #[.string (str S), .int .i64 k]) ∧ Below w.heap.size w w' := by
  rcases hp with ⟨hm, rfl, rfl⟩ | ⟨hm, rfl, rfl⟩
  · exact putRat_ok neg no nn nc eo en ec r w h hg hm
  · exact putRat_bad neg no nn nc eo en ec r w h hg hm
theorem rputRat_told (neg : Bool) (no : Option Addr) (nn nc : Nat) (eo : Option Addr) (en ec : Nat) (r : RatL) (S : List UInt8) (k : Int) (w : World) (h : RatAt w no nn nc eo en ec r) (hg : r.neg = neg) (hp : RatPut r S k) :
    Calls Tryz.prog 27 #[.agg #[.bool neg, .slice no nn nc, .slice eo en ec]] w fun e w' => e = .returned (.tuple #[.string (str S), .int .i64 k]) ∧ Below w.heap.size w w' := by
  rcases hp with ⟨hm, rfl, rfl⟩ | ⟨hm, rfl, rfl⟩
  · exact rputRat_ok neg no nn nc eo en ec r w h hg hm
  · exact rputRat_bad neg no nn nc eo en ec r w h hg hm
end Go.Proofs.YtnedghhcidohnaaGreat
