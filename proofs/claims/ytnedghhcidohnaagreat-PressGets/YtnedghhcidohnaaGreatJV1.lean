/-
  Joined: OctP · OctQ · OctR.
-/
import Derived.Test.YtnedghhcidohnaaGreatJS1
import Derived.Test.YtnedghhcidohnaaGreatJN1
import Derived.Test.YtnedghhcidohnaaGreatOctI

/-! octet.PutRat; the reader's rational. -/
namespace Go.Proofs.YtnedghhcidohnaaGreat
open Go.RowKit

/-- A number as bytes. -/
def putR (r : RatL) : List UInt8 := (if r.neg then 1 else 0) :: (putN r.num ++ putN r.den)

theorem putN_length (xs : List Int) : (putN xs).length = cntB xs.length + 1 + 8 * xs.length := by
  unfold putN
  rw [List.length_append, putL_length, limbB_length, List.length_reverse]

theorem str_cons (c : UInt8) (t : List UInt8) : ({ data := #[c] } : ByteArray) ++ str t = str (c :: t) := str_append [c] t

theorem putN_small {xs : List Int} (h : May xs) : (str (putN xs)).size ≤ 100 := by
  rw [str_size, putN_length]
  have h1 := h.1
  have := cntB_le xs.length (by omega)
  omega

set_option maxRecDepth 100000 in
set_option maxHeartbeats 2000000 in
theorem putRat_bad (neg : Bool) (no : Option Addr) (nn nc : Nat) (eo : Option Addr) (en ec : Nat) (r : RatL) (w : World) (h : RatAt w no nn nc eo en ec r) (hg : r.neg = neg) (hm : ¬ MayR r) :
    Calls Tryz.prog 51 #[.agg #[.bool neg, .slice no nn nc, .slice eo en ec]] w fun e w' => e = .returned (.tuple #[.string (str []), .int .i64 1]) ∧ Below w.heap.size w w' := by
  have bx := RBox.new w neg no nn nc eo en ec
  have hB0 : Below w.heap.size w (w.alloc (.cells #[.bool neg, .slice no nn nc, .slice eo en ec] 45)) := (Below.refl _ _).alloc (Nat.le_refl _) _
  have H : Hid (RatAt (w.alloc (.cells #[.bool neg, .slice no nn nc, .slice eo en ec] 45)) no nn nc eo en ec r ∧ Below w.heap.size w (w.alloc (.cells #[.bool neg, .slice no nn nc, .slice eo en ec] 45)) ∧ r.neg = neg ∧ ¬ MayR r) := ⟨h.below hB0, hB0, hg, hm⟩
  have c0 := bx.c0
  have c1 := bx.c1
  have c2 := bx.c2
  clear bx hB0 h hg hm
  go_enter Tryz.func51, Tryz.ntmps51
  go_wp2_with fail
  refine (rmay_r _ _ _ _ _ _ _ r _ H.out.1 H.out.2.2.1 false ⟨(fun e => by cases e), fun e => absurd e H.out.2.2.2⟩).mono ?_
  rintro e w1 ⟨rfl, b1⟩
  have H1 : Hid (Below w.heap.size w w1) := chain H.out.2.1 b1
  clear b1
  go_wp2_with fail
  go_ret2
  exact ⟨rfl, H1.out⟩

set_option maxRecDepth 100000 in
set_option maxHeartbeats 2000000 in
theorem putRat_ok (neg : Bool) (no : Option Addr) (nn nc : Nat) (eo : Option Addr) (en ec : Nat) (r : RatL) (w : World) (h : RatAt w no nn nc eo en ec r) (hg : r.neg = neg) (hm : MayR r) :
    Calls Tryz.prog 51 #[.agg #[.bool neg, .slice no nn nc, .slice eo en ec]] w fun e w' => e = .returned (.tuple #[.string (str (putR r)), .int .i64 0]) ∧ Below w.heap.size w w' := by
  have bx := RBox.new w neg no nn nc eo en ec
  have hB0 : Below w.heap.size w (w.alloc (.cells #[.bool neg, .slice no nn nc, .slice eo en ec] 45)) := (Below.refl _ _).alloc (Nat.le_refl _) _
  have H : Hid (RatAt (w.alloc (.cells #[.bool neg, .slice no nn nc, .slice eo en ec] 45)) no nn nc eo en ec r ∧ RBox (w.alloc (.cells #[.bool neg, .slice no nn nc, .slice eo en ec] 45)) w.heap.size neg no nn nc eo en ec ∧ Below w.heap.size w (w.alloc (.cells #[.bool neg, .slice no nn nc, .slice eo en ec] 45)) ∧ r.neg = neg ∧ MayR r) := ⟨h.below hB0, bx, hB0, hg, hm⟩
  have c0 := bx.c0
  have c1 := bx.c1
  have c2 := bx.c2
  have z1 := putN_small hm.num
  have z2 := putN_small hm.den
  obtain ⟨X, hX⟩ : ∃ X, X = putN r.num := ⟨_, rfl⟩
  obtain ⟨Y, hY⟩ : ∃ Y, Y = putN r.den := ⟨_, rfl⟩
  rw [← hX] at z1
  rw [← hY] at z2
  have a1 := str_cons 0 X
  have a2 := str_cons 1 X
  have a3 := str_append (0 :: X) Y
  have a4 := str_append (1 :: X) Y
  have z3 : (str (0 :: X)).size = (str X).size + 1 := by rw [str_size, str_size]; rfl
  have z4 : (str (1 :: X)).size = (str X).size + 1 := by rw [str_size, str_size]; rfl
  have HX : Hid (X = putN r.num ∧ Y = putN r.den) := ⟨hX, hY⟩
  clear bx hB0 h hg hm hX hY
  go_enter Tryz.func51, Tryz.ntmps51
  go_wp2_with fail
  refine (rmay_r _ _ _ _ _ _ _ r _ H.out.1 H.out.2.2.2.1 true ⟨fun _ => H.out.2.2.2.2, fun _ => rfl⟩).mono ?_
  rintro e w1 ⟨rfl, b1⟩
  have bx1 := H.out.2.1.below b1
  have H1 : Hid (RatAt w1 no nn nc eo en ec r ∧ RBox w1 w.heap.size neg no nn nc eo en ec ∧ Below w.heap.size w w1) := ⟨H.out.1.below b1, bx1, chain H.out.2.2.1 b1⟩
  have d0 := bx1.c0
  have d1 := bx1.c1
  clear b1 bx1 c0 c1 c2
  have HN : Hid (r.neg = neg) := H.out.2.2.2.1
  cases neg with
  | false =>
    go_wp2_with fail
    refine (putNat_ok _ _ _ r.num _ H1.out.1.num H.out.2.2.2.2.num).mono ?_
    rw [← HX.out.1]
    rintro e w2 ⟨rfl, b2⟩
    have bx2 := H1.out.2.1.below b2
    have H2 : Hid (RatAt w2 no nn nc eo en ec r ∧ Below w.heap.size w w2) := ⟨H1.out.1.below b2, chain H1.out.2.2 b2⟩
    have e2 := bx2.c2
    clear b2 bx2 d0 d1
    go_wp2_with fail
    refine (putNat_ok _ _ _ r.den _ H2.out.1.den H.out.2.2.2.2.den).mono ?_
    rw [← HX.out.2]
    rintro e w3 ⟨rfl, b3⟩
    have H3 : Hid (Below w.heap.size w w3) := chain H2.out.2 b3
    clear b3 e2
    go_wp2_with fail
    go_ret2
    refine ⟨?_, H3.out⟩
    unfold putR
    rw [HN.out, ← HX.out.1, ← HX.out.2]
    rfl
  | true =>
    go_wp2_with fail
    refine (putNat_ok _ _ _ r.num _ H1.out.1.num H.out.2.2.2.2.num).mono ?_
    rw [← HX.out.1]
    rintro e w2 ⟨rfl, b2⟩
    have bx2 := H1.out.2.1.below b2
    have H2 : Hid (RatAt w2 no nn nc eo en ec r ∧ Below w.heap.size w w2) := ⟨H1.out.1.below b2, chain H1.out.2.2 b2⟩
    have e2 := bx2.c2
    clear b2 bx2 d0 d1
    go_wp2_with fail
    refine (putNat_ok _ _ _ r.den _ H2.out.1.den H.out.2.2.2.2.den).mono ?_
    rw [← HX.out.2]
    rintro e w3 ⟨rfl, b3⟩
    have H3 : Hid (Below w.heap.size w w3) := chain H2.out.2 b3
    clear b3 e2
    go_wp2_with fail
    go_ret2
    refine ⟨?_, H3.out⟩
    unfold putR
    rw [HN.out, ← HX.out.1, ← HX.out.2]
    rfl
end Go.Proofs.YtnedghhcidohnaaGreat

/-! What is got has just those bytes: numbers, texts, naturals; rational numbers as a relation. -/
namespace Go.Proofs.YtnedghhcidohnaaGreat
open Go.RowKit

theorem lowB_add (a n k : Nat) : lowB (256 ^ k * a + n) k = lowB n k := by
  induction k generalizing a with
  | zero => rfl
  | succ k ih =>
    rw [lowB, lowB, Nat.pow_succ, Nat.mul_assoc, ih, Nat.mul_add_div (Nat.pow_pos (by decide))]
    congr 1
    apply UInt8.toNat_inj.1
    simp

theorem foldl_join (t : List UInt8) : ∀ a : Nat, t.foldl (fun n d => n * 256 + d.toNat) a = 256 ^ t.length * a + joinL t := by
  induction t with
  | nil => intro a; simp [joinL]
  | cons b t ih =>
    intro a
    have h1 := ih (0 * 256 + b.toNat)
    have h2 : joinL (b :: t) = 256 ^ t.length * (0 * 256 + b.toNat) + joinL t := h1
    rw [List.foldl_cons, ih, h2, List.length_cons, Nat.pow_succ, Nat.mul_assoc, Nat.mul_add, Nat.mul_comm 256 a]
    simp only [Nat.zero_mul, Nat.zero_add]
    omega

theorem join_cons (b : UInt8) (t : List UInt8) : joinL (b :: t) = 256 ^ t.length * b.toNat + joinL t := by
  have := foldl_join t (0 * 256 + b.toNat)
  rw [joinL, List.foldl_cons, this]
  simp

theorem low_join (s : List UInt8) : lowB (joinL s) s.length = s := by
  induction s with
  | nil => rfl
  | cons b t ih =>
    rw [List.length_cons, lowB, join_cons, lowB_add, ih, Nat.mul_add_div (Nat.pow_pos (by decide)), Nat.div_eq_of_lt (joinL_lt t)]
    congr 1
    apply UInt8.toNat_inj.1
    simp

theorem cnt_join (s : List UInt8) (h : s = [] ∨ s.getD 0 0 ≠ 0) : cntB (joinL s) = s.length := by
  have h1 := cntB_min (joinL s) s.length (joinL_lt s)
  rcases h with rfl | h
  · simpa using h1
  · cases s with
    | nil => exact absurd rfl h
    | cons b t =>
      have h2 := cntB_lt (joinL (b :: t))
      have hb : b ≠ 0 := h
      have hb1 : 1 ≤ b.toNat := by
        rcases Nat.eq_zero_or_pos b.toNat with e | e
        · exact absurd (UInt8.toNat_inj.1 e) hb
        · exact e
      have h3 : 256 ^ t.length ≤ joinL (b :: t) := by
        rw [join_cons]
        exact Nat.le_trans (Nat.le_mul_of_pos_right _ hb1) (Nat.le_add_right _ _)
      have h4 : t.length < cntB (joinL (b :: t)) := (Nat.pow_lt_pow_iff_right (by decide)).1 (Nat.lt_of_le_of_lt h3 h2)
      simp only [List.length_cons] at h1 ⊢
      omega

theorem numL_one (s : List UInt8) (n : Nat) (r : List UInt8) (h : numL s = .ok (n, r)) : putL n ++ r = s := by
  cases s with
  | nil => cases h
  | cons k t =>
    simp only [numL] at h
    split at h
    · cases h
    · split at h
      · cases h
      · split at h
        · cases h
        · rename_i h1 h2 h3
          simp only [Except.ok.injEq, Prod.mk.injEq] at h
          obtain ⟨rfl, rfl⟩ := h
          have hl : (t.take k.toNat).length = k.toNat := by simp; omega
          have hc : cntB (joinL (t.take k.toNat)) = k.toNat := by
            rw [cnt_join, hl]
            rcases Nat.eq_zero_or_pos k.toNat with e | e
            · left; rw [e]; rfl
            · right
              intro h4
              apply h3
              refine ⟨e, ?_⟩
              rw [List.getD_eq_getElem?_getD] at h4 ⊢
              rw [List.getElem?_take, if_pos e] at h4
              exact h4
          have hlow := low_join (t.take k.toNat)
          rw [hl] at hlow
          unfold putL
          rw [hc, hlow, List.cons_append, List.take_append_drop]
          congr 1
          apply UInt8.toNat_inj.1
          simp

theorem textL_one (s t r : List UInt8) (h : textL s = .ok (t, r)) : putT t ++ r = s ∧ t.length ≤ s.length := by
  unfold textL at h
  split at h
  · cases h
  · rename_i n r' hn
    split at h
    · cases h
    · rename_i hl
      simp only [Except.ok.injEq, Prod.mk.injEq] at h
      obtain ⟨rfl, rfl⟩ := h
      have h1 := numL_one s n r' hn
      have h2 : (r'.take n).length = n := by simp; omega
      refine ⟨?_, ?_⟩
      · unfold putT
        rw [h2, List.append_assoc, List.take_append_drop, h1]
      · have := congrArg List.length h1
        rw [List.length_append] at this
        rw [h2]
        omega

theorem limbsL_succ (t : List UInt8) (n : Nat) (h : t.length = 8 * (n + 1)) : limbsL t (n + 1) = limbsL (t.drop 8) n ++ [((joinL (t.take 8) : Nat) : Int)] := by
  unfold limbsL
  rw [List.range_succ, List.map_append]
  congr 1
  · apply List.map_congr_left
    intro i hi
    have hi := List.mem_range.1 hi
    unfold limbAt
    have hd : (t.drop 8).length = 8 * n := by simp; omega
    rw [hd, h]
    congr 2
    have e1 : (t.drop 8).take (8 * n - 8 * i) = (t.take (8 * (n + 1) - 8 * i)).drop 8 := by
      rw [List.drop_take]
      congr 1
      omega
    rw [e1, List.drop_drop]
    congr 1
    omega
  · simp only [List.map_cons, List.map_nil]
    unfold limbAt
    rw [h]
    have e2 : 8 * (n + 1) - 8 * n = 8 := by omega
    rw [e2]
    rfl

theorem limbB_one (n : Nat) : ∀ t : List UInt8, t.length = 8 * n → limbB (limbsL t n).reverse = t := by
  induction n with
  | zero =>
    intro t h
    have : t = [] := List.length_eq_zero_iff.1 (by omega)
    subst this
    rfl
  | succ n ih =>
    intro t h
    rw [limbsL_succ t n h, List.reverse_append]
    have h1 := ih (t.drop 8) (by simp; omega)
    have h8 : (t.take 8).length = 8 := by simp; omega
    have h2 := low_join (t.take 8)
    rw [h8] at h2
    show limbB (((joinL (t.take 8) : Nat) : Int) :: (limbsL (t.drop 8) n).reverse) = t
    have h3 : limbB (((joinL (t.take 8) : Nat) : Int) :: (limbsL (t.drop 8) n).reverse) = lowB (joinL (t.take 8)) 8 ++ limbB (limbsL (t.drop 8) n).reverse := rfl
    rw [h3, h1, h2, List.take_append_drop]

theorem natL_one (s : List UInt8) (xs : List Int) (r : List UInt8) (h : natL s = .ok (xs, r)) : putN xs ++ r = s ∧ May xs ∧ Limbs xs ∧ r.length ≤ s.length := by
  unfold natL at h
  split at h
  · cases h
  · rename_i n r' hn
    split at h
    · cases h
    · split at h
      · cases h
      · split at h
        · rename_i h8 hl hm
          simp only [Except.ok.injEq, Prod.mk.injEq] at h
          obtain ⟨rfl, rfl⟩ := h
          have h1 := numL_one s n r' hn
          have hlen := congrArg List.length h1
          rw [List.length_append] at hlen
          refine ⟨?_, (mayB_iff _).1 hm, limbsL_limbs _ _, ?_⟩
          · unfold putN
            rw [limbsL_length, limbB_one n _ (by simp; omega), List.append_assoc, List.take_append_drop, h1]
          · simp
            omega
        · cases h

/-- What rational number s begins by, and what is behind; or the error. -/
def RatIs (s : List UInt8) (res : Except Int (RatL × List UInt8)) : Prop :=
  match s with
  | [] => res = .error 60
  | c :: t => if 1 < c.toNat then res = .error 62 else
    match natL t with
    | .error e => res = .error e
    | .ok (x, r1) =>
      match natL r1 with
      | .error e => res = .error e
      | .ok (y, r2) => (MayR ⟨c == 1, x, y⟩ → res = .ok (⟨c == 1, x, y⟩, r2)) ∧ (¬ MayR ⟨c == 1, x, y⟩ → res = .error 62)

theorem RatIs.ex (s : List UInt8) : ∃ res, RatIs s res := by
  unfold RatIs
  split
  · exact ⟨_, rfl⟩
  · rename_i c t
    by_cases h : 1 < c.toNat
    · simp only [if_pos h]; exact ⟨_, rfl⟩
    · simp only [if_neg h]
      split
      · exact ⟨_, rfl⟩
      · rename_i x r1 _
        split
        · exact ⟨_, rfl⟩
        · rename_i y r2 _
          by_cases hm : MayR ⟨c == 1, x, y⟩
          · exact ⟨_, fun _ => rfl, fun h => absurd hm h⟩
          · exact ⟨_, fun h => absurd h hm, fun _ => rfl⟩

theorem RatIs.one {s : List UInt8} {q : RatL} {r : List UInt8} (h : RatIs s (.ok (q, r))) : putR q ++ r = s ∧ MayR q := by
  unfold RatIs at h
  split at h
  · cases h
  · rename_i c t
    split at h
    · cases h
    · rename_i hc
      split at h
      · cases h
      · rename_i x r1 h1
        split at h
        · cases h
        · rename_i y r2 h2
          by_cases hm : MayR ⟨c == 1, x, y⟩
          · have h3 := h.1 hm
            simp only [Except.ok.injEq, Prod.mk.injEq] at h3
            obtain ⟨rfl, rfl⟩ := h3
            refine ⟨?_, hm⟩
            have e1 := (natL_one _ _ _ h1).1
            have e2 := (natL_one _ _ _ h2).1
            unfold putR
            simp only [List.cons_append, List.append_assoc]
            rw [e2, e1]
            congr 1
            by_cases hc1 : c = 1
            · rw [hc1]; rfl
            · have hc0 : c = 0 := by
                apply UInt8.toNat_inj.1
                have : c.toNat ≠ 1 := fun e => hc1 (UInt8.toNat_inj.1 e)
                show c.toNat = 0
                omega
              rw [hc0]; rfl
          · have h3 := h.2 hm
            cases h3
end Go.Proofs.YtnedghhcidohnaaGreat

/-! The reader's rational; octet.GetRat, its panics recovered. -/
namespace Go.Proofs.YtnedghhcidohnaaGreat
open Go.RowKit

theorem RatIs.parts {s : List UInt8} {q : RatL} {r : List UInt8} (h : RatIs s (.ok (q, r))) : ∃ c t x r1 y, s = c :: t ∧ c.toNat ≤ 1 ∧ natL t = .ok (x, r1) ∧ natL r1 = .ok (y, r) ∧ q = ⟨c == 1, x, y⟩ ∧ MayR q := by
  unfold RatIs at h
  split at h
  · cases h
  · rename_i c t
    split at h
    · cases h
    · rename_i hc
      split at h
      · cases h
      · rename_i x r1 h1
        split at h
        · cases h
        · rename_i y r2 h2
          by_cases hm : MayR ⟨c == 1, x, y⟩
          · have h3 := h.1 hm
            simp only [Except.ok.injEq, Prod.mk.injEq] at h3
            obtain ⟨rfl, rfl⟩ := h3
            exact ⟨c, t, x, r1, y, rfl, by omega, h1, h2, rfl, hm⟩
          · cases h.2 hm

theorem RatIs.fault {s : List UInt8} {k : Int} (h : RatIs s (.error k)) : (s = [] ∧ k = 60) ∨ ∃ c t, s = c :: t ∧ ((1 < c.toNat ∧ k = 62) ∨ (c.toNat ≤ 1 ∧ natL t = .error k) ∨
    (∃ x r1, c.toNat ≤ 1 ∧ natL t = .ok (x, r1) ∧ natL r1 = .error k) ∨ ∃ x r1 y r2, c.toNat ≤ 1 ∧ natL t = .ok (x, r1) ∧ natL r1 = .ok (y, r2) ∧ ¬ MayR ⟨c == 1, x, y⟩ ∧ k = 62) := by
  unfold RatIs at h
  split at h
  · cases h; exact .inl ⟨rfl, rfl⟩
  · rename_i c t
    refine .inr ⟨c, t, rfl, ?_⟩
    split at h
    · rename_i hc; cases h; exact .inl ⟨hc, rfl⟩
    · rename_i hc
      split at h
      · rename_i e h1
        cases h
        exact .inr (.inl ⟨by omega, h1⟩)
      · rename_i x r1 h1
        split at h
        · rename_i e h2
          cases h
          exact .inr (.inr (.inl ⟨x, r1, by omega, h1, h2⟩))
        · rename_i y r2 h2
          by_cases hm : MayR ⟨c == 1, x, y⟩
          · cases h.1 hm
          · have h3 := h.2 hm
            cases h3
            exact .inr (.inr (.inr ⟨x, r1, y, r2, by omega, h1, h2, hm, rfl⟩))

theorem row_grown {W W' : World} {R : Nat} {ao : Option Addr} {n cap : Nat} {xs : List Int} (h : RowAt W ao n cap xs) (hg : W.grownBy W' (some R)) (hf : Fresh (R + 1) ao) : RowAt W' ao n cap xs := by
  refine ⟨h.len, h.limbs, h.fits, h.most, h.bare, fun hne => ?_⟩
  obtain ⟨b, off, e, hlt, hc⟩ := h.cells hne
  have hb := hf _ e
  have h9 : R + 1 ≤ b := hb
  have hblk := hg.block b hlt (fun e9 => by have : b = R := Option.some.inj e9; omega)
  exact ⟨b, off, e, Nat.lt_of_lt_of_le hlt hg.size, fun j hj => (World.cell?_of_block (a := ⟨b, off + j, none⟩) hblk).trans (hc j hj)⟩

theorem rbox_grown {W W' : World} {R B : Nat} {neg : Bool} {no : Option Addr} {nn nc : Nat} {eo : Option Addr} {en ec : Nat} (h : RBox W B neg no nn nc eo en ec) (hg : W.grownBy W' (some R)) (hne : B ≠ R) : RBox W' B neg no nn nc eo en ec :=
  (hg.block B h.lt (fun e => hne (Option.some.inj e))).trans h

theorem left_alloc {W : World} {R : Nat} {S : ByteArray} (h : Left W R S) (o : Obj) : Left (W.alloc o) R S := h.below ((Below.refl _ _).alloc (Nat.le_refl _) o)

theorem grown_set3 {w W : World} {R B : Nat} (h : w.grownBy W (some R)) (hB : w.heap.size ≤ B) (u v x : Value) : w.grownBy (((W.setCell ⟨B, 0, none⟩ u).setCell ⟨B, 1, none⟩ v).setCell ⟨B, 2, none⟩ x) (some R) := by
  have g : ∀ (V : World) (k : Nat) (y : Value), V.grownBy (V.setCell ⟨B, k, none⟩ y) (some B) := fun V k y => ⟨rfl, rfl, rfl, by simp [World.setCell], fun j _ hn => Below.heap_setCell V ⟨B, k, none⟩ y j (fun e => hn (by rw [e]))⟩
  exact grown_trans (grown_trans (grown_trans h (g _ 0 u) (.inr hB)) (g _ 1 v) (.inr hB)) (g _ 2 x) (.inr hB)
theorem err_set3 {W : World} {R B : Nat} {n : Int} (h : ErrBox W R n) (hne : R ≠ B) (u v x : Value) : ErrBox (((W.setCell ⟨B, 0, none⟩ u).setCell ⟨B, 1, none⟩ v).setCell ⟨B, 2, none⟩ x) R n :=
  (Below.heap_setCell _ ⟨B, 2, none⟩ x R hne).trans ((Below.heap_setCell _ ⟨B, 1, none⟩ v R hne).trans ((Below.heap_setCell W ⟨B, 0, none⟩ u R hne).trans h))
theorem rbox_set {W : World} {A C : Nat} {neg : Bool} {no : Option Addr} {nn nc : Nat} {eo : Option Addr} {en ec : Nat} (h : RBox W A neg no nn nc eo en ec) (hne : A ≠ C) (v : Value) : RBox (W.setCell ⟨C, 0, none⟩ v) A neg no nn nc eo en ec :=
  (Below.heap_setCell W ⟨C, 0, none⟩ v A hne).trans h
theorem rbox_drew {W : World} {A : Nat} {neg : Bool} {no : Option Addr} {nn nc : Nat} {eo : Option Addr} {en ec : Nat} (h : RBox W A neg no nn nc eo en ec) : RBox W.drew A neg no nn nc eo en ec := h
theorem err_drew {W : World} {A : Nat} {n : Int} (h : ErrBox W A n) : ErrBox W.drew A n := h
theorem left_set3 {W : World} {R B : Nat} {S : ByteArray} (h : Left W R S) (hne : R ≠ B) (u v x : Value) : Left (((W.setCell ⟨B, 0, none⟩ u).setCell ⟨B, 1, none⟩ v).setCell ⟨B, 2, none⟩ x) R S :=
  (Below.heap_setCell _ ⟨B, 2, none⟩ x R hne).trans ((Below.heap_setCell _ ⟨B, 1, none⟩ v R hne).trans ((Below.heap_setCell W ⟨B, 0, none⟩ u R hne).trans h))

theorem eq_one (c : UInt8) (h : c.toNat ≤ 1) : ((c.toNat : Int) == 1) = (c == 1) := by
  rw [Bool.eq_iff_iff, beq_iff_eq, beq_iff_eq]
  constructor
  · intro e
    apply UInt8.toNat_inj.1
    show c.toNat = 1
    omega
  · rintro rfl
    rfl

set_option maxRecDepth 100000 in
set_option maxHeartbeats 4000000 in
/-- The reader's rational, both naturals being there. -/
theorem rational_both (R : Nat) (c : UInt8) (t : List UInt8) (x : List Int) (r1 : List UInt8) (y : List Int) (r2 : List UInt8) (w : World) (h : Left w R (str (c :: t))) (hc : c.toNat ≤ 1) (h1 : natL t = .ok (x, r1)) (h2 : natL r1 = .ok (y, r2)) (hs : t.length ≤ 700000) (b : Bool) (hb : b = true ↔ MayR ⟨c == 1, x, y⟩) :
    Calls Tryz.prog 85 #[.pointer (some ⟨R, 0, none⟩)] w fun e w' => w.grownBy w' (some R) ∧ (if b then ∃ no nn eo en, e = .returned (.agg #[.bool (c == 1), .slice no nn nn, .slice eo en en]) ∧ RatAt w' no nn nn eo en en ⟨c == 1, x, y⟩ ∧ Fresh w.heap.size no ∧ Fresh w.heap.size eo ∧ Left w' R (str r2) else e = pan 62) := by
  have hl1 := (natL_one t x r1 h1).2.2.2
  have hRlt := h.lt
  have H0 : Hid (Left w R (str (c :: t)) ∧ c.toNat ≤ 1 ∧ natL t = .ok (x, r1) ∧ natL r1 = .ok (y, r2) ∧ t.length ≤ 700000 ∧ (b = true ↔ MayR ⟨c == 1, x, y⟩) ∧ r1.length ≤ t.length ∧ R < w.heap.size) := ⟨h, hc, h1, h2, hs, hb, hl1, hRlt⟩
  have hbx := RBox.new w false none 0 0 none 0 0
  have HB : Hid (RBox (w.alloc (.cells #[.bool false, .slice none 0 0, .slice none 0 0] 45)) w.heap.size false none 0 0 none 0 0) := hbx
  obtain ⟨g, hg⟩ : ∃ g, g = (c == 1) := ⟨_, rfl⟩
  have hcg := eq_one c hc
  rw [← hg] at hcg ⊢
  have HG : Hid (g = (c == 1)) := hg
  clear h hc h1 h2 hs hb hl1 hRlt hbx hg
  go_enter Tryz.func85, Tryz.ntmps85
  go_wp2_with fail
  refine (upTo_ok R c t 1 _ (left_alloc H0.out.1 _) H0.out.2.1 (by have := H0.out.2.2.2.2.1; omega)).mono ?_
  rintro e w1 ⟨rfl, l1, g1⟩
  have H1 : Hid (Left w1 R (str t) ∧ w.grownBy w1 (some R) ∧ RBox w1 w.heap.size false none 0 0 none 0 0) := ⟨l1, grown2 (grown_alloc w _ (some R)) g1, rbox_grown HB.out g1 (by have := H0.out.2.2.2.2.2.2.2; omega)⟩
  clear l1 g1
  go_wp2_with fail
  refine (natural_ok R t x r1 _ H1.out.1 H0.out.2.2.1 (by have := H0.out.2.2.2.2.1; omega)).mono ?_
  rintro e w2 ⟨no, nn, rfl, ro2, f2, l2, g2⟩
  have H2 : Hid (Left w2 R (str r1) ∧ w.grownBy w2 (some R) ∧ RBox w2 w.heap.size false none 0 0 none 0 0 ∧ RowAt w2 no nn nn x ∧ Fresh w.heap.size no) := ⟨l2, grown2 H1.out.2.1 g2, rbox_grown H1.out.2.2 g2 (by have := H0.out.2.2.2.2.2.2.2; omega), ro2, f2.mono H1.out.2.1.size⟩
  clear l2 g2 ro2 f2
  go_wp2_with fail
  refine (natural_ok R r1 y r2 _ H2.out.1 H0.out.2.2.2.1 (by have := H0.out.2.2.2.2.1; have := H0.out.2.2.2.2.2.2.1; omega)).mono ?_
  rintro e w3 ⟨eo, en, rfl, ro3, f3, l3, g3⟩
  have H3 : Hid (Left w3 R (str r2) ∧ w.grownBy w3 (some R) ∧ RBox w3 w.heap.size false none 0 0 none 0 0 ∧ RatAt w3 no nn nn eo en en ⟨c == 1, x, y⟩ ∧ Fresh w.heap.size no ∧ Fresh w.heap.size eo) := ⟨l3, grown2 H2.out.2.1 g3, rbox_grown H2.out.2.2.1 g3 (by have := H0.out.2.2.2.2.2.2.2; omega), ⟨row_grown H2.out.2.2.2.1 g3 (H2.out.2.2.2.2.mono (by have := H0.out.2.2.2.2.2.2.2; omega)), ro3⟩, H2.out.2.2.2.2, f3.mono H2.out.2.1.size⟩
  clear l3 g3 ro3 f3
  have hb3 : Below w3.heap.size w3 (w3.alloc (.cells #[.bool g, .slice no nn nn, .slice eo en en] 45)) := (Below.refl _ _).alloc (Nat.le_refl _) _
  have hbx := RBox.new w3 g no nn nn eo en en
  have H4 : Hid (Left (w3.alloc (.cells #[.bool g, .slice no nn nn, .slice eo en en] 45)) R (str r2) ∧ w.grownBy (w3.alloc (.cells #[.bool g, .slice no nn nn, .slice eo en en] 45)) (some R) ∧ RBox (w3.alloc (.cells #[.bool g, .slice no nn nn, .slice eo en en] 45)) w.heap.size false none 0 0 none 0 0 ∧ RatAt (w3.alloc (.cells #[.bool g, .slice no nn nn, .slice eo en en] 45)) no nn nn eo en en ⟨c == 1, x, y⟩ ∧ RBox (w3.alloc (.cells #[.bool g, .slice no nn nn, .slice eo en en] 45)) w3.heap.size g no nn nn eo en en) :=
    ⟨left_alloc H3.out.1 _, grown2 H3.out.2.1 (grown_alloc w3 _ (some R)), H3.out.2.2.1.alloc _, H3.out.2.2.2.1.below hb3, hbx⟩
  have c0 := hbx.c0
  have c1 := hbx.c1
  have c2 := hbx.c2
  clear hb3 hbx
  go_wp2_with fail
  refine (rmay_r g no nn nn eo en en ⟨c == 1, x, y⟩ _ H4.out.2.2.2.1 HG.out.symm b H0.out.2.2.2.2.2.1).mono ?_
  rintro e w5 ⟨rfl, b5⟩
  have hbx5 := H4.out.2.2.2.2.below b5
  have hby5 := H4.out.2.2.1.below b5
  have H5 : Hid (Left w5 R (str r2) ∧ w.grownBy w5 (some R) ∧ RBox w5 w.heap.size false none 0 0 none 0 0 ∧ RatAt w5 no nn nn eo en en ⟨c == 1, x, y⟩ ∧ RBox w5 w3.heap.size g no nn nn eo en en) := ⟨H4.out.1.below b5, grown2 H4.out.2.1 (grown_below b5 _), hby5, H4.out.2.2.2.1.below b5, hbx5⟩
  have d0 := hbx5.c0
  have d1 := hbx5.c1
  have d2 := hbx5.c2
  have e0 := hby5.c0
  have e1 := hby5.c1
  have e2 := hby5.c2
  have f0 := hby5.f 0
  have f1 := hby5.f 1
  have f2 := hby5.f 2
  clear b5 hbx5 hby5 c0 c1 c2
  cases b with
  | true =>
    go_wp2_with fail
    refine (formed_yes _).mono ?_
    rintro e w6 ⟨rfl, rfl⟩
    go_wp2_with fail
    refine bodyPost_ret (results_r1 rfl _ (H5.out.2.2.1.set _ _ _ _ _ _ _) rfl) rfl ?_
    refine ⟨grown_set3 H5.out.2.1 (Nat.le_refl _) _ _ _, ?_⟩
    have h9 := H5.out.2.2.2.1.setR H5.out.2.2.1 (.bool g) (.slice no nn nn) (.slice eo en en)
    exact ⟨no, nn, eo, en, rfl, ⟨h9.num, h9.den⟩, H3.out.2.2.2.2.1, H3.out.2.2.2.2.2, left_set3 H5.out.1 (by have := H0.out.2.2.2.2.2.2.2; omega) _ _ _⟩
  | false =>
    go_wp2_with fail
    refine (formed_no _).mono ?_
    rintro e w6 ⟨rfl, rfl⟩
    exact ⟨rfl, H5.out.2.1, rfl⟩

theorem rational_ok (R : Nat) (s : List UInt8) (q : RatL) (rest : List UInt8) (w : World) (h : Left w R (str s)) (hn : RatIs s (.ok (q, rest))) (hs : s.length ≤ 700000) :
    Calls Tryz.prog 85 #[.pointer (some ⟨R, 0, none⟩)] w fun e w' => ∃ no nn eo en, e = .returned (.agg #[.bool q.neg, .slice no nn nn, .slice eo en en]) ∧ RatAt w' no nn nn eo en en q ∧ Left w' R (str rest) ∧ w.grownBy w' (some R) ∧ Fresh w.heap.size no ∧ Fresh w.heap.size eo := by
  obtain ⟨c, t, x, r1, y, rfl, hc, h1, h2, rfl, hm⟩ := hn.parts
  refine (rational_both R c t x r1 y rest w h hc h1 h2 (by simp at hs; omega) true ⟨fun _ => hm, fun _ => rfl⟩).mono ?_
  rintro e w' ⟨g1, g2⟩
  rw [if_pos rfl] at g2
  obtain ⟨no, nn, eo, en, g3, g4, g5, g6, g7⟩ := g2
  exact ⟨no, nn, eo, en, g3, g4, g7, g1, g5, g6⟩

set_option maxRecDepth 100000 in
set_option maxHeartbeats 4000000 in
theorem rational_err (R : Nat) (s : List UInt8) (k : Int) (w : World) (h : Left w R (str s)) (hn : RatIs s (.error k)) (hs : s.length ≤ 700000) :
    Calls Tryz.prog 85 #[.pointer (some ⟨R, 0, none⟩)] w fun e w' => e = pan k ∧ w.grownBy w' (some R) := by
  have hR := h.lt
  rcases hn.fault with ⟨rfl, rfl⟩ | ⟨c, t, rfl, ⟨hc, rfl⟩ | ⟨hc, h1⟩ | ⟨x, r1, hc, h1, h2⟩ | ⟨x, r1, y, r2, hc, h1, h2, hm, rfl⟩⟩
  · have H0 : Hid (Left w R (str [])) := h
    clear h hn hs hR
    go_enter Tryz.func85, Tryz.ntmps85
    go_wp2_with fail
    refine (upTo_short R 1 _ (left_alloc H0.out _)).mono ?_
    rintro e w1 ⟨rfl, rfl⟩
    exact ⟨rfl, rfl, grown_alloc w _ (some R)⟩
  · have H0 : Hid (Left w R (str (c :: t)) ∧ 1 < c.toNat ∧ t.length ≤ 700000) := ⟨h, hc, by simp at hs; omega⟩
    clear h hn hs hR hc
    go_enter Tryz.func85, Tryz.ntmps85
    go_wp2_with fail
    refine (upTo_form R c t 1 _ (left_alloc H0.out.1 _) H0.out.2.1 (by have := H0.out.2.2; omega)).mono ?_
    rintro e w1 ⟨rfl, g1⟩
    exact ⟨rfl, rfl, grown2 (grown_alloc w _ (some R)) g1⟩
  · have H0 : Hid (Left w R (str (c :: t)) ∧ c.toNat ≤ 1 ∧ t.length ≤ 700000 ∧ natL t = .error k) := ⟨h, hc, by simp at hs; omega, h1⟩
    have hcg := eq_one c hc
    clear h hn hs hR hc h1
    go_enter Tryz.func85, Tryz.ntmps85
    go_wp2_with fail
    refine (upTo_ok R c t 1 _ (left_alloc H0.out.1 _) H0.out.2.1 (by have := H0.out.2.2.1; omega)).mono ?_
    rintro e w1 ⟨rfl, l1, g1⟩
    have H1 : Hid (Left w1 R (str t) ∧ w.grownBy w1 (some R)) := ⟨l1, grown2 (grown_alloc w _ (some R)) g1⟩
    clear l1 g1
    go_wp2_with fail
    refine (natural_err R t k _ H1.out.1 H0.out.2.2.2 (by have := H0.out.2.2.1; omega)).mono ?_
    rintro e w2 ⟨rfl, g2⟩
    exact ⟨rfl, rfl, grown2 H1.out.2 g2⟩
  · have hl1 := (natL_one t x r1 h1).2.2.2
    have H0 : Hid (Left w R (str (c :: t)) ∧ c.toNat ≤ 1 ∧ t.length ≤ 700000 ∧ natL t = .ok (x, r1) ∧ natL r1 = .error k ∧ r1.length ≤ t.length) := ⟨h, hc, by simp at hs; omega, h1, h2, hl1⟩
    have hcg := eq_one c hc
    clear h hn hs hR hc h1 h2 hl1
    go_enter Tryz.func85, Tryz.ntmps85
    go_wp2_with fail
    refine (upTo_ok R c t 1 _ (left_alloc H0.out.1 _) H0.out.2.1 (by have := H0.out.2.2.1; omega)).mono ?_
    rintro e w1 ⟨rfl, l1, g1⟩
    have H1 : Hid (Left w1 R (str t) ∧ w.grownBy w1 (some R)) := ⟨l1, grown2 (grown_alloc w _ (some R)) g1⟩
    clear l1 g1
    go_wp2_with fail
    refine (natural_ok R t x r1 _ H1.out.1 H0.out.2.2.2.1 (by have := H0.out.2.2.1; omega)).mono ?_
    rintro e w2 ⟨no, nn, rfl, ro2, f2, l2, g2⟩
    have H2 : Hid (Left w2 R (str r1) ∧ w.grownBy w2 (some R)) := ⟨l2, grown2 H1.out.2 g2⟩
    clear l2 g2 ro2 f2
    go_wp2_with fail
    refine (natural_err R r1 k _ H2.out.1 H0.out.2.2.2.2.1 (by have := H0.out.2.2.1; have := H0.out.2.2.2.2.2; omega)).mono ?_
    rintro e w3 ⟨rfl, g3⟩
    exact ⟨rfl, rfl, grown2 H2.out.2 g3⟩
  · refine (rational_both R c t x r1 y r2 w h hc h1 h2 (by simp at hs; omega) false ⟨(fun e => by cases e), fun e => absurd e hm⟩).mono ?_
    rintro e w' ⟨g1, g2⟩
    rw [if_neg (by decide)] at g2
    exact ⟨g2, g1⟩

theorem results_b {fn : Func} (hf : fn.results = #[.cell 4 45, .tmp 5, .cell 6 27]) (tmps : Array Value) {w : World} {A B : Nat} {neg : Bool} {no : Option Addr} {nn nc : Nat} {eo : Option Addr} {en ec : Nat} {n : Int} (S : ByteArray) (h : RBox w A neg no nn nc eo en ec) (he : ErrBox w B n)
    (h4 : tmps[4]?.getD undef = .pointer (some ⟨A, 0, none⟩)) (h5 : tmps[5]?.getD undef = .string S) (h6 : tmps[6]?.getD undef = .pointer (some ⟨B, 0, none⟩)) :
    (results fn tmps).run Tryz.prog w = .ok (.tuple #[.agg #[.bool neg, .slice no nn nc, .slice eo en ec], .string S, .int .i64 n]) w := by
  have hc := he.c
  have h0 := h.c0
  have h1 := h.c1
  have h2 := h.c2
  simp only [results, hf]
  simp [Result.andThen, asAddr, h4, h5, h6, go_sem, hc, h0, h1, h2]

theorem catch60 (p : Addr) (x n : Int) (w : World) (hc : w.cell? p = some (.int .i64 x)) (hz : w.frozen? p = false) :
    CallsD Tryz.prog 108 #[.pointer (some p)] (.panicking [{ v := .iface 27 (.int .i64 n), recovered := false }]) w fun e u' w' =>
      e = .returned (.tuple #[]) ∧ u' = .panicking [{ v := .iface 27 (.int .i64 n), recovered := true }] ∧ w' = w.setCell p (.int .i64 n) := by
  have hta : ∀ w : World, (binOp BinOp.neq 20 (.iface 27 (.int .i64 n)) .nilIface).run Tryz.prog w = .ok (.bool true) w := fun _ => by kernel_rfl
  have hass : ∀ w : World, (Instr.typeAssert (.iface 27 (.int .i64 n)) 20 27 false).run Tryz.prog w = .ok (.int .i64 n) w := fun _ => by kernel_rfl
  refine callsD_of_wpS Tryz.func108 rfl fun c₀ cs hu => ?_
  apply wpS_seq
  apply wpS_region
  simp [wpOpsS, go_sem, recoverD, hu, Tryz.ntmps108, Exit.thenS]
  apply wpS_seq
  apply wpS_region
  simp [wpOpsS, go_sem, hta, Exit.thenS]
  refine wpS_cond (t := true) (by simp [Act.eval, Array.replicate]) ?_
  simp only [if_true]
  apply wpS_region
  simp [wpOpsS, go_sem, hass, hc, hz, bodyPostS, results, Tryz.results108]

theorem idle60 (p : Addr) (w : World) :
    CallsD Tryz.prog 108 #[.pointer (some p)] .returning w fun e u' w' => e = .returned (.tuple #[]) ∧ u' = .returning ∧ w' = w := by
  have hta : ∀ w : World, (binOp BinOp.neq 20 .nilIface .nilIface).run Tryz.prog w = .ok (.bool false) w := fun _ => by kernel_rfl
  refine callsD_of_wpS Tryz.func108 rfl fun c₀ cs hu => ?_
  apply wpS_seq
  apply wpS_region
  simp [wpOpsS, go_sem, recoverD, hu, Tryz.ntmps108, Exit.thenS]
  apply wpS_seq
  apply wpS_region
  simp [wpOpsS, go_sem, hta, Exit.thenS]
  refine wpS_cond (t := false) (by simp [Act.eval, Array.replicate]) ?_
  simp only [Bool.false_eq_true, if_false]
  refine wpS_of_wp (wp_skip ?_)
  cases c₀
  simp_all [bodyPostS, results, Tryz.results108]

theorem three_new (w : World) (S : ByteArray) :
    RBox (((w.alloc (.cells #[.bool false, .slice none 0 0, .slice none 0 0] 45)).alloc (.cells #[.int .i64 0] 27)).alloc (.cells #[.string S] 149)) w.heap.size false none 0 0 none 0 0 ∧
    ErrBox (((w.alloc (.cells #[.bool false, .slice none 0 0, .slice none 0 0] 45)).alloc (.cells #[.int .i64 0] 27)).alloc (.cells #[.string S] 149)) (w.heap.size + 1) 0 ∧
    Left (((w.alloc (.cells #[.bool false, .slice none 0 0, .slice none 0 0] 45)).alloc (.cells #[.int .i64 0] 27)).alloc (.cells #[.string S] 149)) (w.heap.size + 2) S ∧
    Below w.heap.size w (((w.alloc (.cells #[.bool false, .slice none 0 0, .slice none 0 0] 45)).alloc (.cells #[.int .i64 0] 27)).alloc (.cells #[.string S] 149)) := by
  have h2 := err_new (w.alloc (.cells #[.bool false, .slice none 0 0, .slice none 0 0] 45)) 0 (.cells #[.string S] 149)
  have h3 := left_new (w.alloc (.cells #[.bool false, .slice none 0 0, .slice none 0 0] 45)) (.cells #[.int .i64 0] 27) S
  rw [World.size_alloc] at h2 h3
  exact ⟨((RBox.new w false none 0 0 none 0 0).alloc _).alloc _, h2, h3, (((Below.refl _ _).alloc (Nat.le_refl _) _).alloc (by simp) _).alloc (by simp; omega) _⟩

set_option maxRecDepth 100000 in
set_option maxHeartbeats 4000000 in
theorem beginR_ok (s : List UInt8) (q : RatL) (rest : List UInt8) (w : World) (hn : RatIs s (.ok (q, rest))) (hs : s.length ≤ 700000) :
    Calls Tryz.prog 84 #[.string (str s), .func (.func 85) #[] #[]] w fun e w' => ∃ no nn eo en, e = .returned (.tuple #[.agg #[.bool q.neg, .slice no nn nn, .slice eo en en], .string (str rest), .int .i64 0]) ∧ RatAt w' no nn nn eo en en q ∧ Below w.heap.size w w' := by
  have hmf : ∀ (fn : Fn) (first cap : Array Value) (w : World), (Instr.makeFunc fn first cap).run Tryz.prog w = .ok (.func fn first cap) w := fun _ _ _ _ => rfl
  have H0 : Hid (RatIs s (.ok (q, rest)) ∧ s.length ≤ 700000) := ⟨hn, hs⟩
  have HN : Hid _ := three_new w (str s)
  clear hn hs
  go_enter_defers Tryz.func84, Tryz.ntmps84
  go_wp2_with fail
  refine (rational_ok (w.heap.size + 2) s q rest _ HN.out.2.2.1 H0.out.1 H0.out.2).mono ?_
  rintro e w1 ⟨no, nn, eo, en, rfl, hr, hl, hg, fn1, fn2⟩
  have hA := rbox_grown HN.out.1 hg (by omega)
  have hE : ErrBox w1 (w.heap.size + 1) 0 := (hg.block (w.heap.size + 1) (by simp) (by simp)).trans HN.out.2.1
  have hBl : Below w.heap.size w w1 := below_grow HN.out.2.2.2 hg (by omega)
  obtain ⟨W2, hW2⟩ : ∃ W2, W2 = ((w1.setCell ⟨w.heap.size, 0, none⟩ (.bool q.neg)).setCell ⟨w.heap.size, 1, none⟩ (.slice no nn nn)).setCell ⟨w.heap.size, 2, none⟩ (.slice eo en en) := ⟨_, rfl⟩
  have hA2 := hA.set q.neg no nn nn eo en en
  have hE2 := err_set3 hE (show w.heap.size + 1 ≠ w.heap.size by omega) (.bool q.neg) (.slice no nn nn) (.slice eo en en)
  have hL2 := left_set3 hl (show w.heap.size + 2 ≠ w.heap.size by omega) (.bool q.neg) (.slice no nn nn) (.slice eo en en)
  have hB2 := below_set hBl (Nat.le_refl _) (.bool q.neg) (.slice no nn nn) (.slice eo en en)
  have fr1 : Fresh (w.heap.size + 3) no := fn1.mono (by simp)
  have fr2 : Fresh (w.heap.size + 3) eo := fn2.mono (by simp)
  have hR2 : RatAt (((w1.setCell ⟨w.heap.size, 0, none⟩ (.bool q.neg)).setCell ⟨w.heap.size, 1, none⟩ (.slice no nn nn)).setCell ⟨w.heap.size, 2, none⟩ (.slice eo en en)) no nn nn eo en en q := hr.setR hA _ _ _
  rw [← hW2] at hA2 hE2 hL2 hB2 hR2
  have HF : Hid (RBox W2 w.heap.size q.neg no nn nn eo en en ∧ ErrBox W2 (w.heap.size + 1) 0 ∧ Below w.heap.size w W2 ∧ RatAt W2 no nn nn eo en en q ∧ Fresh (w.heap.size + 3) no ∧ Fresh (w.heap.size + 3) eo) := ⟨hA2, hE2, hB2, hR2, fr1, fr2⟩
  have f0 := hA.f 0
  have f1 := hA.f 1
  have f2 := hA.f 2
  have c0 := hA.c0
  have c1 := hA.c1
  have c2 := hA.c2
  have HW2 : Hid _ := hW2
  clear hW2
  go_wp2_with fail
  rw [← HW2.out]
  clear HW2 f0 f1 f2 c0 c1 c2
  have f0 := hA2.f 0
  have f1 := hA2.f 1
  have f2 := hA2.f 2
  have c0 := hA2.c0
  have c1 := hA2.c1
  have c2 := hA2.c2
  have e0 := hE2.c
  have ef := hE2.f
  have l0 := hL2.c
  clear hA hE hBl hr hl hg fn1 fn2 hA2 hE2 hL2 hB2 hR2 fr1 fr2
  go_region
  go_wp2
  refine leaves_cons (f := 108) (args := #[.pointer (some ⟨w.heap.size + 1, 0, none⟩)]) (by simp) (by simp [go_sem]) ?_
  refine (idle60 ⟨w.heap.size + 1, 0, none⟩ _).mono ?_
  rintro e u' w'' ⟨rfl, rfl, rfl⟩
  have r1 : RBox _ w.heap.size q.neg no nn nn eo en en := rbox_set (HF.out.1.set q.neg no nn nn eo en en) (show w.heap.size ≠ w.heap.size + 1 by omega) (.int .i64 0)
  have r2 := (err_set3 HF.out.2.1 (show w.heap.size + 1 ≠ w.heap.size by omega) (.bool q.neg) (.slice no nn nn) (.slice eo en en)).set 0
  have r3 := HF.out.2.2.2.1.setR HF.out.1 (.bool q.neg) (.slice no nn nn) (.slice eo en en)
  have r4 := (below_set HF.out.2.2.1 (Nat.le_refl _) (.bool q.neg) (.slice no nn nn) (.slice eo en en)).setCell (show w.heap.size ≤ (⟨w.heap.size + 1, 0, none⟩ : Addr).block by show w.heap.size ≤ w.heap.size + 1; omega) (.int .i64 0)
  refine ⟨_, results_b rfl _ (str rest) (rbox_drew r1) (err_drew r2) rfl rfl rfl, no, nn, eo, en, rfl, ⟨?_, ?_⟩, r4.drew⟩
  · exact (row_set r3.num (HF.out.2.2.2.2.1.mono (by omega)) _).drew
  · exact (row_set r3.den (HF.out.2.2.2.2.2.mono (by omega)) _).drew

set_option maxRecDepth 100000 in
set_option maxHeartbeats 4000000 in
theorem beginR_err (s : List UInt8) (n : Int) (w : World) (hn : RatIs s (.error n)) (hs : s.length ≤ 700000) :
    Calls Tryz.prog 84 #[.string (str s), .func (.func 85) #[] #[]] w fun e w' => e = .returned (.tuple #[.agg #[.bool false, .slice none 0 0, .slice none 0 0], .string (str []), .int .i64 n]) ∧ Below w.heap.size w w' := by
  have hmf : ∀ (fn : Fn) (first cap : Array Value) (w : World), (Instr.makeFunc fn first cap).run Tryz.prog w = .ok (.func fn first cap) w := fun _ _ _ _ => rfl
  have H0 : Hid (RatIs s (.error n) ∧ s.length ≤ 700000) := ⟨hn, hs⟩
  have HN : Hid _ := three_new w (str s)
  clear hn hs
  go_enter_defers Tryz.func84, Tryz.ntmps84
  go_wp2_with fail
  refine (rational_err (w.heap.size + 2) s n _ HN.out.2.2.1 H0.out.1 H0.out.2).mono ?_
  rintro e w1 ⟨rfl, hg⟩
  have hA := rbox_grown HN.out.1 hg (by omega)
  have hE : ErrBox w1 (w.heap.size + 1) 0 := (hg.block (w.heap.size + 1) (by simp) (by simp)).trans HN.out.2.1
  have hBl : Below w.heap.size w w1 := below_grow HN.out.2.2.2 hg (by omega)
  show Leaves _ _ _ _ _ _ _
  refine leaves_cons (f := 108) (args := #[.pointer (some ⟨w.heap.size + 1, 0, none⟩)]) (by simp) (by simp [go_sem]) ?_
  refine (catch60 ⟨w.heap.size + 1, 0, none⟩ 0 n _ hE.c hE.f).mono ?_
  rintro e u' w'' ⟨rfl, rfl, rfl⟩
  exact ⟨_, results_b rfl _ (str []) (rbox_set hA (show w.heap.size ≠ w.heap.size + 1 by omega) _) (hE.set n) rfl rfl rfl, rfl, hBl.setCell (show w.heap.size ≤ (⟨w.heap.size + 1, 0, none⟩ : Addr).block by show w.heap.size ≤ w.heap.size + 1; omega) _⟩

theorem results_g {fn : Func} (hf : fn.results = #[.cell 2 45, .tmp 3, .tmp 4]) (tmps : Array Value) {w : World} {A : Nat} {neg : Bool} {no : Option Addr} {nn nc : Nat} {eo : Option Addr} {en ec : Nat} (u v : Value) (h : RBox w A neg no nn nc eo en ec)
    (h2 : tmps[2]?.getD undef = .pointer (some ⟨A, 0, none⟩)) (h3 : tmps[3]?.getD undef = u) (h4 : tmps[4]?.getD undef = v) :
    (results fn tmps).run Tryz.prog w = .ok (.tuple #[.agg #[.bool neg, .slice no nn nc, .slice eo en ec], u, v]) w := by
  simp only [results, hf]
  simp [Result.andThen, asAddr, h2, h3, h4, load_r h]

set_option maxRecDepth 100000 in
set_option maxHeartbeats 2000000 in
theorem getRat_ok (s : List UInt8) (q : RatL) (rest : List UInt8) (w : World) (hn : RatIs s (.ok (q, rest))) (hs : s.length ≤ 700000) :
    Calls Tryz.prog 55 #[.string (str s)] w fun e w' => ∃ no nn eo en, e = .returned (.tuple #[.agg #[.bool q.neg, .slice no nn nn, .slice eo en en], .string (str rest), .int .i64 0]) ∧ RatAt w' no nn nn eo en en q ∧ Below w.heap.size w w' := by
  have H0 : Hid (RatIs s (.ok (q, rest)) ∧ s.length ≤ 700000 ∧ RBox (w.alloc (.cells #[.bool false, .slice none 0 0, .slice none 0 0] 45)) w.heap.size false none 0 0 none 0 0 ∧ Below w.heap.size w (w.alloc (.cells #[.bool false, .slice none 0 0, .slice none 0 0] 45))) := ⟨hn, hs, RBox.new w _ _ _ _ _ _ _, (Below.refl _ _).alloc (Nat.le_refl _) _⟩
  clear hn hs
  go_enter Tryz.func55, Tryz.ntmps55
  go_wp2_with fail
  refine (beginR_ok s q rest _ H0.out.1 H0.out.2.1).mono ?_
  rintro e w1 ⟨no, nn, eo, en, rfl, hr, hb⟩
  have hbx := H0.out.2.2.1.below hb
  have H1 : Hid (RatAt w1 no nn nn eo en en q ∧ Below w.heap.size w w1 ∧ RBox w1 w.heap.size false none 0 0 none 0 0) := ⟨hr, chain H0.out.2.2.2 hb, hbx⟩
  have f0 := hbx.f 0
  have f1 := hbx.f 1
  have f2 := hbx.f 2
  have c0 := hbx.c0
  have c1 := hbx.c1
  have c2 := hbx.c2
  clear hr hb hbx
  go_wp2_with fail
  refine bodyPost_ret (results_g rfl _ _ _ (H1.out.2.2.set q.neg no nn nn eo en en) rfl rfl rfl) rfl ?_
  exact ⟨no, nn, eo, en, rfl, H1.out.1.setR H1.out.2.2 _ _ _, below_set H1.out.2.1 (Nat.le_refl _) _ _ _⟩

set_option maxRecDepth 100000 in
set_option maxHeartbeats 2000000 in
theorem getRat_err (s : List UInt8) (n : Int) (w : World) (hn : RatIs s (.error n)) (hs : s.length ≤ 700000) :
    Calls Tryz.prog 55 #[.string (str s)] w fun e w' => e = .returned (.tuple #[.agg #[.bool false, .slice none 0 0, .slice none 0 0], .string (str []), .int .i64 n]) ∧ Below w.heap.size w w' := by
  have H0 : Hid (RatIs s (.error n) ∧ s.length ≤ 700000 ∧ RBox (w.alloc (.cells #[.bool false, .slice none 0 0, .slice none 0 0] 45)) w.heap.size false none 0 0 none 0 0 ∧ Below w.heap.size w (w.alloc (.cells #[.bool false, .slice none 0 0, .slice none 0 0] 45))) := ⟨hn, hs, RBox.new w _ _ _ _ _ _ _, (Below.refl _ _).alloc (Nat.le_refl _) _⟩
  clear hn hs
  go_enter Tryz.func55, Tryz.ntmps55
  go_wp2_with fail
  refine (beginR_err s n _ H0.out.1 H0.out.2.1).mono ?_
  rintro e w1 ⟨rfl, hb⟩
  have hbx := H0.out.2.2.1.below hb
  have H1 : Hid (Below w.heap.size w w1 ∧ RBox w1 w.heap.size false none 0 0 none 0 0) := ⟨chain H0.out.2.2.2 hb, hbx⟩
  have f0 := hbx.f 0
  have f1 := hbx.f 1
  have f2 := hbx.f 2
  have c0 := hbx.c0
  have c1 := hbx.c1
  have c2 := hbx.c2
  clear hb hbx
  go_wp2_with fail
  exact bodyPost_ret (results_g rfl _ _ _ (H1.out.2.set false none 0 0 none 0 0) rfl rfl rfl) rfl ⟨rfl, below_set H1.out.1 (Nat.le_refl _) _ _ _⟩
end Go.Proofs.YtnedghhcidohnaaGreat
