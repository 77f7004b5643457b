/-
  What was put is got again: numbers, texts, naturals, ratios.
-/
import Derived.Test.YtmmbgfbliekkgaaOctS
namespace Go.Proofs.Ytmmbgfbliekkgaa
open Go.RowKit

theorem limbs_back : ∀ l : List Int, Limbs l → limbsL (limbB l) l.length = l.reverse
  | [], _ => rfl
  | x :: l, h => by
    have e : limbB (x :: l) = lowB x.toNat 8 ++ limbB l := by simp [limbB]
    have h8 : (lowB x.toNat 8).length = 8 := lowB_length _ _
    have hx := h x (List.mem_cons_self)
    have hl : Limbs l := fun y hy => h y (List.mem_cons_of_mem _ hy)
    rw [e, List.length_cons, limbsL_succ _ _ (by rw [List.length_append, h8, limbB_length]; omega), List.drop_left' h8, List.take_left' h8, limbs_back l hl, List.reverse_cons, join_low]
    congr 2
    have h256 : (256 : Nat) ^ 8 = 18446744073709551616 := by decide
    rw [h256]
    unfold BB at hx
    omega

theorem natL_put (xs : List Int) (hm : May xs) (hl : Limbs xs) (r : List UInt8) : natL (putN xs ++ r) = .ok (xs, r) := by
  have h8 := hm.1
  have hr : Limbs xs.reverse := fun y hy => hl y (List.mem_reverse.1 hy)
  have hb := limbs_back xs.reverse hr
  rw [List.length_reverse, List.reverse_reverse] at hb
  have hlen : (limbB xs.reverse).length = 8 * xs.length := by rw [limbB_length, List.length_reverse]
  unfold natL putN
  rw [List.append_assoc, numL_put _ (by omega)]
  simp only
  rw [if_neg (by omega), if_neg (by rw [List.length_append, hlen]; omega), List.take_left' hlen, List.drop_left' hlen, hb, if_pos ((mayB_iff xs).2 hm)]

theorem textL_put (s : List UInt8) (hs : s.length ≤ 80000) (r : List UInt8) : textL (putT s ++ r) = .ok (s, r) := by
  unfold textL putT
  rw [List.append_assoc, numL_put _ (by omega)]
  simp only
  rw [if_neg (by rw [List.length_append]; omega), List.take_left' rfl, List.drop_left' rfl]

theorem RatIs.put (q : RatL) (hm : MayR q) (hl : LimR q) (r : List UInt8) : RatIs (putR q ++ r) (.ok (q, r)) := by
  obtain ⟨g, x, y⟩ := q
  have h1 := natL_put x hm.num hl.1 (putN y ++ r)
  have h2 := natL_put y hm.den hl.2 r
  have e : putR ⟨g, x, y⟩ ++ r = (if g then 1 else 0) :: (putN x ++ (putN y ++ r)) := by
    unfold putR
    rw [List.cons_append, List.append_assoc]
  rw [e]
  cases g with
  | false =>
    show RatIs ((0 : UInt8) :: (putN x ++ (putN y ++ r))) _
    unfold RatIs
    simp only
    rw [if_neg (by decide), h1]
    simp only
    rw [h2]
    exact ⟨fun _ => rfl, fun h => absurd hm h⟩
  | true =>
    show RatIs ((1 : UInt8) :: (putN x ++ (putN y ++ r))) _
    unfold RatIs
    simp only
    rw [if_neg (by decide), h1]
    simp only
    rw [h2]
    exact ⟨fun _ => rfl, fun h => absurd hm h⟩
end Go.Proofs.Ytmmbgfbliekkgaa
