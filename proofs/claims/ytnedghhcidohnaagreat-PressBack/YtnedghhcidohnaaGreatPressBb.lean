/-
  Beginnings are too short: no program.
-/
import Derived.Test.YtnedghhcidohnaaGreatLC1
import Derived.Test.YtnedghhcidohnaaGreatKB1
namespace Go.Proofs.YtnedghhcidohnaaGreat
open Go.RowKit

theorem take_lt {A : Type} {a b : List A} {k : Nat} (h : k < a.length) : (a ++ b).take k = a.take k := by
  rw [List.take_append_of_le_length (by omega)]
theorem take_ge {A : Type} {a b : List A} {k : Nat} (h : a.length ≤ k) : (a ++ b).take k = a ++ b.take (k - a.length) := by
  rw [List.take_append, List.take_of_length_le h]
theorem RatIs.cut {q : RatL} (hm : MayR q) (hl : LimR q) {k : Nat} (hk : k < (putR q).length) : RatIs ((putR q).take k) (.error 60) := by
  obtain ⟨g, x, y⟩ := q
  unfold putR at hk ⊢
  rw [List.length_cons, List.length_append] at hk
  dsimp only at hk ⊢
  match k, hk with
  | 0, _ => rfl
  | k + 1, hk =>
    rw [List.take_succ_cons]
    unfold RatIs
    dsimp only
    rw [if_neg (by cases g <;> simp)]
    by_cases h : k < (putN x).length
    · rw [take_lt h, natL_cut x hm.num.1 k h]
    · rw [take_ge (by omega), natL_put x hm.num hl.1]
      dsimp only
      rw [natL_cut y hm.den.1 _ (by omega)]
theorem TmIs.cut {t : TL} (hm : MayT t) (hl : LimR t.c) {k : Nat} (hk : k < (putTm t).length) : TmIs ((putTm t).take k) (.error 60) := by
  unfold putTm at hk ⊢
  rw [List.length_append] at hk
  by_cases h : k < (putR t.c).length
  · rw [take_lt h]
    exact ⟨.error 60, RatIs.cut hm.c hl h, rfl⟩
  · rw [take_ge (by omega)]
    refine ⟨_, RatIs.put t.c hm.c hl _, ?_⟩
    unfold TmAft
    dsimp only
    rw [if_pos (by rw [List.length_take]; simp at hk; omega)]
theorem EachIs.cut {A : Type} {one : List UInt8 → Except Int (A × List UInt8) → Prop} {f : A → List UInt8} : ∀ (l : List A), (∀ x ∈ l, ∀ r, one (f x ++ r) (.ok (x, r))) → (∀ x ∈ l, ∀ k, k < (f x).length → one ((f x).take k) (.error 60)) → ∀ k, k < (l.flatMap f).length → EachIs one l.length ((l.flatMap f).take k) (.error 60)
  | [], _, _, k, hk => absurd hk (by simp)
  | x :: l, h, g, k, hk => by
    rw [List.flatMap_cons, List.length_append] at hk
    rw [List.flatMap_cons]
    by_cases hx : k < (f x).length
    · rw [take_lt hx]
      exact ⟨.error 60, g x (.head _) k hx, rfl⟩
    · rw [take_ge (by omega)]
      exact ⟨_, h x (.head _) _, .error 60, EachIs.cut l (fun y hy => h y (.tail _ hy)) (fun y hy => g y (.tail _ hy)) _ (by omega), rfl⟩
theorem ManyIs.cut {A : Type} {one : List UInt8 → Except Int (A × List UInt8) → Prop} {f : A → List UInt8} {most : Nat} (l : List A) (hl : l.length ≤ most) (hm : most ≤ 60) (h : ∀ x ∈ l, ∀ r, one (f x ++ r) (.ok (x, r))) (g : ∀ x ∈ l, ∀ k, k < (f x).length → one ((f x).take k) (.error 60)) {k : Nat} (hk : k < (putL l.length ++ l.flatMap f).length) : ManyIs one most ((putL l.length ++ l.flatMap f).take k) (.error 60) := by
  rw [List.length_append] at hk
  unfold ManyIs
  by_cases hx : k < (putL l.length).length
  · rw [take_lt hx, numL_cut l.length (by omega) k hx]
  · rw [take_ge (by omega), numL_put l.length (by omega)]
    dsimp only
    rw [if_neg (by omega)]
    exact EachIs.cut l h g _ (by omega)
theorem GetIs.cut {o : Int} {p : List TL} (hm : MayP o p) (hl : ∀ t ∈ p, LimR t.c) {k : Nat} (hk : k < (putPs p).length) : GetIs o ((putPs p).take k) (.error 60) :=
  ⟨.error 60, ManyIs.cut p hm.len (by omega) (fun t ht r => TmIs.put (hm.may t ht) (hl t ht) r) (fun t ht _ h => TmIs.cut (hm.may t ht) (hl t ht) h) hk, rfl⟩
theorem GetLs.put {o : Int} {l : List (List TL)} (hn : l.length ≤ 24) (hm : ∀ p ∈ l, MayP o p) (hl : ∀ p ∈ l, ∀ t ∈ p, LimR t.c) (r : List UInt8) : GetLs o (putL l.length ++ l.flatMap putPs ++ r) (.ok (l, r)) :=
  ManyIs.put l hn (by omega) (fun p hp r => GetIs.put (hm p hp) (hl p hp) r) r
theorem GetLs.cut {o : Int} {l : List (List TL)} (hn : l.length ≤ 24) (hm : ∀ p ∈ l, MayP o p) (hl : ∀ p ∈ l, ∀ t ∈ p, LimR t.c) {k : Nat} (hk : k < (putL l.length ++ l.flatMap putPs).length) : GetLs o ((putL l.length ++ l.flatMap putPs).take k) (.error 60) :=
  ManyIs.cut l hn (by omega) (fun p hp r => GetIs.put (hm p hp) (hl p hp) r) (fun p hp _ h => GetIs.cut (hm p hp) (hl p hp) h) hk
theorem cut_rem (a : Int) (n : Nat) (h0 : 0 ≤ a) (h1 : a ≤ 65535) (hn : 0 < n) : Int.tmod a (n : Int) = ((a.toNat % n : Nat) : Int) ∧ a.toNat % n < n := by
  obtain ⟨m, rfl⟩ := Int.eq_ofNat_of_zero_le h0
  refine ⟨?_, Nat.mod_lt _ hn⟩
  rw [Int.tmod_eq_emod_of_nonneg (by omega)]
  simp
/-- The coefficients of what lies in memory are within their limits. -/
theorem PolyAt.lims {W : World} {lo : Option Addr} {n cap : Nat} {ps : List TP} {ls : List TL} (h : PolyAt W lo n cap ps ls) : ∀ t ∈ ls, LimR t.c := fun t ht => by
  obtain ⟨i, hi, rfl⟩ := List.mem_iff_getElem.1 ht
  obtain ⟨_, _, p, u, _, _, h2, h3, _, _⟩ := h.elem (j := i) (by rw [← h.len]; exact hi)
  rw [List.getElem?_eq_getElem hi] at h2
  injection h2 with h2
  rw [h2]
  exact h3.rat.lim
theorem ListAt.lims {W : World} {lo : Option Addr} {m : Nat} {lss : List (List TL)} (h : ListAt W lo m lss) : ∀ p ∈ lss, ∀ t ∈ p, LimR t.c := fun p hp => by
  obtain ⟨i, hi, rfl⟩ := List.mem_iff_getElem.1 hp
  obtain ⟨_, _, _, _, _, _, u, _, _, h2, h3, _⟩ := h.elem i (by rw [← h.len]; exact hi)
  rw [List.getElem?_eq_getElem hi] at h2
  injection h2 with h2
  rw [h2]
  exact h3.lims
end Go.Proofs.YtnedghhcidohnaaGreat
