/-
  Frames put one behind the other, and which of them are told.
-/
import Derived.Test.YtfpiepephljmgaaDoorGAll
namespace Go.Proofs.YtfpiepephljmgaaDoor

/-- Frames as bytes, one behind the other. -/
def cat (fs : List Frm) : List UInt8 := (fs.map putF).flatten
theorem cat_cons (f : Frm) (fs : List Frm) : cat (f :: fs) = putF f ++ cat fs := rfl
theorem cat_snoc (f : Frm) (fs : List Frm) : cat (fs ++ [f]) = cat fs ++ putF f := by simp [cat]
theorem cat_append (fs gs : List Frm) : cat (fs ++ gs) = cat fs ++ cat gs := by simp [cat]

/-- The frames that come in turn. -/
def allF : Nat → Nat → List Frm → List Frm
  | _, _, [] => []
  | q, e, f :: fs => if f.epoch = e ∧ f.seq = q then f :: allF (q + 1) e fs else []

theorem allF_len : ∀ (fs : List Frm) (q e : Nat), (allF q e fs).length ≤ fs.length
  | [], _, _ => Nat.le_refl _
  | f :: fs, q, e => by
    simp only [allF]
    split
    · have := allF_len fs (q + 1) e
      simp only [List.length_cons]
      omega
    · exact Nat.zero_le _

theorem allF_snoc_on : ∀ (fs : List Frm) (q e : Nat) (f : Frm), allF q e fs = fs → f.epoch = e → f.seq = q + fs.length → allF q e (fs ++ [f]) = fs ++ [f]
  | [], q, e, f, _, h1, h2 => by
    simp only [List.nil_append, allF]
    rw [if_pos ⟨h1, by simpa using h2⟩]
  | g :: fs, q, e, f, h, h1, h2 => by
    simp only [allF] at h
    simp only [List.cons_append, allF]
    split at h
    · rename_i hg
      rw [if_pos hg]
      have h3 : allF (q + 1) e fs = fs := by injection h
      rw [allF_snoc_on fs (q + 1) e f h3 h1 (by rw [h2, List.length_cons]; omega)]
    · cases h

theorem allF_snoc_no : ∀ (fs : List Frm) (q e : Nat) (f : Frm), allF q e fs = fs → ¬ (f.epoch = e ∧ f.seq = q + fs.length) → allF q e (fs ++ [f]) = fs
  | [], q, e, f, _, h1 => by
    simp only [List.nil_append, allF]
    rw [if_neg (by simpa using h1)]
  | g :: fs, q, e, f, h, h1 => by
    simp only [allF] at h
    simp only [List.cons_append, allF]
    split at h
    · rename_i hg
      rw [if_pos hg]
      have h3 : allF (q + 1) e fs = fs := by injection h
      rw [allF_snoc_no fs (q + 1) e f h3 (fun h => h1 ⟨h.1, by rw [h.2, List.length_cons]; omega⟩)]
    · cases h

theorem allF_snoc_off : ∀ (fs : List Frm) (q e : Nat) (f : Frm), allF q e fs ≠ fs → allF q e (fs ++ [f]) = allF q e fs ∧ allF q e (fs ++ [f]) ≠ fs ++ [f]
  | [], q, e, f, h => absurd rfl h
  | g :: fs, q, e, f, h => by
    simp only [allF] at h
    simp only [List.cons_append, allF]
    by_cases hg : g.epoch = e ∧ g.seq = q
    · rw [if_pos hg, if_pos hg]
      rw [if_pos hg] at h
      have h3 : allF (q + 1) e fs ≠ fs := fun h4 => h (by rw [h4])
      obtain ⟨h5, h6⟩ := allF_snoc_off fs (q + 1) e f h3
      exact ⟨by rw [h5], fun h7 => h6 (by injection h7)⟩
    · rw [if_neg hg, if_neg hg]
      exact ⟨rfl, fun h => by cases h⟩

theorem allL_nil (q e : Nat) : allL q e [] = [] := rfl

theorem all_cat : ∀ (fs : List Frm) (q e : Nat), (∀ f ∈ fs, f.ok) → (allL q e (cat fs)).map Prod.fst = allF q e fs
  | [], _, _, _ => rfl
  | f :: fs, q, e, h => by
    rw [cat_cons]
    have hf := first_put f (cat fs) (h f List.mem_cons_self)
    simp only [allF]
    by_cases hg : f.epoch = e ∧ f.seq = q
    · rw [if_pos hg, allL_yes hf hg.1 hg.2, List.map_cons, all_cat fs (q + 1) e (fun g hg => h g (List.mem_cons_of_mem _ hg))]
    · rw [if_neg hg, allL_no hf hg]
      rfl

/-- How many bytes frames take. -/
def sumL : List (Frm × List UInt8) → Nat
  | [] => 0
  | x :: l => 24 + x.1.text.length + sumL l

theorem left_sum : ∀ (n q e : Nat) (s : List UInt8), s.length = (leftL s (turnL n q e s)).length + sumL (turnL n q e s)
  | 0, _, _, _ => rfl
  | n + 1, q, e, s => by
    simp only [turnL]
    split
    · rfl
    · rename_i f r hf
      have h1 := first_less hf
      split
      · rw [leftL_cons]
        simp only [sumL]
        have := left_sum n (q + 1) e r
        omega
      · rfl

theorem sum_empty : ∀ (l : List (Frm × List UInt8)), (∀ f ∈ l.map Prod.fst, f.text = []) → sumL l = 24 * l.length
  | [], _ => rfl
  | x :: l, h => by
    have h1 := h x.1 (by simp)
    have h2 := sum_empty l (fun f hf => h f (by simp only [List.map_cons, List.mem_cons]; exact .inr hf))
    simp only [sumL, List.length_cons, h2, h1, List.length_nil]
    omega

theorem allF_mem : ∀ (fs : List Frm) (q e : Nat) (f : Frm), f ∈ allF q e fs → f ∈ fs
  | [], _, _, _, h => h
  | g :: fs, q, e, f, h => by
    simp only [allF] at h
    split at h
    · rcases List.mem_cons.1 h with rfl | h
      · exact List.mem_cons_self
      · exact List.mem_cons_of_mem _ (allF_mem fs (q + 1) e f h)
    · cases h

/-- Frames in turn, and something behind. -/
theorem all_behind : ∀ (fs : List Frm) (q e : Nat) (r : List UInt8), (∀ f ∈ fs, f.ok) → allF q e fs = fs →
    (allL q e (cat fs ++ r)).map Prod.fst = fs ++ (allL (q + fs.length) e r).map Prod.fst ∧ leftL (cat fs ++ r) (allL q e (cat fs ++ r)) = leftL r (allL (q + fs.length) e r)
  | [], _, _, _, _, _ => ⟨rfl, rfl⟩
  | f :: fs, q, e, r, h, ht => by
    rw [cat_cons, List.append_assoc]
    have hf := first_put f (cat fs ++ r) (h f List.mem_cons_self)
    simp only [allF] at ht
    split at ht
    · rename_i hg
      have h3 : allF (q + 1) e fs = fs := by injection ht
      obtain ⟨h4, h5⟩ := all_behind fs (q + 1) e r (fun g hg => h g (List.mem_cons_of_mem _ hg)) h3
      rw [allL_yes hf hg.1 hg.2, List.map_cons, leftL_cons, h4, h5, List.length_cons, show q + 1 + fs.length = q + (fs.length + 1) by omega]
      exact ⟨rfl, rfl⟩
    · cases ht
end Go.Proofs.YtfpiepephljmgaaDoor
