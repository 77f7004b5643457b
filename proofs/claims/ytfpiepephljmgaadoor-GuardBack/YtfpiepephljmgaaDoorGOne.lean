/-
  What was put is the first one; what is the first one was put; a beginning of a frame is none.
-/
import Derived.Test.YtfpiepephljmgaaDoorGFst
namespace Go.Proofs.YtfpiepephljmgaaDoor
open Go.RowKit

theorem first_any (s : List UInt8) (w : World) (hT : Tab w) (hl : s.length ≤ 100000) :
    Calls Tryd.prog 13 #[.string (str s)] w fun e w' => e = .returned (told (firstL s)) ∧ Below w.heap.size w w' := by
  unfold firstL
  by_cases h0 : s = []
  · subst h0; rw [if_pos rfl]; exact first_none w
  · rw [if_neg h0]
    by_cases h1 : s.length < 24
    · rw [if_pos h1]; exact first_short s w h0 h1
    · rw [if_neg h1]
      by_cases h2 : 8192 < joinL (s.take 4)
      · rw [if_pos h2]
        have := first_cap s w (by omega) hl (.inl h2)
        rw [if_pos h2] at this
        exact this
      · rw [if_neg h2]
        by_cases h3 : s.length < 24 + joinL (s.take 4)
        · rw [if_pos h3]
          have := first_cap s w (by omega) hl (.inr h3)
          rw [if_neg h2] at this
          exact this
        · rw [if_neg h3]
          exact first_whole s w hT (by omega) hl _ rfl (by omega) (by omega)

theorem foldl_low (n k : Nat) : ∀ a : Nat, (lowB n k).foldl (fun n d => n * 256 + d.toNat) a = a * 256 ^ k + n % 256 ^ k := by
  induction k with
  | zero => intro a; simp [lowB, Nat.mod_one]
  | succ k ih =>
    intro a
    rw [lowB, List.foldl_cons, ih]
    have h1 : (UInt8.ofNat (n / 256 ^ k)).toNat = n / 256 ^ k % 256 := by simp
    rw [h1, Nat.mod_pow_succ, Nat.pow_succ, Nat.add_mul, Nat.mul_assoc, Nat.mul_comm 256 (256 ^ k), Nat.mul_comm (n / 256 ^ k % 256)]
    omega
theorem join_low (n k : Nat) (h : n < 256 ^ k) : joinL (lowB n k) = n := by
  unfold joinL
  rw [foldl_low, Nat.mod_eq_of_lt h]
  simp

theorem lowB_add (a n k : Nat) : lowB (256 ^ k * a + n) k = lowB n k := by
  induction k generalizing a with
  | zero => rfl
  | succ k ih =>
    rw [lowB, lowB, Nat.pow_succ, Nat.mul_assoc, ih, Nat.mul_add_div (Nat.pow_pos (by decide))]
    congr 1
    apply UInt8.toNat_inj.1
    simp

theorem foldl_join (t : List UInt8) : ∀ a : Nat, t.foldl (fun n d => n * 256 + d.toNat) a = 256 ^ t.length * a + joinL t := by
  induction t with
  | nil => intro a; simp [joinL]
  | cons b t ih =>
    intro a
    have h1 := ih (0 * 256 + b.toNat)
    have h2 : joinL (b :: t) = 256 ^ t.length * (0 * 256 + b.toNat) + joinL t := h1
    rw [List.foldl_cons, ih, h2, List.length_cons, Nat.pow_succ, Nat.mul_assoc, Nat.mul_add, Nat.mul_comm 256 a]
    simp only [Nat.zero_mul, Nat.zero_add]
    omega

theorem low_join (s : List UInt8) : lowB (joinL s) s.length = s := by
  induction s with
  | nil => rfl
  | cons b t ih =>
    have e : joinL (b :: t) = 256 ^ t.length * b.toNat + joinL t := by
      have := foldl_join t (0 * 256 + b.toNat)
      rw [joinL, List.foldl_cons, this]
      simp
    rw [List.length_cons, lowB, e, lowB_add, ih, Nat.mul_add_div (Nat.pow_pos (by decide)), Nat.div_eq_of_lt (joinL_lt t)]
    congr 1
    apply UInt8.toNat_inj.1
    simp

theorem tk {a b : List UInt8} {n : Nat} (h : a.length = n) : (a ++ b).take n = a := by subst h; simp
theorem dr {a b : List UInt8} {n : Nat} (h : a.length = n) : (a ++ b).drop n = b := by subst h; simp
theorem td (s : List UInt8) {b c : Nat} (h : b ≤ c) : s.take b ++ (s.take c).drop b = s.take c := by
  have := List.take_append_drop b (s.take c)
  rwa [List.take_take, Nat.min_eq_left h] at this

/-- A frame that may be put. -/
def Frm.ok (f : Frm) : Prop := f.seq < 18446744073709551616 ∧ f.epoch < 18446744073709551616 ∧ f.text.length ≤ 8192

theorem p4 : (256 : Nat) ^ 4 = 4294967296 := by decide
theorem p8 : (256 : Nat) ^ 8 = 18446744073709551616 := by decide

theorem unL_frm (f : Frm) (h : f.ok) : unL (frmL f) = f := by
  obtain ⟨x, y, t⟩ := f
  have e : frmL ⟨x, y, t⟩ = lowB t.length 4 ++ (lowB x 8 ++ (lowB y 8 ++ t)) := by simp [frmL, headL, List.append_assoc]
  have e1 : ((frmL ⟨x, y, t⟩).take 12).drop 4 = lowB x 8 := by
    rw [e, ← List.append_assoc, tk (by simp [lowB_length]), dr (lowB_length _ _)]
  have e2 : ((frmL ⟨x, y, t⟩).take 20).drop 12 = lowB y 8 := by
    rw [e, ← List.append_assoc, ← List.append_assoc, tk (by simp [lowB_length]), dr (by simp [lowB_length])]
  have e3 : (frmL ⟨x, y, t⟩).drop 20 = t := by
    rw [e, ← List.append_assoc, ← List.append_assoc, dr (by simp [lowB_length])]
  unfold unL
  rw [e1, e2, e3, join_low _ _ (by rw [p8]; exact h.1), join_low _ _ (by rw [p8]; exact h.2.1)]

theorem first_put (f : Frm) (r : List UInt8) (h : f.ok) : firstL (putF f ++ r) = .ok (f, r) := by
  obtain ⟨x, y, t⟩ := f
  have hl : (putF ⟨x, y, t⟩ ++ r).length = 24 + t.length + r.length := by rw [List.length_append, putF_length]
  have h4 : (putF ⟨x, y, t⟩ ++ r).take 4 = lowB t.length 4 := by
    simp only [putF, frmL, headL, List.append_assoc]
    exact tk (lowB_length _ _)
  have hj : joinL (lowB t.length 4) = t.length := join_low _ _ (by rw [p4]; have := h.2.2; simp at this; omega)
  have hk : (putF ⟨x, y, t⟩ ++ r).take (20 + t.length) = frmL ⟨x, y, t⟩ := by
    unfold putF
    rw [List.append_assoc]
    exact tk (frmL_length _)
  have hm : ((putF ⟨x, y, t⟩ ++ r).take (24 + t.length)).drop (20 + t.length) = lowB (crc (frmL ⟨x, y, t⟩)) 4 := by
    rw [tk (putF_length ⟨x, y, t⟩)]
    unfold putF
    exact dr (frmL_length ⟨x, y, t⟩)
  have hd : (putF ⟨x, y, t⟩ ++ r).drop (24 + t.length) = r := dr (putF_length _)
  have h92 := h.2.2
  simp only at h92
  have hne : putF ⟨x, y, t⟩ ++ r ≠ [] := by intro e; rw [e] at hl; simp at hl; omega
  unfold firstL
  rw [h4, hj, if_neg hne, if_neg (by omega), if_neg (by omega), if_neg (by omega), hm, hk, hd, join_low _ _ (by rw [p4]; have := crc_lt (frmL ⟨x, y, t⟩); omega), if_neg (by simp), unL_frm _ h]

theorem first_one (s : List UInt8) (f : Frm) (r : List UInt8) (h : firstL s = .ok (f, r)) : putF f ++ r = s ∧ f.ok ∧ 24 ≤ s.length := by
  unfold firstL at h
  split at h
  · cases h
  · split at h
    · cases h
    · split at h
      · cases h
      · split at h
        · cases h
        · split at h
          · cases h
          · rename_i h0 h1 h2 h3 h5
            obtain ⟨N, hN⟩ : ∃ N, N = joinL (s.take 4) := ⟨_, rfl⟩
            rw [← hN] at h h2 h3 h5
            simp only [Except.ok.injEq, Prod.mk.injEq] at h
            obtain ⟨rfl, rfl⟩ := h
            have e1 : ((s.take (20 + N)).take 12).drop 4 = (s.take 12).drop 4 := by rw [List.take_take, Nat.min_eq_left (by omega)]
            have e2 : ((s.take (20 + N)).take 20).drop 12 = (s.take 20).drop 12 := by rw [List.take_take, Nat.min_eq_left (by omega)]
            have l1 : ((s.take 12).drop 4).length = 8 := by simp; omega
            have l2 : ((s.take 20).drop 12).length = 8 := by simp; omega
            have l3 : ((s.take (20 + N)).drop 20).length = N := by simp; omega
            have l4 : (s.take 4).length = 4 := by simp; omega
            have l5 : ((s.take (24 + N)).drop (20 + N)).length = 4 := by simp; omega
            have hu : unL (s.take (20 + N)) = ⟨joinL ((s.take 12).drop 4), joinL ((s.take 20).drop 12), (s.take (20 + N)).drop 20⟩ := by unfold unL; rw [e1, e2]
            rw [hu]
            have j1 := low_join ((s.take 12).drop 4)
            have j2 := low_join ((s.take 20).drop 12)
            have j4 := low_join (s.take 4)
            have j5 := low_join ((s.take (24 + N)).drop (20 + N))
            rw [l1] at j1
            rw [l2] at j2
            rw [l4, ← hN] at j4
            rw [l5, Classical.not_not.1 h5] at j5
            have hf : frmL ⟨joinL ((s.take 12).drop 4), joinL ((s.take 20).drop 12), (s.take (20 + N)).drop 20⟩ = s.take (20 + N) := by
              simp only [frmL, headL]
              rw [l3, j1, j2, j4, td s (by decide : 4 ≤ 12), td s (by decide : 12 ≤ 20), td s (by omega : 20 ≤ 20 + N)]
            refine ⟨?_, ⟨big8 _ (by rw [l1]; decide), big8 _ (by rw [l2]; decide), by show ((s.take (20 + N)).drop 20).length ≤ 8192; omega⟩, by omega⟩
            unfold putF
            rw [hf, j5, td s (by omega : 20 + N ≤ 24 + N), List.take_append_drop]

theorem first_cut (f : Frm) (h : f.ok) (k : Nat) (hk : k < (putF f).length) : firstL ((putF f).take k) = .error (if k = 0 then 3 else 60) := by
  have hl := putF_length f
  have h2 := h.2.2
  have hlk : ((putF f).take k).length = k := by simp; omega
  unfold firstL
  by_cases h0 : k = 0
  · subst h0; rw [List.take_zero, if_pos rfl, if_pos rfl]
  · have hne : (putF f).take k ≠ [] := by intro e; rw [e] at hlk; simp at hlk; omega
    rw [if_neg hne, if_neg h0, hlk]
    by_cases h1 : k < 24
    · rw [if_pos h1]
    · have h4 : ((putF f).take k).take 4 = lowB f.text.length 4 := by
        rw [List.take_take, Nat.min_eq_left (by omega)]
        simp only [putF, frmL, headL, List.append_assoc]
        exact tk (lowB_length _ _)
      rw [if_neg h1, h4, join_low _ _ (by rw [p4]; omega), if_neg (by omega), if_pos (by omega)]

theorem first_err (s : List UInt8) (n : Int) (h : firstL s = .error n) : n ≠ 0 ∧ (s = [] → n = 3) ∧ (s ≠ [] → s.length < 24 → n = 60) := by
  unfold firstL at h
  split at h
  · cases h; rename_i h0; exact ⟨by decide, fun _ => rfl, fun h1 => absurd h0 h1⟩
  · rename_i h0
    split at h
    · cases h; exact ⟨by decide, fun h1 => absurd h1 h0, fun _ _ => rfl⟩
    · rename_i h1
      split at h
      · cases h; exact ⟨by decide, fun h2 => absurd h2 h0, fun _ h2 => absurd h2 h1⟩
      · split at h
        · cases h; exact ⟨by decide, fun h2 => absurd h2 h0, fun _ h2 => absurd h2 h1⟩
        · split at h
          · cases h; exact ⟨by decide, fun h2 => absurd h2 h0, fun _ h2 => absurd h2 h1⟩
          · cases h

theorem str_inj {s t : List UInt8} : str s = str t ↔ s = t := ⟨fun h => by unfold str at h; injection h with h; simpa using h, fun h => by rw [h]⟩
theorem str_beq (s t : List UInt8) : ((str s).toList == (str t).toList) = (s == t) := by rw [Lib.toList_data, Lib.toList_data]; rfl
end Go.Proofs.YtfpiepephljmgaaDoor
