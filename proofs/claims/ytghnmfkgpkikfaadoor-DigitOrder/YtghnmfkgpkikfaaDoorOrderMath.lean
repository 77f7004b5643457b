/-
  Texts of numbers in order, as arithmetic: no program.
-/
import Derived.Test.YtghnmfkgpkikfaaDoorTextMath
import GoSem.Op.String
namespace Go.Proofs.YtghnmfkgpkikfaaDoor

theorem txt_len (l : List Int) : (txt l).length = max 1 l.length := by
  unfold txt
  by_cases h : l = []
  · simp [h]
  · rw [if_neg h, dtext_length]
    have := List.length_pos_iff.2 h
    omega

theorem txt_len_le {s t : List UInt8} {v u : Int} (hs : Txt s v) (ht : Txt t u) (h : v ≤ u) : s.length ≤ t.length := by
  obtain ⟨l, hl, rfl⟩ := hs
  obtain ⟨m, hm, rfl⟩ := ht
  rw [txt_len, txt_len]
  have := dig_len_le (by decide) hl hm h
  omega

theorem nv_cons (c : UInt8) (s : List UInt8) : nv (c :: s) = nv s + 10 ^ s.length * ((c.toNat : Int) - 48) := by
  unfold nv
  rw [dlist_cons, dval_append, dlist_length]
  simp [dval]

theorem nv_bd {s : List UInt8} (h : AllDig s) : 0 ≤ nv s ∧ nv s < 10 ^ s.length := by
  have := dval_bd (b := 10) (by decide) (dlist_digs h)
  rw [dlist_length] at this
  exact this

theorem less_iff : ∀ (s t : List UInt8), AllDig s → AllDig t → s.length = t.length → (Op.bytesLess s t = true ↔ nv s < nv t)
  | [], [], _, _, _ => by simp [Op.bytesLess, nv]
  | a :: x, b :: y, hs, ht, h => by
    have hl : x.length = y.length := by simpa using h
    have hx : AllDig x := fun c hc => hs c (List.mem_cons_of_mem _ hc)
    have hy : AllDig y := fun c hc => ht c (List.mem_cons_of_mem _ hc)
    have ih := less_iff x y hx hy hl
    have bx := nv_bd hx
    have bY := nv_bd hy
    rw [nv_cons, nv_cons, ← hl]
    rw [← hl] at bY
    have hp : (0 : Int) < 10 ^ x.length := Int.pow_pos (by decide)
    generalize (10 : Int) ^ x.length = P at *
    rcases Nat.lt_trichotomy a.toNat b.toNat with h1 | h1 | h1
    · have hlt : a < b := UInt8.lt_iff_toNat_lt.2 h1
      have e : Op.bytesLess (a :: x) (b :: y) = true := by simp [Op.bytesLess, hlt]
      rw [e]
      refine ⟨fun _ => ?_, fun _ => rfl⟩
      have h2 := Int.mul_le_mul_of_nonneg_left (show (a.toNat : Int) - 48 + 1 ≤ (b.toNat : Int) - 48 by omega) (Int.le_of_lt hp)
      rw [Int.mul_add, Int.mul_one] at h2
      omega
    · have he : a = b := UInt8.toNat_inj.1 h1
      subst he
      have e : Op.bytesLess (a :: x) (a :: y) = Op.bytesLess x y := by
        have : ¬ a < a := fun h => absurd (UInt8.lt_iff_toNat_lt.1 h) (Nat.lt_irrefl _)
        simp [Op.bytesLess, this]
      rw [e, ih]
      omega
    · have hlt : ¬ a < b := fun h => absurd (UInt8.lt_iff_toNat_lt.1 h) (by omega)
      have hne : ¬ a = b := fun h => by rw [h] at h1; omega
      have e : Op.bytesLess (a :: x) (b :: y) = false := by simp [Op.bytesLess, hlt, hne]
      rw [e]
      refine ⟨fun h => absurd h (by decide), fun h2 => ?_⟩
      have h3 := Int.mul_le_mul_of_nonneg_left (show (b.toNat : Int) - 48 + 1 ≤ (a.toNat : Int) - 48 by omega) (Int.le_of_lt hp)
      rw [Int.mul_add, Int.mul_one] at h3
      omega

theorem less_self (s : List UInt8) (h : AllDig s) : Op.bytesLess s s = false := by
  have := less_iff s s h h rfl
  cases e : Op.bytesLess s s with
  | false => rfl
  | true => exact absurd (this.1 e) (by omega)

/-- Which text is below, of as many digits. -/
theorem Txt.less {s t : List UInt8} {v u : Int} (hs : Txt s v) (ht : Txt t u) (h : s.length = t.length) : Op.bytesLess s t = decide (v < u) := by
  have := less_iff s t hs.isNum.1 ht.isNum.1 h
  rw [hs.nv, ht.nv] at this
  cases e : Op.bytesLess s t with
  | false => 
    rw [e] at this
    exact (decide_eq_false (fun h => by simpa using this.2 h)).symm
  | true => exact (decide_eq_true (this.1 e)).symm

theorem Txt.differ {s t : List UInt8} {v u : Int} (hs : Txt s v) (ht : Txt t u) (h : v ≠ u) : s ≠ t := fun e => h (by rw [← hs.nv, ← ht.nv, e])

end Go.Proofs.YtghnmfkgpkikfaaDoor
