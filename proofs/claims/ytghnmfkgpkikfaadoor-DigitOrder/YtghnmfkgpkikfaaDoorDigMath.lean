/-
  Digits to any base, as arithmetic: no program.
-/
import Derived.Test.YtghnmfkgpkikfaaDoorNatMath
namespace Go.Proofs.YtghnmfkgpkikfaaDoor

/-- The number that digits are, the lowest one first. -/
def dval (b : Int) : List Int → Int
  | [] => 0
  | d :: ds => d + b * dval b ds

/-- Each is a digit to the base b. -/
def Digs (b : Int) (l : List Int) : Prop := ∀ d ∈ l, 0 ≤ d ∧ d < b

theorem Digs.tail {b d : Int} {l : List Int} (h : Digs b (d :: l)) : Digs b l := fun x hx => h x (List.mem_cons_of_mem _ hx)
theorem Digs.head {b d : Int} {l : List Int} (h : Digs b (d :: l)) : 0 ≤ d ∧ d < b := h d List.mem_cons_self
theorem Digs.cons {b d : Int} {l : List Int} (h0 : 0 ≤ d) (h1 : d < b) (h : Digs b l) : Digs b (d :: l) := fun x hx => by
  rcases List.mem_cons.1 hx with e | e
  · rw [e]; exact ⟨h0, h1⟩
  · exact h x e

theorem bp_pos {b : Int} (hb : 0 < b) (k : Nat) : 0 < b ^ k := Int.pow_pos hb
theorem bp_le {b : Int} (hb : 1 ≤ b) {j k : Nat} (h : j ≤ k) : b ^ j ≤ b ^ k := by
  obtain ⟨d, rfl⟩ := Nat.le.dest h
  rw [Int.pow_add]
  have h1 : (1 : Int) ≤ b ^ d := bp_pos (by omega) d
  have := Int.mul_le_mul_of_nonneg_left h1 (Int.le_of_lt (bp_pos (show 0 < b by omega) j))
  simpa using this

theorem dval_bd {b : Int} (hb : 0 < b) {l : List Int} (h : Digs b l) : 0 ≤ dval b l ∧ dval b l < b ^ l.length := by
  induction l with
  | nil => simp [dval]
  | cons d ds ih =>
    have hd := h.head
    have hi := ih h.tail
    refine ⟨?_, ?_⟩
    · simp only [dval]; have := Int.mul_nonneg (Int.le_of_lt hb) hi.1; omega
    · simp only [dval, List.length_cons, Int.pow_succ]
      have h1 : dval b ds + 1 ≤ b ^ ds.length := hi.2
      have h2 := Int.mul_le_mul_of_nonneg_left h1 (Int.le_of_lt hb)
      rw [Int.mul_add, Int.mul_one] at h2
      rw [Int.mul_comm (b ^ ds.length)]
      omega

theorem dval_append (b : Int) (l m : List Int) : dval b (l ++ m) = dval b l + b ^ l.length * dval b m := by
  induction l with
  | nil => simp [dval]
  | cons d ds ih =>
    simp only [List.cons_append, dval, ih, List.length_cons, Int.pow_succ]
    grind

theorem dval_drop (b : Int) (l : List Int) (k : Nat) (h : k < l.length) : dval b (l.drop k) = l.getD k 0 + b * dval b (l.drop (k + 1)) := by
  rw [List.drop_eq_getElem_cons h, dval]
  simp [h]

/-- What stands above a place is no more than all of it. -/
theorem dval_drop_le {b : Int} (hb : 1 ≤ b) {l : List Int} (h : Digs b l) (k : Nat) : dval b (l.drop k) ≤ dval b l := by
  have e := dval_append b (l.take k) (l.drop k)
  rw [List.take_append_drop] at e
  have h1 := (dval_bd (show 0 < b by omega) (l := l.take k) (fun d hd => h d (List.mem_of_mem_take hd))).1
  have h2 := (dval_bd (show 0 < b by omega) (l := l.drop k) (fun d hd => h d (List.mem_of_mem_drop hd))).1
  have h3 : (1 : Int) ≤ b ^ (l.take k).length := bp_pos (by omega) _
  have h4 := Int.mul_le_mul_of_nonneg_right h3 h2
  omega

/-- The digits of a number: the highest one is not 0. -/
structure Dig (b : Int) (l : List Int) (v : Int) : Prop where
  digs : Digs b l
  trim : Trim l
  val : dval b l = v

theorem Dig.nil (b : Int) : Dig b [] 0 := ⟨fun d hd => by simp at hd, by intro n hn; simp at hn, rfl⟩

theorem Dig.nonneg {b v : Int} {l : List Int} (hb : 0 < b) (h : Dig b l v) : 0 ≤ v := by rw [← h.val]; exact (dval_bd hb h.digs).1

theorem trim_cons {d : Int} {l : List Int} (h : Trim l) (hd : l = [] → d ≠ 0) : Trim (d :: l) := by
  intro n hn
  cases n with
  | zero =>
    simp at hn
    simpa using hd hn
  | succ n =>
    simp at hn
    simpa using h n hn

theorem dig_zero {b : Int} (hb : 0 < b) {l : List Int} (hd : Digs b l) (ht : Trim l) (h : dval b l = 0) : l = [] := by
  induction l with
  | nil => rfl
  | cons d ds ih =>
    have h1 := hd.head
    have h2 := (dval_bd hb hd.tail).1
    simp only [dval] at h
    have h3 := Int.mul_nonneg (Int.le_of_lt hb) h2
    have h4 : dval b ds = 0 := by
      rcases Int.lt_or_eq_of_le h2 with h' | h'
      · have := Int.mul_pos hb h'; omega
      · exact h'.symm
    have e := ih hd.tail (trim_tail ht) h4
    subst e
    have := ht 0 rfl
    simp [dval] at h this
    omega

/-- A number has one row of digits. -/
theorem Dig.one {b v : Int} (hb : 0 < b) {l m : List Int} (hl : Dig b l v) (hm : Dig b m v) : l = m := by
  obtain ⟨d1, t1, e1⟩ := hl
  obtain ⟨d2, t2, e2⟩ := hm
  subst e1
  induction l generalizing m with
  | nil => exact (dig_zero hb d2 t2 e2).symm
  | cons x xs ih =>
    cases m with
    | nil => exact dig_zero hb d1 t1 e2.symm
    | cons y ys =>
      have b1 := d1.head
      have b2 := d2.head
      simp only [dval] at e2
      have e3 : y = x := by
        have h1 : (x + b * dval b xs) % b = x := by rw [Int.add_mul_emod_self_left, Int.emod_eq_of_lt b1.1 b1.2]
        have h2 : (y + b * dval b ys) % b = y := by rw [Int.add_mul_emod_self_left, Int.emod_eq_of_lt b2.1 b2.2]
        rw [← h1, ← h2, e2]
      subst e3
      have e4 : dval b ys = dval b xs := by
        have : b * dval b ys = b * dval b xs := by omega
        exact Int.eq_of_mul_eq_mul_left (by omega) this
      rw [ih d1.tail (trim_tail t1) d2.tail (trim_tail t2) e4]

/-- One digit more, at the low end. -/
theorem Dig.cons {b d v : Int} {l : List Int} (h : Dig b l v) (h0 : 0 ≤ d) (h1 : d < b) (hp : 0 < d + b * v) : Dig b (d :: l) (d + b * v) := by
  refine ⟨h.digs.cons h0 h1, trim_cons h.trim fun e => ?_, by rw [dval, h.val]⟩
  have hv := h.val
  rw [e] at hv
  simp [dval] at hv
  rw [← hv] at hp
  simp at hp
  omega

/-- The lowest digit, and the rest of them. -/
theorem Dig.split {b v : Int} {l : List Int} (hb : 0 < b) (h : Dig b l v) (hv : 0 < v) : ∃ m, l = v % b :: m ∧ Dig b m (v / b) := by
  cases l with
  | nil => have := h.val; simp [dval] at this; omega
  | cons d m =>
    have hd := h.digs.head
    have e := h.val
    simp only [dval] at e
    have h1 : v % b = d := by rw [← e, Int.add_mul_emod_self_left, Int.emod_eq_of_lt hd.1 hd.2]
    have h2 : v / b = dval b m := by rw [← e, Int.add_mul_ediv_left _ _ (by omega), Int.ediv_eq_zero_of_lt hd.1 hd.2]; omega
    exact ⟨m, by rw [h1], h.digs.tail, trim_tail h.trim, h2.symm⟩

/-- Each number has digits. -/
theorem dig_ex {b : Int} (hb : 2 ≤ b) (n : Nat) : ∃ l, Dig b l n := by
  induction n using Nat.strongRecOn with
  | _ n ih =>
    rcases Nat.eq_zero_or_pos n with h0 | h0
    · subst h0; exact ⟨[], Dig.nil b⟩
    · obtain ⟨B, rfl⟩ := Int.eq_ofNat_of_zero_le (show 0 ≤ b by omega)
      have hlt : n / B < n := Nat.div_lt_self h0 (by omega)
      obtain ⟨l, hl⟩ := ih (n / B) hlt
      have e : ((n % B : Nat) : Int) + (B : Int) * ((n / B : Nat) : Int) = n := by
        have := Nat.mod_add_div n B
        exact_mod_cast this
      have hc := Dig.cons (d := ((n % B : Nat) : Int)) hl (by omega) (by have := Nat.mod_lt n (show 0 < B by omega); omega) (by rw [e]; omega)
      rw [e] at hc
      exact ⟨_, hc⟩

theorem dig_ge {b v : Int} (hb : 0 < b) {l : List Int} (h : Dig b l v) (n : Nat) (hn : l.length = n + 1) : b ^ n ≤ v := by
  have e := dval_append b (l.take n) (l.drop n)
  rw [List.take_append_drop, h.val] at e
  have ht : (l.take n).length = n := by simp; omega
  rw [ht, dval_drop b l n (by omega), show l.drop (n + 1) = [] by simp; omega] at e
  simp only [dval, Int.mul_zero, Int.add_zero] at e
  have h1 := (dval_bd hb (l := l.take n) (fun d hd => h.digs d (List.mem_of_mem_take hd))).1
  have h2 := h.trim n hn
  have h3 : 0 ≤ l.getD n 0 := by
    have hm : l.getD n 0 ∈ l := by
      rw [List.getD_eq_getElem?_getD, List.getElem?_eq_getElem (by omega)]
      exact List.getElem_mem _
    exact (h.digs _ hm).1
  have h4 := Int.mul_le_mul_of_nonneg_left (show 1 ≤ l.getD n 0 by omega) (Int.le_of_lt (bp_pos hb n))
  rw [Int.mul_one] at h4
  omega

/-- How many digits there are at most. -/
theorem dig_few {b v : Int} (hb : 1 < b) {l : List Int} (h : Dig b l v) {k : Nat} (hv : v < b ^ k) : l.length ≤ k := by
  rcases Nat.lt_or_ge k l.length with hg | hg
  · obtain ⟨j, hj⟩ : ∃ j, l.length = j + 1 := ⟨l.length - 1, by omega⟩
    have h1 := dig_ge (by omega) h j hj
    have h2 := bp_le (show 1 ≤ b by omega) (show k ≤ j by omega)
    omega
  · exact hg

theorem dig_len_le {b v w : Int} (hb : 1 < b) {l m : List Int} (hl : Dig b l v) (hm : Dig b m w) (h : v ≤ w) : l.length ≤ m.length := by
  have h1 := (dval_bd (show 0 < b by omega) hm.digs).2
  rw [hm.val] at h1
  exact dig_few hb hl (by omega)

/-- Of as many digits: which number is below is told by the highest place at which they differ. -/
theorem dig_less {b : Int} (hb : 0 < b) {l m : List Int} (hl : Digs b l) (hm : Digs b m) (hlen : l.length = m.length) (k : Nat) (hk : k < l.length) (habove : l.drop (k + 1) = m.drop (k + 1)) (hlt : l.getD k 0 < m.getD k 0) : dval b l < dval b m := by
  have e1 := dval_append b (l.take k) (l.drop k)
  have e2 := dval_append b (m.take k) (m.drop k)
  rw [List.take_append_drop] at e1 e2
  have t1 : (l.take k).length = k := by simp; omega
  have t2 : (m.take k).length = k := by simp; omega
  rw [t1, dval_drop b l k hk] at e1
  rw [t2, dval_drop b m k (by omega), ← habove] at e2
  have h1 := (dval_bd hb (l := l.take k) (fun d hd => hl d (List.mem_of_mem_take hd))).2
  have h2 := (dval_bd hb (l := m.take k) (fun d hd => hm d (List.mem_of_mem_take hd))).1
  rw [t1] at h1
  have h3 := Int.mul_le_mul_of_nonneg_left (show l.getD k 0 + b * dval b (l.drop (k + 1)) + 1 ≤ m.getD k 0 + b * dval b (l.drop (k + 1)) by omega) (Int.le_of_lt (bp_pos hb k))
  rw [Int.mul_add, Int.mul_one] at h3
  omega

/-- 10^155 is above what may be. -/
theorem ten155 : Big ≤ (10 : Int) ^ 155 := by
  unfold Big BB
  decide

theorem Dig.few10 {v : Int} {l : List Int} (h : Dig 10 l v) (hv : v < Big) : l.length ≤ 155 := dig_few (by omega) h (by have := ten155; omega)

end Go.Proofs.YtghnmfkgpkikfaaDoor
