/-
  Joined: Math · NatMath · HalfMath · DivMath · QuotMath · Base · Len64 · Lead · Mul64 · Div64 · Guess · Build · Sub1 · Sub · SumMath · Add1 · Sum1 · Sum · Scale1 · Scale · Mul · Same · Laid · Less · ShiftMath · Shift1 · Shift · Trim.
-/
import Derived.Test.YtghnmfkgpkikfaaGreatDoorRows
import Derived.WalkKit
import Derived.WalkSpells
import Derived.WalkLawsBesides
import Derived.Deep.QuietTactic
import Derived.BigQuiet
import Derived.Deep.RegionWith
import Derived.Deep.CutRange
import Derived.Deep.CutBlock
import Derived.Deep.OwnRows
import Derived.Deep.RegionHeld3
import Derived.Deep.DrawnRows

/-! Rows of limbs as numbers: plain arithmetic, no program. -/
namespace Go.Proofs.YtghnmfkgpkikfaaGreatDoor

/-- 2^64. -/
def BB : Int := 18446744073709551616
theorem BB_pos : 0 < BB := by unfold BB; omega
theorem BB_two : 2 ≤ BB := by unfold BB; omega

/-- Each is a limb. -/
def Limbs (xs : List Int) : Prop := ∀ x ∈ xs, 0 ≤ x ∧ x < BB

/-- The number that a row of limbs is. -/
def val : List Int → Int
  | [] => 0
  | x :: xs => x + BB * val xs

/-- The limb at place i: 0 on either side. -/
def lim (xs : List Int) (i : Int) : Int := if 0 ≤ i then xs.getD i.toNat 0 else 0

theorem lim_neg (xs : List Int) (i : Int) (h : i < 0) : lim xs i = 0 := by rw [lim, if_neg (by omega)]
theorem lim_nat (xs : List Int) (k : Nat) : lim xs k = xs.getD k 0 := by rw [lim, if_pos (by omega), Int.toNat_natCast]
theorem lim_past (xs : List Int) (k : Nat) (h : xs.length ≤ k) : lim xs k = 0 := by rw [lim_nat]; simp [h]
theorem lim_bd {xs : List Int} (h : Limbs xs) (i : Int) : 0 ≤ lim xs i ∧ lim xs i < BB := by
  have hB := BB_pos
  unfold lim
  split
  · by_cases hk : i.toNat < xs.length
    · rw [List.getD_eq_getElem?_getD, List.getElem?_eq_getElem hk]
      exact h _ (List.getElem_mem _)
    · rw [List.getD_eq_getElem?_getD, List.getElem?_eq_none (by omega)]
      exact ⟨by simp, by simpa using hB⟩
  · exact ⟨Int.le_refl _, hB⟩

theorem pw_pos (k : Nat) : 0 < BB ^ k := Int.pow_pos BB_pos
theorem pw_succ (k : Nat) : BB ^ (k + 1) = BB ^ k * BB := Int.pow_succ ..
theorem pw_add (j k : Nat) : BB ^ (j + k) = BB ^ j * BB ^ k := Int.pow_add ..
theorem pw_le {j k : Nat} (h : j ≤ k) : BB ^ j ≤ BB ^ k := by
  obtain ⟨d, rfl⟩ := Nat.le.dest h
  rw [pw_add]
  have h1 : (1 : Int) ≤ BB ^ d := pw_pos d
  have := Int.mul_le_mul_of_nonneg_left h1 (Int.le_of_lt (pw_pos j))
  simpa using this

theorem val_snoc (xs : List Int) (x : Int) : val (xs ++ [x]) = val xs + x * BB ^ xs.length := by
  induction xs with
  | nil => simp [val]
  | cons y ys ih =>
    simp only [List.cons_append, val, ih, List.length_cons, pw_succ]
    grind

theorem limbs_tail {x : Int} {xs : List Int} (h : Limbs (x :: xs)) : Limbs xs := fun y hy => h y (List.mem_cons_of_mem _ hy)
theorem limbs_head {x : Int} {xs : List Int} (h : Limbs (x :: xs)) : 0 ≤ x ∧ x < BB := h x List.mem_cons_self
theorem limbs_take {xs : List Int} (h : Limbs xs) (m : Nat) : Limbs (xs.take m) := fun y hy => h y (List.mem_of_mem_take hy)
theorem limbs_snoc {xs : List Int} {x : Int} (h : Limbs xs) (h0 : 0 ≤ x) (h1 : x < BB) : Limbs (xs ++ [x]) := by
  intro y hy
  rcases List.mem_append.1 hy with h' | h'
  · exact h y h'
  · rw [List.mem_singleton.1 h']; exact ⟨h0, h1⟩

theorem val_bd {xs : List Int} (h : Limbs xs) : 0 ≤ val xs ∧ val xs < BB ^ xs.length := by
  induction xs with
  | nil => simp [val]
  | cons x xs ih =>
    have hx := limbs_head h
    have hi := ih (limbs_tail h)
    have hB := BB_pos
    refine ⟨?_, ?_⟩
    · simp only [val]; have := Int.mul_nonneg (Int.le_of_lt hB) hi.1; omega
    · simp only [val, List.length_cons, pw_succ]
      have h1 : val xs + 1 ≤ BB ^ xs.length := hi.2
      have h2 := Int.mul_le_mul_of_nonneg_left h1 (Int.le_of_lt hB)
      rw [Int.mul_add, Int.mul_one] at h2
      rw [Int.mul_comm (BB ^ xs.length)]
      omega

/-- The first k limbs, as a number. -/
def pv (xs : List Int) : Nat → Int
  | 0 => 0
  | k + 1 => pv xs k + lim xs k * BB ^ k

theorem pv_bd {xs : List Int} (h : Limbs xs) (k : Nat) : 0 ≤ pv xs k ∧ pv xs k < BB ^ k := by
  induction k with
  | zero => simp [pv]
  | succ k ih =>
    have hl := lim_bd h k
    have hp := pw_pos k
    simp only [pv, pw_succ]
    have h1 : lim xs k + 1 ≤ BB := hl.2
    have h2 := Int.mul_le_mul_of_nonneg_right h1 (Int.le_of_lt hp)
    rw [Int.add_mul, Int.one_mul] at h2
    have h3 := Int.mul_nonneg hl.1 (Int.le_of_lt hp)
    rw [Int.mul_comm (BB ^ k) BB]
    omega

theorem pv_cons (x : Int) (xs : List Int) (k : Nat) : pv (x :: xs) (k + 1) = x + BB * pv xs k := by
  induction k with
  | zero => simp [pv, lim]
  | succ k ih =>
    rw [pv, ih, pv]
    have e : lim (x :: xs) ((k + 1 : Nat) : Int) = lim xs k := by rw [lim_nat, lim_nat]; simp
    rw [e, pw_succ]
    grind

theorem pv_val (xs : List Int) (k : Nat) (h : xs.length ≤ k) : pv xs k = val xs := by
  induction xs generalizing k with
  | nil =>
    induction k with
    | zero => rfl
    | succ k ih => rw [pv, ih (by simp), lim_past _ _ (by simp)]; simp
  | cons x xs ih =>
    obtain ⟨j, rfl⟩ : ∃ j, k = j + 1 := ⟨k - 1, by simp at h; omega⟩
    rw [pv_cons, ih j (by simp at h; omega), val]

theorem val_take_pv (xs : List Int) (k : Nat) (h : k ≤ xs.length) : val (xs.take k) = pv xs k := by
  induction k with
  | zero => rfl
  | succ k ih =>
    rw [List.take_succ_eq_append_getElem (by omega), val_snoc, ih (by omega), pv, lim_nat]
    simp [show min k xs.length = k by omega, show k < xs.length by omega]

/-- n is how many limbs of xs are left without those of 0 at its end. -/
def Tl (xs : List Int) (n : Nat) : Prop := n ≤ xs.length ∧ (∀ j, n ≤ j → xs.getD j 0 = 0) ∧ (n ≠ 0 → xs.getD (n - 1) 0 ≠ 0)

theorem pv_zeros (xs : List Int) (n k : Nat) (hn : n ≤ k) (h : ∀ j, n ≤ j → xs.getD j 0 = 0) : pv xs k = pv xs n := by
  induction k with
  | zero => obtain rfl : n = 0 := by omega
            rfl
  | succ k ih =>
    by_cases e : n = k + 1
    · rw [e]
    · rw [pv, ih (by omega), lim_nat, h k (by omega)]; simp

theorem Tl.val {xs : List Int} {m : Nat} (h : Tl xs m) : val (xs.take m) = val xs := by
  rw [val_take_pv xs m h.1, ← pv_val xs xs.length (Nat.le_refl _), pv_zeros xs m _ h.1 h.2.1]

/-- It does not end in a limb of 0. -/
def Trim (xs : List Int) : Prop := ∀ n, xs.length = n + 1 → xs.getD n 0 ≠ 0

theorem Tl.trim {xs : List Int} {m : Nat} (h : Tl xs m) : Trim (xs.take m) := by
  intro n hn
  have hl : (xs.take m).length = m := by simp [h.1]
  have e : m = n + 1 := by omega
  have := h.2.2 (by omega)
  rw [e] at this ⊢
  simpa using this

/-- The one row of a number. -/
structure Num (xs : List Int) (v : Int) : Prop where
  limbs : Limbs xs
  trim : Trim xs
  val : val xs = v

theorem Num.ofTl {xs : List Int} {m : Nat} (hl : Limbs xs) (h : Tl xs m) : Num (xs.take m) (Go.Proofs.YtghnmfkgpkikfaaGreatDoor.val xs) := ⟨limbs_take hl m, h.trim, h.val⟩

theorem trim_tail {x : Int} {xs : List Int} (h : Trim (x :: xs)) : Trim xs := by
  intro n hn
  have := h (n + 1) (by simp [hn])
  simpa using this

theorem zero_of_val {xs : List Int} (hl : Limbs xs) (ht : Trim xs) (h : val xs = 0) : xs = [] := by
  induction xs with
  | nil => rfl
  | cons x xs ih =>
    have hx := limbs_head hl
    have hb := val_bd (limbs_tail hl)
    simp only [val] at h
    have hm := Int.mul_nonneg (Int.le_of_lt BB_pos) hb.1
    have h0 : val xs = 0 := by
      rcases Int.lt_or_eq_of_le hb.1 with h' | h'
      · have := Int.mul_pos BB_pos h'; omega
      · exact h'.symm
    have e := ih (limbs_tail hl) (trim_tail ht) h0
    subst e
    have := ht 0 rfl
    simp only [val] at h
    simp at this
    omega

/-- A number has one row. -/
theorem row_one {xs ys : List Int} (hx : Limbs xs) (tx : Trim xs) (hy : Limbs ys) (ty : Trim ys) (h : val xs = val ys) : xs = ys := by
  induction xs generalizing ys with
  | nil => exact (zero_of_val hy ty h.symm).symm
  | cons x xs ih =>
    cases ys with
    | nil => exact zero_of_val hx tx h
    | cons y ys =>
      have bx := limbs_head hx
      have bY := limbs_head hy
      simp only [val] at h
      have e1 : x = y := by
        have h1 : (x + BB * val xs) % BB = x := by rw [Int.add_mul_emod_self_left, Int.emod_eq_of_lt bx.1 bx.2]
        have h2 : (y + BB * val ys) % BB = y := by rw [Int.add_mul_emod_self_left, Int.emod_eq_of_lt bY.1 bY.2]
        rw [← h1, ← h2, h]
      subst e1
      have e2 : val xs = val ys := by
        have : BB * val xs = BB * val ys := by omega
        exact Int.eq_of_mul_eq_mul_left (by have := BB_pos; omega) this
      rw [ih (limbs_tail hx) (trim_tail tx) (limbs_tail hy) (trim_tail ty) e2]

theorem Num.one {xs ys : List Int} {v : Int} (hx : Num xs v) (hy : Num ys v) : xs = ys := row_one hx.limbs hx.trim hy.limbs hy.trim (hx.val.trans hy.val.symm)

end Go.Proofs.YtghnmfkgpkikfaaGreatDoor

/-! Naturals: which rows may be, and what a call of layer 2 may tell. Plain arithmetic, no program. -/
namespace Go.Proofs.YtghnmfkgpkikfaaGreatDoor

/-- The least number that has more limbs than may be. -/
def Big : Int := BB ^ 8
theorem Big_pos : 0 < Big := pw_pos 8
theorem Big_one : 1 < Big := by
  have h := pw_le (show 1 ≤ 8 by omega)
  have h1 : BB ^ 1 = BB := by rw [Int.pow_succ, Int.pow_zero, Int.one_mul]
  have := BB_two
  unfold Big
  omega
theorem Big_BB : BB < Big := by
  have h := pw_le (show 2 ≤ 8 by omega)
  have h1 : BB ^ 2 = BB * BB := by rw [Int.pow_succ, Int.pow_succ, Int.pow_zero, Int.one_mul]
  have h2 := Int.mul_le_mul_of_nonneg_left BB_two (Int.le_of_lt BB_pos)
  have := BB_pos
  unfold Big
  omega

/-- A natural that may be. -/
def May (xs : List Int) : Prop := xs.length ≤ 8 ∧ Trim xs

theorem val_ge {xs : List Int} (hl : Limbs xs) (ht : Trim xs) (n : Nat) (h : xs.length = n + 1) : BB ^ n ≤ val xs := by
  have hv := pv_val xs (n + 1) (by omega)
  rw [pv] at hv
  have h1 := (pv_bd hl n).1
  have h2 : lim xs n ≠ 0 := by rw [lim_nat]; exact ht n h
  have h3 := (lim_bd hl n).1
  have h4 : 1 ≤ lim xs n := by omega
  have h5 := Int.mul_le_mul_of_nonneg_right h4 (Int.le_of_lt (pw_pos n))
  rw [Int.one_mul] at h5
  omega

theorem Num.le8 {r : List Int} {v : Int} (h : Num r v) : r.length ≤ 8 ↔ v < Big := by
  constructor
  · intro hl
    have := (val_bd h.limbs).2
    rw [h.val] at this
    exact Int.lt_of_lt_of_le this (pw_le hl)
  · intro hv
    rcases Nat.lt_or_ge 8 r.length with h1 | h1
    · obtain ⟨n, hn⟩ : ∃ n, r.length = n + 1 := ⟨r.length - 1, by omega⟩
      have h2 := val_ge h.limbs h.trim n hn
      have h3 := pw_le (show 8 ≤ n by omega)
      rw [h.val] at h2
      unfold Big at hv
      omega
    · exact h1

theorem Num.may {r : List Int} {v : Int} (h : Num r v) : May r ↔ v < Big := by
  rw [← h.le8]
  exact ⟨fun h => h.1, fun h' => ⟨h', h.trim⟩⟩

theorem num_self {xs : List Int} (hl : Limbs xs) (hm : May xs) : Num xs (val xs) := ⟨hl, hm.2, rfl⟩

theorem Num.nonneg {r : List Int} {v : Int} (h : Num r v) : 0 ≤ v := by rw [← h.val]; exact (val_bd h.limbs).1

theorem May.lt {xs : List Int} (hl : Limbs xs) (hm : May xs) : val xs < Big := (num_self hl hm).may.1 hm

theorem May.nil : May [] := ⟨by simp, by intro n hn; simp at hn⟩

theorem may_ex (xs : List Int) : ∃ b : Bool, (b = true ↔ May xs) := by
  by_cases h : May xs
  · exact ⟨true, ⟨fun _ => h, fun _ => rfl⟩⟩
  · exact ⟨false, ⟨fun e => absurd e (by decide), fun e => absurd e h⟩⟩

theorem yes_iff {p : Prop} (h : p) : true = true ↔ p := ⟨fun _ => h, fun _ => rfl⟩
theorem no_iff {p : Prop} (h : ¬ p) : false = true ↔ p := ⟨fun e => absurd e (by decide), fun e => absurd e h⟩

/-- What a call tells: the row, and the error's number. -/
structure Out (ok neg : Prop) (v : Int) (r : List Int) (k : Int) : Prop where
  is_arg' : ¬ ok → k = 1 ∧ r = []
  is_minus' : ok → neg → k = 20 ∧ r = []
  is_big' : ok → ¬ neg → Big ≤ v → k = 21 ∧ r = []
  is_fine' : ok → ¬ neg → v < Big → k = 0 ∧ Num r v

theorem Out.arg {ok neg : Prop} {v : Int} (h : ¬ ok) : Out ok neg v [] 1 := ⟨fun _ => ⟨rfl, rfl⟩, fun o => absurd o h, fun o => absurd o h, fun o => absurd o h⟩
theorem Out.minus {ok neg : Prop} {v : Int} (h : ok) (n : neg) : Out ok neg v [] 20 := ⟨fun o => absurd h o, fun _ _ => ⟨rfl, rfl⟩, fun _ m => absurd n m, fun _ m => absurd n m⟩
theorem Out.big {ok neg : Prop} {v : Int} (h : ok) (n : ¬ neg) (g : Big ≤ v) : Out ok neg v [] 21 := ⟨fun o => absurd h o, fun _ m => absurd m n, fun _ _ _ => ⟨rfl, rfl⟩, fun _ _ l => absurd g (Int.not_le.2 l)⟩
theorem Out.fine {ok neg : Prop} {v : Int} (r : List Int) (h : ok) (n : ¬ neg) (l : v < Big) (u : Num r v) : Out ok neg v r 0 := ⟨fun o => absurd h o, fun _ m => absurd m n, fun _ _ g => absurd g (Int.not_le.2 l), fun _ _ _ => ⟨rfl, u⟩⟩

theorem Out.is_arg {ok neg : Prop} {v : Int} {r : List Int} {k : Int} (h : Out ok neg v r k) (o : ¬ ok) : k = 1 ∧ r = [] := h.is_arg' o
theorem Out.is_minus {ok neg : Prop} {v : Int} {r : List Int} {k : Int} (h : Out ok neg v r k) (o : ok) (n : neg) : k = 20 ∧ r = [] := h.is_minus' o n
theorem Out.is_big {ok neg : Prop} {v : Int} {r : List Int} {k : Int} (h : Out ok neg v r k) (o : ok) (n : ¬ neg) (g : Big ≤ v) : k = 21 ∧ r = [] := h.is_big' o n g
theorem Out.ok_num {ok neg : Prop} {v : Int} {r : List Int} {k : Int} (h : Out ok neg v r k) (o : ok) (n : ¬ neg) (g : v < Big) : k = 0 ∧ Num r v := h.is_fine' o n g

theorem Out.one {ok neg : Prop} {v : Int} {r s : List Int} {k l : Int} (h : Out ok neg v r k) (h' : Out ok neg v s l) : r = s ∧ k = l := by
  by_cases o : ok
  · by_cases n : neg
    · have a := h.is_minus o n
      have b := h'.is_minus o n
      exact ⟨a.2.trans b.2.symm, a.1.trans b.1.symm⟩
    · rcases Int.lt_or_le v Big with g | g
      · have a := h.ok_num o n g
        have b := h'.ok_num o n g
        exact ⟨a.2.one b.2, a.1.trans b.1.symm⟩
      · have a := h.is_big o n g
        have b := h'.is_big o n g
        exact ⟨a.2.trans b.2.symm, a.1.trans b.1.symm⟩
  · have a := h.is_arg o
    have b := h'.is_arg o
    exact ⟨a.2.trans b.2.symm, a.1.trans b.1.symm⟩

/-- What is told may be. -/
theorem Out.may {ok neg : Prop} {v : Int} {r : List Int} {k : Int} (h : Out ok neg v r k) : May r := by
  by_cases o : ok
  · by_cases n : neg
    · rw [(h.is_minus o n).2]; exact May.nil
    · rcases Int.lt_or_le v Big with g | g
      · exact (h.ok_num o n g).2.may.2 g
      · rw [(h.is_big o n g).2]; exact May.nil
  · rw [(h.is_arg o).2]; exact May.nil

end Go.Proofs.YtghnmfkgpkikfaaGreatDoor

/-! Rows of halves of limbs as numbers: plain arithmetic, no program. -/
namespace Go.Proofs.YtghnmfkgpkikfaaGreatDoor

/-- 2^32. -/
def HH : Int := 4294967296
theorem HH_pos : 0 < HH := by unfold HH; omega
theorem HH_BB : HH * HH = BB := by unfold HH BB; omega

/-- Each is half a limb. -/
def Halves (xs : List Int) : Prop := ∀ x ∈ xs, 0 ≤ x ∧ x < HH
theorem Halves.limbs {xs : List Int} (h : Halves xs) : Limbs xs := fun x hx => ⟨(h x hx).1, by have := (h x hx).2; unfold HH at this; unfold BB; omega⟩
theorem halves_snoc {xs : List Int} {x : Int} (h : Halves xs) (h0 : 0 ≤ x) (h1 : x < HH) : Halves (xs ++ [x]) := by
  intro y hy
  rcases List.mem_append.1 hy with h' | h'
  · exact h y h'
  · rw [List.mem_singleton.1 h']; exact ⟨h0, h1⟩
theorem half_bd {xs : List Int} (h : Halves xs) (k : Nat) : 0 ≤ lim xs k ∧ lim xs k < HH := by
  rw [lim_nat]
  by_cases hk : k < xs.length
  · rw [List.getD_eq_getElem?_getD, List.getElem?_eq_getElem hk]
    exact h _ (List.getElem_mem _)
  · rw [List.getD_eq_getElem?_getD, List.getElem?_eq_none (by omega)]
    exact ⟨by simp, by simpa using HH_pos⟩

/-- The number that a row of halves is. -/
def hval : List Int → Int
  | [] => 0
  | x :: xs => x + HH * hval xs

theorem hw_pos (k : Nat) : 0 < HH ^ k := Int.pow_pos HH_pos
theorem hw_succ (k : Nat) : HH ^ (k + 1) = HH ^ k * HH := Int.pow_succ ..
theorem hw_add (j k : Nat) : HH ^ (j + k) = HH ^ j * HH ^ k := Int.pow_add ..
theorem hw_two (k : Nat) : HH ^ (2 * k) = BB ^ k := by rw [Int.pow_mul, ← HH_BB]; congr 1
theorem hw_le {j k : Nat} (h : j ≤ k) : HH ^ j ≤ HH ^ k := by
  obtain ⟨d, rfl⟩ := Nat.le.dest h
  rw [hw_add]
  have h1 : (1 : Int) ≤ HH ^ d := hw_pos d
  have := Int.mul_le_mul_of_nonneg_left h1 (Int.le_of_lt (hw_pos j))
  simpa using this

theorem hval_snoc (xs : List Int) (x : Int) : hval (xs ++ [x]) = hval xs + x * HH ^ xs.length := by
  induction xs with
  | nil => simp [hval]
  | cons y ys ih =>
    simp only [List.cons_append, hval, ih, List.length_cons, hw_succ]
    grind

theorem hval_bd {xs : List Int} (h : Halves xs) : 0 ≤ hval xs ∧ hval xs < HH ^ xs.length := by
  induction xs with
  | nil => simp [hval]
  | cons x xs ih =>
    have hx := h x List.mem_cons_self
    have hi := ih (fun y hy => h y (List.mem_cons_of_mem _ hy))
    have hB := HH_pos
    refine ⟨?_, ?_⟩
    · simp only [hval]; have := Int.mul_nonneg (Int.le_of_lt hB) hi.1; omega
    · simp only [hval, List.length_cons, hw_succ]
      have h1 : hval xs + 1 ≤ HH ^ xs.length := hi.2
      have h2 := Int.mul_le_mul_of_nonneg_left h1 (Int.le_of_lt hB)
      rw [Int.mul_add, Int.mul_one] at h2
      rw [Int.mul_comm (HH ^ xs.length)]
      omega

/-- The first k halves, as a number. -/
def hpv (xs : List Int) : Nat → Int
  | 0 => 0
  | k + 1 => hpv xs k + lim xs k * HH ^ k

theorem hpv_bd {xs : List Int} (h : Halves xs) (k : Nat) : 0 ≤ hpv xs k ∧ hpv xs k < HH ^ k := by
  induction k with
  | zero => simp [hpv]
  | succ k ih =>
    have hl := half_bd h k
    have hp := hw_pos k
    simp only [hpv, hw_succ]
    have h1 : lim xs k + 1 ≤ HH := hl.2
    have h2 := Int.mul_le_mul_of_nonneg_right h1 (Int.le_of_lt hp)
    rw [Int.add_mul, Int.one_mul] at h2
    have h3 := Int.mul_nonneg hl.1 (Int.le_of_lt hp)
    rw [Int.mul_comm (HH ^ k) HH]
    omega

theorem hpv_cons (x : Int) (xs : List Int) (k : Nat) : hpv (x :: xs) (k + 1) = x + HH * hpv xs k := by
  induction k with
  | zero => simp [hpv, lim]
  | succ k ih =>
    rw [hpv, ih, hpv]
    have e : lim (x :: xs) ((k + 1 : Nat) : Int) = lim xs k := by rw [lim_nat, lim_nat]; simp
    rw [e, hw_succ]
    grind

theorem hpv_val (xs : List Int) (k : Nat) (h : xs.length ≤ k) : hpv xs k = hval xs := by
  induction xs generalizing k with
  | nil =>
    induction k with
    | zero => rfl
    | succ k ih => rw [hpv, ih (by simp), lim_past _ _ (by simp)]; simp
  | cons x xs ih =>
    obtain ⟨j, rfl⟩ : ∃ j, k = j + 1 := ⟨k - 1, by simp at h; omega⟩
    rw [hpv_cons, ih j (by simp at h; omega), hval]

theorem hpv_mono {xs : List Int} (h : Halves xs) {j k : Nat} (hjk : j ≤ k) : hpv xs j ≤ hpv xs k ∧ (hpv xs k < HH ^ j → hpv xs k = hpv xs j) := by
  induction k with
  | zero => obtain rfl : j = 0 := by omega
            exact ⟨Int.le_refl _, fun _ => rfl⟩
  | succ k ih =>
    by_cases e : j = k + 1
    · subst e; exact ⟨Int.le_refl _, fun _ => rfl⟩
    · have h1 := ih (by omega)
      have hl := half_bd h k
      have hp := hw_pos k
      have hn := Int.mul_nonneg hl.1 (Int.le_of_lt hp)
      have hb := (hpv_bd h k).1
      rw [hpv]
      refine ⟨by omega, fun hlt => ?_⟩
      have hz : lim xs k = 0 := by
        rcases Int.lt_or_eq_of_le hl.1 with h' | h'
        · exfalso
          have h2 : (1 : Int) * HH ^ k ≤ lim xs k * HH ^ k := Int.mul_le_mul_of_nonneg_right h' (Int.le_of_lt hp)
          have h3 := hw_le (show j ≤ k by omega)
          omega
        · exact h'.symm
      rw [hz] at hlt ⊢
      simp at hlt ⊢
      exact h1.2 hlt

/-- Limbs as halves. -/
def hd : List Int → List Int
  | [] => []
  | x :: xs => x % HH :: x / HH :: hd xs
theorem hd_length (xs : List Int) : (hd xs).length = 2 * xs.length := by
  induction xs with
  | nil => rfl
  | cons x xs ih => simp only [hd, List.length_cons, ih]; omega
theorem hd_append (xs ys : List Int) : hd (xs ++ ys) = hd xs ++ hd ys := by
  induction xs with
  | nil => rfl
  | cons x xs ih => simp only [List.cons_append, hd, ih]
theorem hd_halves {xs : List Int} (h : Limbs xs) : Halves (hd xs) := by
  induction xs with
  | nil => intro x hx; simp [hd] at hx
  | cons x xs ih =>
    intro y hy
    simp only [hd, List.mem_cons] at hy
    have hx := limbs_head h
    rcases hy with rfl | rfl | hy
    · exact ⟨Int.emod_nonneg _ (by have := HH_pos; omega), Int.emod_lt_of_pos _ HH_pos⟩
    · unfold HH BB at *; omega
    · exact ih (limbs_tail h) y hy
theorem hd_val (xs : List Int) : hval (hd xs) = val xs := by
  induction xs with
  | nil => rfl
  | cons x xs ih =>
    simp only [hd, hval, val, ih, ← HH_BB]
    have := Int.emod_add_mul_ediv x HH
    grind

theorem hd_take (xs : List Int) (k : Nat) (h : k < xs.length) : hd (xs.take (k + 1)) = hd (xs.take k) ++ [xs.getD k 0 % HH, xs.getD k 0 / HH] := by
  rw [List.take_succ_eq_append_getElem h, hd_append]
  simp [hd, h]

end Go.Proofs.YtghnmfkgpkikfaaGreatDoor

/-! Division by guesses, as arithmetic: no program. -/
namespace Go.Proofs.YtghnmfkgpkikfaaGreatDoor

/-- What a guess of half a limb holds: u is a rest by y = y1 * 2^32 + y0, x the half that comes down, q the guess, r what it leaves of u by y1. -/
structure Gs (y y1 y0 u x q r : Int) : Prop where
  eq : q * y1 + r = u
  least : (u * 4294967296 + x) / y ≤ q
  q0 : 0 ≤ q
  q1 : q ≤ 4294967297
  r0 : 0 ≤ r
  r1 : r < 4294967296

/-- A divisor with its highest bit. -/
structure Dv (y y1 y0 : Int) : Prop where
  eq : y = y1 * 4294967296 + y0
  a0 : 0 ≤ y0
  a1 : y0 < 4294967296
  b0 : 2147483648 ≤ y1
  b1 : y1 < 4294967296

theorem Dv.pos {y y1 y0 : Int} (h : Dv y y1 y0) : 0 < y := by have := h.eq; have := h.a0; have := h.b0; omega

theorem gs_start {y y1 y0 u x : Int} (h : Dv y y1 y0) (hu0 : 0 ≤ u) (hu : u < y) (hx0 : 0 ≤ x) (hx : x < 4294967296) : Gs y y1 y0 u x (u / y1) (u - u / y1 * y1) := by
  have hp := h.pos
  have e := h.eq
  have h1 : 0 < y1 := by have := h.b0; omega
  have hm := Int.emod_add_mul_ediv u y1
  have hm0 := Int.emod_nonneg u (show y1 ≠ 0 by omega)
  have hm1 := Int.emod_lt_of_pos u h1
  rw [Int.mul_comm] at hm
  have hb1 := h.b1
  have hb0 := h.b0
  have ha0 := h.a0
  have ha1 := h.a1
  refine ⟨by omega, ?_, Int.ediv_nonneg hu0 (by omega), ?_, by omega, by omega⟩
  · rw [Int.le_ediv_iff_mul_le h1]
    have hD := Int.ediv_mul_le (u * 4294967296 + x) (show y ≠ 0 by omega)
    have hD0 : 0 ≤ (u * 4294967296 + x) / y := Int.ediv_nonneg (by omega) (by omega)
    generalize (u * 4294967296 + x) / y = D at hD hD0 ⊢
    have h2 : D * y = D * y1 * 4294967296 + D * y0 := by rw [e, Int.mul_add, Int.mul_assoc]
    have h3 := Int.mul_nonneg hD0 ha0
    omega
  · have : u / y1 < 4294967298 := Int.ediv_lt_of_lt_mul h1 (by omega)
    omega

theorem gs_lt {y y1 y0 u x : Int} (h : Dv y y1 y0) (hu : u < y) (hx : x < 4294967296) : (u * 4294967296 + x) / y < 4294967296 := Int.ediv_lt_of_lt_mul h.pos (by omega)

theorem gs_prod {y y1 y0 u x q r : Int} (h : Dv y y1 y0) (g : Gs y y1 y0 u x q r) : q * y = (u - r) * 4294967296 + q * y0 := by
  have e := g.eq
  rw [h.eq, Int.mul_add, ← Int.mul_assoc, show q * y1 = u - r by omega]

theorem gs_small {y y1 y0 u x q r : Int} (h : Dv y y1 y0) (g : Gs y y1 y0 u x q r) : 0 ≤ q * y0 ∧ q * y0 ≤ 18446744073709551615 := by
  refine ⟨Int.mul_nonneg g.q0 h.a0, ?_⟩
  have := Int.mul_le_mul g.q1 (show y0 ≤ 4294967295 by have := h.a1; omega) h.a0 (by omega : (0 : Int) ≤ 4294967297)
  omega

/-- The guess is good. -/
theorem gs_stop {y y1 y0 u x q r : Int} (h : Dv y y1 y0) (g : Gs y y1 y0 u x q r) (ht : q * y0 ≤ 4294967296 * r + x) : q = (u * 4294967296 + x) / y := by
  have hp := gs_prod h g
  have : q ≤ (u * 4294967296 + x) / y := by rw [Int.le_ediv_iff_mul_le h.pos]; omega
  have := g.least
  omega

/-- The guess is too great. -/
theorem gs_more {y y1 y0 u x q r : Int} (h : Dv y y1 y0) (g : Gs y y1 y0 u x q r) (hu0 : 0 ≤ u) (hu : u < y) (hx0 : 0 ≤ x) (hx : x < 4294967296) (ht : 4294967296 ≤ q ∨ 4294967296 * r + x < q * y0) : (u * 4294967296 + x) / y ≤ q - 1 ∧ 1 ≤ q := by
  have hp := gs_prod h g
  have h0 : 0 ≤ (u * 4294967296 + x) / y := Int.ediv_nonneg (by omega) (by have := h.pos; omega)
  have h1 : (u * 4294967296 + x) / y < q := by
    rcases ht with ht | ht
    · have := gs_lt h hu hx; omega
    · rw [Int.ediv_lt_iff_lt_mul h.pos]; omega
  omega

theorem gs_next {y y1 y0 u x q r : Int} (h : Dv y y1 y0) (g : Gs y y1 y0 u x q r) (hm : (u * 4294967296 + x) / y ≤ q - 1 ∧ 1 ≤ q) (hr : r + y1 < 4294967296) : Gs y y1 y0 u x (q - 1) (r + y1) := by
  have e := g.eq
  have := g.r0
  have := h.b0
  have := g.q1
  refine ⟨?_, hm.1, by omega, by omega, by omega, hr⟩
  rw [Int.sub_mul]
  omega

theorem gs_break {y y1 y0 u x q r : Int} (h : Dv y y1 y0) (g : Gs y y1 y0 u x q r) (hx0 : 0 ≤ x) (hm : (u * 4294967296 + x) / y ≤ q - 1 ∧ 1 ≤ q) (hr : 4294967296 ≤ r + y1) : q - 1 = (u * 4294967296 + x) / y := by
  have e := g.eq
  have hq1 := g.q1
  have h1 : (q - 1) * y = (u - (r + y1)) * 4294967296 + (q - 1) * y0 := by
    rw [h.eq, Int.mul_add, ← Int.mul_assoc, show (q - 1) * y1 = u - (r + y1) by rw [Int.sub_mul]; omega]
  have h2 := Int.mul_le_mul (show q - 1 ≤ 4294967296 by omega) (show y0 ≤ 4294967295 by have := h.a1; omega) h.a0 (by omega : (0 : Int) ≤ 4294967296)
  have : q - 1 ≤ (u * 4294967296 + x) / y := by rw [Int.le_ediv_iff_mul_le h.pos]; omega
  omega

theorem two_halves {y hi l1 l0 q1 q0 v : Int} (hy : 0 < y) (hv : v = hi * 4294967296 + l1 - q1 * y) (h0 : q0 = (v * 4294967296 + l0) / y) : q1 * 4294967296 + q0 = (hi * BB + (l1 * 4294967296 + l0)) / y := by
  have e : hi * BB + (l1 * 4294967296 + l0) = (v * 4294967296 + l0) + (q1 * 4294967296) * y := by
    rw [hv]; unfold BB
    have : q1 * 4294967296 * y = q1 * y * 4294967296 := by rw [Int.mul_assoc, Int.mul_comm 4294967296, ← Int.mul_assoc]
    omega
  rw [e, Int.add_mul_ediv_right _ _ (by omega), ← h0]
  omega

/-- The rest behind the first half. -/
theorem rest_bd {y u x q : Int} (hy : 0 < y) (hq : q = (u * 4294967296 + x) / y) : 0 ≤ u * 4294967296 + x - q * y ∧ u * 4294967296 + x - q * y < y := by
  subst hq
  have := Int.emod_add_mul_ediv (u * 4294967296 + x) y
  have h0 := Int.emod_nonneg (u * 4294967296 + x) (show y ≠ 0 by omega)
  have h1 := Int.emod_lt_of_pos (u * 4294967296 + x) hy
  rw [Int.mul_comm y] at this
  omega

theorem dv_of {y : Int} (h0 : 9223372036854775808 ≤ y) (h1 : y < BB) : Dv y (y / 4294967296) (y % 4294967296) := by
  unfold BB at h1
  exact ⟨by omega, by omega, by omega, by omega, by omega⟩

/-! ### rows -/

theorem val_set (os : List Int) (j : Nat) (v : Int) (h : j < os.length) : val (os.set j v) = val os + (v - lim os j) * BB ^ j := by
  induction os generalizing j with
  | nil => simp at h
  | cons x xs ih =>
    cases j with
    | zero => simp [val, lim]; omega
    | succ j =>
      have e : lim (x :: xs) ((j + 1 : Nat) : Int) = lim xs j := by rw [lim_nat, lim_nat]; simp
      rw [List.set_cons_succ, val, val, ih j (by simp at h; omega), e, pw_succ]
      grind

theorem val_zeros0 (k : Nat) : val (List.replicate k 0) = 0 := by
  induction k with
  | zero => rfl
  | succ k ih => rw [List.replicate_succ, val, ih]; simp
theorem limbs_zeros (k : Nat) : Limbs (List.replicate k 0) := fun x hx => by rw [List.eq_of_mem_replicate hx]; exact ⟨Int.le_refl _, BB_pos⟩
theorem limbs_set {os : List Int} (h : Limbs os) (j : Nat) {v : Int} (h0 : 0 ≤ v) (h1 : v < BB) : Limbs (os.set j v) := by
  intro x hx
  rcases List.mem_or_eq_of_mem_set hx with h' | h'
  · exact h x h'
  · rw [h']; exact ⟨h0, h1⟩
theorem limbs_drop {xs : List Int} (h : Limbs xs) (m : Nat) : Limbs (xs.drop m) := fun y hy => h y (List.mem_of_mem_drop hy)

theorem val_split (xs : List Int) (k : Nat) (h : k ≤ xs.length) : val xs = pv xs k + val (xs.drop k) * BB ^ k := by
  induction k with
  | zero => simp [pv]
  | succ k ih =>
    rw [ih (by omega), pv, pw_succ]
    have e : xs.drop k = lim xs k :: xs.drop (k + 1) := by
      rw [lim_nat, List.drop_eq_getElem_cons (by omega)]
      simp [show k < xs.length by omega]
    rw [e, val]
    grind

theorem Num.len {r : List Int} {v : Int} (h : Num r v) (n : Nat) (h0 : BB ^ n ≤ v) (h1 : v < BB ^ (n + 1)) : r.length = n + 1 := by
  have hb := (val_bd h.limbs).2
  rw [h.val] at hb
  rcases Nat.lt_or_ge r.length (n + 1) with hl | hl
  · have := pw_le (show r.length ≤ n by omega); omega
  · rcases Nat.lt_or_ge (n + 1) r.length with hg | hg
    · obtain ⟨m, hm⟩ : ∃ m, r.length = m + 1 := ⟨r.length - 1, by omega⟩
      have h2 := val_ge h.limbs h.trim m hm
      rw [h.val] at h2
      have := pw_le (show n + 1 ≤ m by omega)
      omega
    · omega

theorem top_split {r : List Int} {n : Nat} (h : r.length = n + 1) : val r = pv r n + lim r n * BB ^ n := by rw [← pv_val r (n + 1) (by omega), pv]

/-- A divisor that is shifted so that its highest bit is set. -/
theorem norm_len {b r : List Int} {n : Nat} {P : Int} (hb : Limbs b) (hn : b.length = n + 1) (hP : 0 < P) (h0 : 9223372036854775808 ≤ lim b n * P) (h1 : (lim b n + 1) * P ≤ BB) (hr : Num r (val b * P)) :
    r.length = n + 1 ∧ 9223372036854775808 ≤ lim r n := by
  have hs := top_split hn
  have hp := pv_bd hb n
  have hpw := pw_pos n
  have e1 : val b * P = pv b n * P + lim b n * P * BB ^ n := by rw [hs]; grind
  have l1 : 9223372036854775808 * BB ^ n ≤ lim b n * P * BB ^ n := Int.mul_le_mul_of_nonneg_right h0 (Int.le_of_lt hpw)
  have l2 := Int.mul_nonneg hp.1 (Int.le_of_lt hP)
  have u1 : (lim b n + 1) * P * BB ^ n ≤ BB * BB ^ n := Int.mul_le_mul_of_nonneg_right h1 (Int.le_of_lt hpw)
  have u2 : (pv b n + 1) * P ≤ BB ^ n * P := Int.mul_le_mul_of_nonneg_right (by omega) (Int.le_of_lt hP)
  have u3 : (lim b n + 1) * P * BB ^ n = lim b n * P * BB ^ n + BB ^ n * P := by grind
  have u4 : (pv b n + 1) * P = pv b n * P + P := by grind
  have u5 : BB ^ (n + 1) = BB * BB ^ n := by rw [pw_succ, Int.mul_comm]
  have hlen := hr.len n (by omega) (by omega)
  refine ⟨hlen, ?_⟩
  have hs2 := top_split hlen
  have hp2 := (pv_bd hr.limbs n).2
  rw [hr.val] at hs2
  rcases Int.lt_or_le (lim r n) 9223372036854775808 with hl | hl
  · have : (lim r n + 1) * BB ^ n ≤ 9223372036854775808 * BB ^ n := Int.mul_le_mul_of_nonneg_right (by omega) (Int.le_of_lt hpw)
    rw [Int.add_mul, Int.one_mul] at this
    omega
  · exact hl

/-- A guess by the highest limbs is not too small. -/
theorem guess_least {R B : List Int} {n : Nat} {V G : Int} (hR : Limbs R) (lR : R.length = n + 1 + 1) (hB : Limbs B) (lB : B.length = n + 1) (hV : V = val B) (hd : 9223372036854775808 ≤ lim B n)
    (hG : G = (lim R (n + 1 : Nat) * BB + lim R n) / lim B n) : val R / V ≤ G := by
  have hpw := pw_pos n
  have hsB := top_split lB
  have hpB := (pv_bd hB n).1
  have hsR := top_split lR
  have hpR := (pv_bd hR n).2
  rw [pv, pw_succ] at hsR
  have hvR := (val_bd hR).1
  have h1 : lim B n * BB ^ n ≤ V := by omega
  have hVp : 0 < V := by
    have := Int.mul_pos (show 0 < lim B n by omega) hpw
    omega
  have hD := Int.ediv_mul_le (val R) (show V ≠ 0 by omega)
  have hD0 : 0 ≤ val R / V := Int.ediv_nonneg hvR (by omega)
  rw [hG, Int.le_ediv_iff_mul_le (by omega)]
  generalize val R / V = D at hD hD0 ⊢
  have h2 := Int.mul_le_mul_of_nonneg_left h1 hD0
  rw [← Int.mul_assoc] at h2
  have e : (lim R (n + 1 : Nat) * BB + lim R n) * BB ^ n = lim R n * BB ^ n + lim R (n + 1 : Nat) * (BB ^ n * BB) := by grind
  have h3 : D * lim B n * BB ^ n < (lim R (n + 1 : Nat) * BB + lim R n + 1) * BB ^ n := by
    rw [Int.add_mul _ 1, Int.one_mul, e]
    omega
  have := Int.lt_of_mul_lt_mul_right h3 (Int.le_of_lt hpw)
  omega

/-- What the loop of divide holds ahead of the place k - 1. -/
structure DivInv (A : List Int) (V : Int) (n m k : Nat) (qs rs : List Int) : Prop where
  len : qs.length = m
  limbs : Limbs qs
  rlimbs : Limbs rs
  rlt : val rs < V
  rlen : rs.length ≤ n
  zeros : ∀ j : Nat, j < k → lim qs j = 0
  eq : val A = val qs * V + val rs * BB ^ k + pv A k

theorem lim_zeros (m j : Nat) : lim (List.replicate m 0) j = 0 := by
  rw [lim_nat, List.getD_eq_getElem?_getD]
  by_cases h : j < m
  · simp [h]
  · simp [h]

theorem div_start {A B : List Int} {n m : Nat} {V : Int} (hA : Limbs A) (hB : Limbs B) (lB : B.length = n + 1) (tB : Trim B) (hV : V = val B) (hm : m = A.length - n) :
    DivInv A V (n + 1) m m (List.replicate m 0) (A.drop m) := by
  have hge := val_ge hB tB n lB
  have hl : (A.drop m).length ≤ n := by simp; omega
  have hb := (val_bd (limbs_drop hA m)).2
  refine ⟨by simp, limbs_zeros _, limbs_drop hA m, ?_, by omega, fun j _ => lim_zeros m j, ?_⟩
  · have := pw_le hl
    omega
  · rw [val_zeros0, val_split A m (by omega)]
    omega

theorem val_row (x : Int) (rs : List Int) : val (x :: rs) = x + BB * val rs := rfl

theorem div_row {A : List Int} {V : Int} {n m k : Nat} {qs rs : List Int} (h : DivInv A V n m (k + 1) qs rs) (hA : Limbs A) : 0 ≤ lim A k + BB * val rs ∧ (lim A k + BB * val rs) / V < BB := by
  have hl := lim_bd hA k
  have hv := (val_bd h.rlimbs).1
  have hB := BB_pos
  have h1 := Int.mul_nonneg (Int.le_of_lt hB) hv
  refine ⟨by omega, ?_⟩
  have h2 : val rs + 1 ≤ V := h.rlt
  have h3 := Int.mul_le_mul_of_nonneg_left h2 (Int.le_of_lt hB)
  rw [Int.mul_add, Int.mul_one] at h3
  exact Int.ediv_lt_of_lt_mul (by omega) (by omega)

theorem div_next {A : List Int} {V : Int} {n m k : Nat} {qs rs ls : List Int} {d : Int} (h : DivInv A V n m (k + 1) qs rs) (hA : Limbs A) (hk : k < m) (hV : V < BB ^ n) (hd : d = (lim A k + BB * val rs) / V) (hls : Num ls (lim A k + BB * val rs - V * d)) :
    DivInv A V n m k (qs.set k d) ls := by
  have hr := div_row h hA
  have hVp : 0 < V := by have := h.rlt; have := (val_bd h.rlimbs).1; omega
  have hd0 : 0 ≤ d := by rw [hd]; exact Int.ediv_nonneg hr.1 (by omega)
  have hlt : lim A k + BB * val rs - V * d < V := by
    have h1 := Int.emod_add_mul_ediv (lim A k + BB * val rs) V
    have h2 := Int.emod_lt_of_pos (lim A k + BB * val rs) hVp
    rw [← hd] at h1
    omega
  refine ⟨by simp [h.len], limbs_set h.limbs k hd0 (by rw [hd]; exact hr.2), hls.limbs, by rw [hls.val]; exact hlt, ?_, ?_, ?_⟩
  · rcases Nat.lt_or_ge n ls.length with hg | hg
    · obtain ⟨j, hj⟩ : ∃ j, ls.length = j + 1 := ⟨ls.length - 1, by omega⟩
      have h1 := val_ge hls.limbs hls.trim j hj
      rw [hls.val] at h1
      have := pw_le (show n ≤ j by omega)
      omega
    · exact hg
  · intro j hj
    have := h.zeros j (by omega)
    rw [lim_nat] at this ⊢
    rw [List.getD_eq_getElem?_getD, List.getElem?_set_ne (by omega), ← List.getD_eq_getElem?_getD]
    exact this
  · rw [val_set qs k d (by rw [h.len]; exact hk), h.zeros k (by omega), hls.val, h.eq, pv, pw_succ]
    grind

theorem div_end {A qs rs : List Int} {n m : Nat} {a b P V : Int} (h : DivInv A V n m 0 qs rs) (hP : 0 < P) (hb : 0 < b) (hA : val A = a * P) (hV : V = b * P) : val qs = a / b ∧ val rs / P = a % b ∧ 0 ≤ val rs := by
  have e := h.eq
  simp only [pv, Int.pow_zero, Int.mul_one, Int.add_zero] at e
  rw [hA, hV] at e
  have hlt := h.rlt
  rw [hV] at hlt
  have h0 := (val_bd h.rlimbs).1
  generalize val qs = Q at e ⊢
  generalize val rs = r at e hlt h0 ⊢
  have hr : r = (a - Q * b) * P := by grind
  have ht0 : 0 ≤ a - Q * b := by
    rcases Int.lt_or_le (a - Q * b) 0 with hl | hl
    · have := Int.mul_pos (show 0 < -(a - Q * b) by omega) hP
      rw [Int.neg_mul] at this
      omega
    · exact hl
  have ht1 : a - Q * b < b := by
    rw [hr] at hlt
    exact Int.lt_of_mul_lt_mul_right hlt (Int.le_of_lt hP)
  have e2 : a = (a - Q * b) + b * Q := by rw [Int.mul_comm b]; omega
  refine ⟨?_, ?_, h0⟩
  · rw [e2, Int.add_mul_ediv_left _ _ (by omega), Int.ediv_eq_zero_of_lt ht0 ht1]; omega
  · rw [hr, Int.mul_ediv_cancel _ (by omega)]
    conv => rhs; rw [e2]
    rw [Int.add_mul_emod_self_left, Int.emod_eq_of_lt ht0 ht1]

end Go.Proofs.YtghnmfkgpkikfaaGreatDoor

/-! What layer 3 tells, as arithmetic: quotients, what two have in common, what both divide. No program. -/
namespace Go.Proofs.YtghnmfkgpkikfaaGreatDoor

/-- The greatest number by which both can be divided. -/
def gcdI (a b : Int) : Int := (Nat.gcd a.toNat b.toNat : Nat)
/-- The least number that can be divided by both. -/
def lcmI (a b : Int) : Int := a / gcdI a b * b

theorem gcdI_nonneg (a b : Int) : 0 ≤ gcdI a b := Int.natCast_nonneg _
theorem gcdI_zero {a : Int} (h : 0 ≤ a) : gcdI a 0 = a := by unfold gcdI; simp; omega
theorem gcdI_zero_left {a : Int} (h : 0 ≤ a) : gcdI 0 a = a := by unfold gcdI; simp; omega
theorem gcdI_step {a b : Int} (ha : 0 ≤ a) (hb : 0 ≤ b) : gcdI a b = gcdI b (a % b) := by
  unfold gcdI
  rw [Int.toNat_emod ha hb, Nat.gcd_comm b.toNat, ← Nat.gcd_rec, Nat.gcd_comm]
theorem gcdI_le {a b : Int} (ha : 0 < a) : gcdI a b ≤ a := by
  unfold gcdI
  have := Nat.gcd_le_left b.toNat (show 0 < a.toNat by omega)
  omega
theorem gcdI_pos {a b : Int} (h : 0 < a) : 0 < gcdI a b := by
  unfold gcdI
  have := Nat.gcd_pos_of_pos_left b.toNat (show 0 < a.toNat by omega)
  omega
theorem gcdI_comm (a b : Int) : gcdI a b = gcdI b a := by unfold gcdI; rw [Nat.gcd_comm]
theorem gcdI_lt {a b B : Int} (ha : 0 ≤ a) (hb : 0 ≤ b) (hA : a < B) (hB : b < B) : gcdI a b < B := by
  rcases Int.lt_or_eq_of_le ha with h | h
  · have := gcdI_le (b := b) h; omega
  · rw [← h, gcdI_zero_left hb]; exact hB
theorem gcdI_dvd {a b : Int} (ha : 0 < a) (hb : 0 ≤ b) : ∃ p q, 0 < p ∧ 0 ≤ q ∧ a = gcdI a b * p ∧ b = gcdI a b * q ∧ gcdI p q = 1 := by
  obtain ⟨A, rfl⟩ := Int.eq_ofNat_of_zero_le (Int.le_of_lt ha)
  obtain ⟨B, rfl⟩ := Int.eq_ofNat_of_zero_le hb
  have hA : 0 < A := by omega
  have hg : 0 < Nat.gcd A B := Nat.gcd_pos_of_pos_left B hA
  have h1 := Nat.mul_div_cancel' (Nat.gcd_dvd_left A B)
  have h2 := Nat.mul_div_cancel' (Nat.gcd_dvd_right A B)
  have hp : 0 < A / Nat.gcd A B := by
    rcases Nat.eq_zero_or_pos (A / Nat.gcd A B) with h | h
    · rw [h] at h1; simp at h1; omega
    · exact h
  refine ⟨((A / Nat.gcd A B : Nat) : Int), ((B / Nat.gcd A B : Nat) : Int), by exact_mod_cast hp, Int.natCast_nonneg _, ?_, ?_, ?_⟩
  · unfold gcdI
    rw [Int.toNat_natCast, Int.toNat_natCast]
    exact_mod_cast h1.symm
  · unfold gcdI
    rw [Int.toNat_natCast, Int.toNat_natCast]
    exact_mod_cast h2.symm
  · unfold gcdI
    rw [Int.toNat_natCast, Int.toNat_natCast, Nat.gcd_div (Nat.gcd_dvd_left A B) (Nat.gcd_dvd_right A B), Nat.div_self hg]
    rfl

/-- What a call of Div tells. -/
structure DivOut (xs ys : List Int) (q r : List Int) (k : Int) : Prop where
  is_arg : ¬ (May xs ∧ May ys) → k = 1 ∧ q = [] ∧ r = []
  is_zero : May xs ∧ May ys → val ys = 0 → k = 30 ∧ q = [] ∧ r = []
  is_fine : May xs ∧ May ys → val ys ≠ 0 → k = 0 ∧ Num q (val xs / val ys) ∧ Num r (val xs % val ys)

theorem DivOut.arg {xs ys : List Int} (h : ¬ (May xs ∧ May ys)) : DivOut xs ys [] [] 1 := ⟨fun _ => ⟨rfl, rfl, rfl⟩, fun o => absurd o h, fun o => absurd o h⟩
theorem DivOut.zero {xs ys : List Int} (h : May xs ∧ May ys) (z : val ys = 0) : DivOut xs ys [] [] 30 := ⟨fun o => absurd h o, fun _ _ => ⟨rfl, rfl, rfl⟩, fun _ n => absurd z n⟩
theorem DivOut.fine {xs ys q r : List Int} (h : May xs ∧ May ys) (z : val ys ≠ 0) (hq : Num q (val xs / val ys)) (hr : Num r (val xs % val ys)) : DivOut xs ys q r 0 := ⟨fun o => absurd h o, fun _ n => absurd n z, fun _ _ => ⟨rfl, hq, hr⟩⟩

theorem DivOut.one {xs ys q r q' r' : List Int} {k k' : Int} (h : DivOut xs ys q r k) (h' : DivOut xs ys q' r' k') : q = q' ∧ r = r' ∧ k = k' := by
  by_cases o : May xs ∧ May ys
  · by_cases z : val ys = 0
    · have a := h.is_zero o z
      have b := h'.is_zero o z
      exact ⟨a.2.1.trans b.2.1.symm, a.2.2.trans b.2.2.symm, a.1.trans b.1.symm⟩
    · have a := h.is_fine o z
      have b := h'.is_fine o z
      exact ⟨a.2.1.one b.2.1, a.2.2.one b.2.2, a.1.trans b.1.symm⟩
  · have a := h.is_arg o
    have b := h'.is_arg o
    exact ⟨a.2.1.trans b.2.1.symm, a.2.2.trans b.2.2.symm, a.1.trans b.1.symm⟩

/-- What a call of Small tells. -/
structure SmallOut (xs : List Int) (n : Int) (q : List Int) (r k : Int) : Prop where
  is_arg : ¬ May xs → k = 1 ∧ q = [] ∧ r = 0
  is_zero : May xs → n = 0 → k = 30 ∧ q = [] ∧ r = 0
  is_fine : May xs → n ≠ 0 → k = 0 ∧ Num q (val xs / n) ∧ r = val xs % n

theorem SmallOut.one {xs q q' : List Int} {n r k r' k' : Int} (h : SmallOut xs n q r k) (h' : SmallOut xs n q' r' k') : q = q' ∧ r = r' ∧ k = k' := by
  by_cases o : May xs
  · by_cases z : n = 0
    · have a := h.is_zero o z
      have b := h'.is_zero o z
      exact ⟨a.2.1.trans b.2.1.symm, a.2.2.trans b.2.2.symm, a.1.trans b.1.symm⟩
    · have a := h.is_fine o z
      have b := h'.is_fine o z
      exact ⟨a.2.1.one b.2.1, a.2.2.trans b.2.2.symm, a.1.trans b.1.symm⟩
  · have a := h.is_arg o
    have b := h'.is_arg o
    exact ⟨a.2.1.trans b.2.1.symm, a.2.2.trans b.2.2.symm, a.1.trans b.1.symm⟩

/-- Small's answer is Div's by the natural n; its rest is a limb, or nothing. -/
theorem SmallOut.of {xs ys q r : List Int} {n k : Int} (hn : Num ys n) (hB : n < BB) (h : DivOut xs ys q r k) : SmallOut xs n q (lim r 0) k := by
  have hbb := Big_BB
  have my : May ys := hn.may.2 (by omega)
  have hv := hn.val
  have h0 := hn.nonneg
  refine ⟨fun o => ?_, fun o z => ?_, fun o z => ?_⟩
  · have a := h.is_arg (fun c => o c.1)
    rw [a.2.2]; exact ⟨a.1, a.2.1, rfl⟩
  · have a := h.is_zero ⟨o, my⟩ (by omega)
    rw [a.2.2]; exact ⟨a.1, a.2.1, rfl⟩
  · have a := h.is_fine ⟨o, my⟩ (by omega)
    rw [hv] at a
    refine ⟨a.1, a.2.1, ?_⟩
    have hr := a.2.2
    have hm := Int.emod_lt_of_pos (val xs) (show 0 < n by omega)
    have hl : r.length ≤ 1 := by
      rcases Nat.lt_or_ge 1 r.length with hg | hg
      · obtain ⟨j, hj⟩ : ∃ j, r.length = j + 1 := ⟨r.length - 1, by omega⟩
        have h1 := val_ge hr.limbs hr.trim j hj
        rw [hr.val] at h1
        have h2 := pw_le (show 1 ≤ j by omega)
        rw [Int.pow_succ, Int.pow_zero, Int.one_mul] at h2
        omega
      · exact hg
    rw [← hr.val, ← pv_val r 1 hl]
    simp [pv]

theorem num_len_zero {r : List Int} {v : Int} (h : Num r v) : r.length = 0 ↔ v = 0 := by
  constructor
  · intro hl
    rw [← h.val, List.length_eq_zero_iff.1 hl]; rfl
  · intro hv
    rw [zero_of_val h.limbs h.trim (h.val.trans hv)]; rfl

theorem lcmI_zero_left (b : Int) : lcmI 0 b = 0 := by unfold lcmI; simp
theorem lcmI_zero_right (a : Int) : lcmI a 0 = 0 := by unfold lcmI; simp

end Go.Proofs.YtghnmfkgpkikfaaGreatDoor

/-! Rows of limbs in memory: what a slice of uint64 holds, and that it holds it still behind calls that make memory of their own. -/
namespace Go.Proofs.YtghnmfkgpkikfaaGreatDoor
open Go.RowKit

/-- The slice that begins at 'ao', of n elements, holds the limbs xs. -/
structure RowAt (w : World) (ao : Option Addr) (n cap : Nat) (xs : List Int) : Prop where
  len : xs.length = n
  limbs : Limbs xs
  fits : n ≤ cap
  most : cap ≤ maxLen
  bare : ao = none → cap = 0
  cells : xs ≠ [] → ∃ b off, ao = some ⟨b, off, none⟩ ∧ b < w.heap.size ∧ ∀ j, j < xs.length → w.cell? ⟨b, off + j, none⟩ = some (.int .u64 (xs.getD j 0))

theorem RowAt.below {w w' : World} {ao : Option Addr} {n cap : Nat} {xs : List Int} (h : RowAt w ao n cap xs) (hb : Below w.heap.size w w') : RowAt w' ao n cap xs := by
  refine ⟨h.len, h.limbs, h.fits, h.most, h.bare, fun hne => ?_⟩
  obtain ⟨b, off, e, hlt, hc⟩ := h.cells hne
  exact ⟨b, off, e, Nat.lt_of_lt_of_le hlt hb.size, fun j hj => (hb.cell (p := ⟨b, off + j, none⟩) hlt).trans (hc j hj)⟩

theorem RowAt.drew {w : World} {ao : Option Addr} {n cap : Nat} {xs : List Int} (h : RowAt w ao n cap xs) : RowAt w.drew ao n cap xs := h.below (Below.refl _ _).drew

theorem RowAt.drewN {w : World} {ao : Option Addr} {n cap : Nat} {xs : List Int} (h : RowAt w ao n cap xs) (k : Nat) : RowAt (w.drewN k) ao n cap xs := h.below (below_drewN (Below.refl _ _) k)

theorem RowAt.nil (w : World) : RowAt w none 0 0 [] := ⟨rfl, by intro x hx; simp at hx, Nat.le_refl _, by unfold maxLen; omega, fun _ => rfl, fun h => by simp at h⟩
theorem Num.nil : Num [] 0 := ⟨by intro x hx; simp at hx, by intro n hn; simp at hn, rfl⟩

/-- A row that a call has made and owns is a row. -/
theorem RowAt.owns {w : World} {base n : Nat} {v : Value} {zs : List Int} (h : w.ownsRow base 24 1 v n (zs.map (Value.int .u64))) (hl : Limbs zs) : ∃ ao cap, v = .slice ao n cap ∧ RowAt w ao n cap zs := by
  have hlen : zs.length = n := by have := h.1; simpa using this
  rcases h.2 with ⟨rfl, h0⟩ | ⟨g, cap, cur, rfl, hg, hh, hnc, hcp, hcs, htake⟩
  · subst h0
    rw [List.length_eq_zero_iff.1 hlen]
    exact ⟨none, 0, rfl, RowAt.nil w⟩
  · refine ⟨_, cap, rfl, ⟨hlen, hl, hnc, hcp, by simp, fun _ => ⟨g, 0, rfl, lt_of_block hh, fun j hj => ?_⟩⟩⟩
    rw [Nat.zero_add, h.cellAt j (by omega)]
    simp [hj]

/-- The two worlds differ in draws alone. -/
structure Eqw (w' w : World) : Prop where
  heap : w'.heap = w.heap
  os : w'.os = w.os
  output : w'.output = w.output
  tape : w'.tape = w.tape

theorem Eqw.below {B : Nat} {a w w' : World} (h : Eqw w' w) (hb : Below B a w) : Below B a w' :=
  ⟨h.os.trans hb.os, h.tape.trans hb.tape, h.output.trans hb.output, by rw [h.heap]; exact hb.size, fun k hk => by rw [h.heap]; exact hb.block k hk⟩

/-- A block that is as it was. -/
theorem heapAt {B : Nat} {w w' : World} (h : Below B w w') {k : Nat} {o : Obj} (hk : k < B) (ho : w.heap[k]? = some o) : w'.heap[k]? = some o := (h.block k hk).trans ho

theorem ret_int {k : IntKind} {a b : Int} (h : a = b) : Ending.returned (.int k a) = .returned (.int k b) := by rw [h]

set_option maxHeartbeats 400000 in
theorem at_any (ao : Option Addr) (n cap : Nat) (xs : List Int) (i : Int) (w : World) (h : RowAt w ao n cap xs) (hi : -9223372036854775808 ≤ i) (hi' : i ≤ 9223372036854775807) :
    Calls Tryz.prog 85 #[.slice ao n cap, .int .i64 i] w fun e w' => e = .returned (.int .u64 (lim xs i)) ∧ w' = w := by
  obtain rfl := h.len
  have hl : xs.length ≤ maxLen := Nat.le_trans h.fits h.most
  unfold maxLen at hl
  by_cases h0 : i < 0
  · go_enter Tryz.func85, Tryz.ntmps85
    go_wp2
    go_ret
    exact ⟨ret_int (lim_neg _ _ h0).symm, rfl⟩
  · obtain ⟨k, rfl⟩ := Int.eq_ofNat_of_zero_le (by omega : 0 ≤ i)
    by_cases hk : k < xs.length
    · obtain ⟨b, off, rfl, hlt, hc⟩ := h.cells (by intro e; rw [e] at hk; simp at hk)
      have hck := hc k hk
      clear hc h
      go_enter Tryz.func85, Tryz.ntmps85
      go_wp2
      go_ret
      exact ⟨ret_int (by rw [lim_nat]; simp [hk]), rfl⟩
    · go_enter Tryz.func85, Tryz.ntmps85
      go_wp2
      go_ret
      exact ⟨ret_int (lim_past _ _ (by omega)).symm, rfl⟩

end Go.Proofs.YtghnmfkgpkikfaaGreatDoor

/-! math/bits.Len64: how many bits a limb has. -/
namespace Go.Proofs.YtghnmfkgpkikfaaGreatDoor
open Go.RowKit
set_option linter.unusedVariables false

theorem wrap_two (k a n : Nat) (h : k ≤ 100) (ha : a ≤ 8) (hn : n = k + a) : wrap64 ((k : Int) + wrap64 (a : Int)) = (n : Int) := by unfold wrap64; omega
theorem wrap_zero (a : Nat) (ha : a ≤ 8) : wrap64 (wrap64 (a : Int)) = (a : Int) := by unfold wrap64; omega

theorem bitLen_up (x : Int) (b d : Nat) (hx : 0 ≤ x) (hd : d = 2 ^ b) (h : (d : Int) ≤ x) : bitLen x.toNat = b + bitLen (x / d).toNat := by
  obtain ⟨X, rfl⟩ := Int.eq_ofNat_of_zero_le hx
  subst hd
  have e : ((X : Int) / ((2 ^ b : Nat) : Int)).toNat = X / 2 ^ b := by rw [← Int.natCast_ediv]; rfl
  rw [e, Int.toNat_natCast]
  exact bitLen_shift X b (by have := Nat.div_pos (show 2 ^ b ≤ X by omega) (Nat.two_pow_pos b); omega)

theorem way7 (x : Int) (hx : 0 ≤ x) (hB : x < BB) (h0 : 4294967296 ≤ x) (h1 : 65536 ≤ x / 4294967296) (h2 : 256 ≤ x / 4294967296 / 65536) : wrap64 (56 + wrap64 ((bitLen (x / 4294967296 / 65536 / 256).toNat : Nat) : Int)) = ((bitLen x.toNat : Nat) : Int) := by
  unfold BB at hB
  refine wrap_two 56 _ _ (by omega) (bitLen_le8 _ (by omega)) ?_
  have e0 := bitLen_up (x) 32 4294967296 (by omega) (by decide) h0
  have e1 := bitLen_up (x / 4294967296) 16 65536 (by omega) (by decide) h1
  have e2 := bitLen_up (x / 4294967296 / 65536) 8 256 (by omega) (by decide) h2
  simp only [Int.cast_ofNat_Int] at e0 e1 e2
  omega
theorem way6 (x : Int) (hx : 0 ≤ x) (hB : x < BB) (h0 : 4294967296 ≤ x) (h1 : 65536 ≤ x / 4294967296) (h2 : x / 4294967296 / 65536 < 256) : wrap64 (48 + wrap64 ((bitLen (x / 4294967296 / 65536).toNat : Nat) : Int)) = ((bitLen x.toNat : Nat) : Int) := by
  unfold BB at hB
  refine wrap_two 48 _ _ (by omega) (bitLen_le8 _ (by omega)) ?_
  have e0 := bitLen_up (x) 32 4294967296 (by omega) (by decide) h0
  have e1 := bitLen_up (x / 4294967296) 16 65536 (by omega) (by decide) h1
  simp only [Int.cast_ofNat_Int] at e0 e1
  omega
theorem way5 (x : Int) (hx : 0 ≤ x) (hB : x < BB) (h0 : 4294967296 ≤ x) (h1 : x / 4294967296 < 65536) (h2 : 256 ≤ x / 4294967296) : wrap64 (40 + wrap64 ((bitLen (x / 4294967296 / 256).toNat : Nat) : Int)) = ((bitLen x.toNat : Nat) : Int) := by
  unfold BB at hB
  refine wrap_two 40 _ _ (by omega) (bitLen_le8 _ (by omega)) ?_
  have e0 := bitLen_up (x) 32 4294967296 (by omega) (by decide) h0
  have e1 := bitLen_up (x / 4294967296) 8 256 (by omega) (by decide) h2
  simp only [Int.cast_ofNat_Int] at e0 e1
  omega
theorem way4 (x : Int) (hx : 0 ≤ x) (hB : x < BB) (h0 : 4294967296 ≤ x) (h1 : x / 4294967296 < 65536) (h2 : x / 4294967296 < 256) : wrap64 (32 + wrap64 ((bitLen (x / 4294967296).toNat : Nat) : Int)) = ((bitLen x.toNat : Nat) : Int) := by
  unfold BB at hB
  refine wrap_two 32 _ _ (by omega) (bitLen_le8 _ (by omega)) ?_
  have e0 := bitLen_up (x) 32 4294967296 (by omega) (by decide) h0
  simp only [Int.cast_ofNat_Int] at e0
  omega
theorem way3 (x : Int) (hx : 0 ≤ x) (hB : x < BB) (h0 : x < 4294967296) (h1 : 65536 ≤ x) (h2 : 256 ≤ x / 65536) : wrap64 (24 + wrap64 ((bitLen (x / 65536 / 256).toNat : Nat) : Int)) = ((bitLen x.toNat : Nat) : Int) := by
  unfold BB at hB
  refine wrap_two 24 _ _ (by omega) (bitLen_le8 _ (by omega)) ?_
  have e0 := bitLen_up (x) 16 65536 (by omega) (by decide) h1
  have e1 := bitLen_up (x / 65536) 8 256 (by omega) (by decide) h2
  simp only [Int.cast_ofNat_Int] at e0 e1
  omega
theorem way2 (x : Int) (hx : 0 ≤ x) (hB : x < BB) (h0 : x < 4294967296) (h1 : 65536 ≤ x) (h2 : x / 65536 < 256) : wrap64 (16 + wrap64 ((bitLen (x / 65536).toNat : Nat) : Int)) = ((bitLen x.toNat : Nat) : Int) := by
  unfold BB at hB
  refine wrap_two 16 _ _ (by omega) (bitLen_le8 _ (by omega)) ?_
  have e0 := bitLen_up (x) 16 65536 (by omega) (by decide) h1
  simp only [Int.cast_ofNat_Int] at e0
  omega
theorem way1 (x : Int) (hx : 0 ≤ x) (hB : x < BB) (h0 : x < 4294967296) (h1 : x < 65536) (h2 : 256 ≤ x) : wrap64 (8 + wrap64 ((bitLen (x / 256).toNat : Nat) : Int)) = ((bitLen x.toNat : Nat) : Int) := by
  unfold BB at hB
  refine wrap_two 8 _ _ (by omega) (bitLen_le8 _ (by omega)) ?_
  have e0 := bitLen_up (x) 8 256 (by omega) (by decide) h2
  simp only [Int.cast_ofNat_Int] at e0
  omega
theorem way0 (x : Int) (hx : 0 ≤ x) (_h0 : x < 4294967296) (_h1 : x < 65536) (h2 : x < 256) : wrap64 (wrap64 ((bitLen x.toNat : Nat) : Int)) = ((bitLen x.toNat : Nat) : Int) := wrap_zero _ (bitLen_le8 _ (by omega))

set_option maxRecDepth 100000 in
set_option maxHeartbeats 1000000 in
theorem len64_any (x : Int) (w : World) (hx : 0 ≤ x) (hB : x < BB) :
    Calls Tryz.prog 106 #[.int .u64 x] w fun e w' => e = .returned (.int .i64 ((bitLen x.toNat : Nat) : Int)) ∧ w' = w := by
  have h0 : x ≤ 18446744073709551615 := by unfold BB at hB; omega
  have HB : Hid (x < BB) := hB
  clear hB
  go_enter Tryz.func106, Tryz.ntmps106
  go_wp2_with fail
  all_goals
    go_ret
    refine ⟨ret_int ?_, rfl⟩
    rw [len8tab_get]
    first
      | exact way7 x hx HB.out (by assumption) (by assumption) (by assumption)
      | exact way6 x hx HB.out (by assumption) (by assumption) (by assumption)
      | exact way5 x hx HB.out (by assumption) (by assumption) (by assumption)
      | exact way4 x hx HB.out (by assumption) (by assumption) (by assumption)
      | exact way3 x hx HB.out (by assumption) (by assumption) (by assumption)
      | exact way2 x hx HB.out (by assumption) (by assumption) (by assumption)
      | exact way1 x hx HB.out (by assumption) (by assumption) (by assumption)
      | exact way0 x hx (by assumption) (by assumption) (by assumption)
end Go.Proofs.YtghnmfkgpkikfaaGreatDoor

/-! math/bits.LeadingZeros64: how many bits a limb lacks. -/
namespace Go.Proofs.YtghnmfkgpkikfaaGreatDoor
open Go.RowKit

theorem bitLen_le64 {x : Int} (h0 : 0 ≤ x) (h1 : x < BB) : bitLen x.toNat ≤ 64 := by
  have h2 := (bitLen_spec x.toNat).2
  by_cases h3 : x.toNat = 0
  · rw [h3]; decide
  · have h4 := h2 h3
    have h5 : x.toNat < 2 ^ 64 := by unfold BB at h1; omega
    have h6 : 2 ^ (bitLen x.toNat - 1) < 2 ^ 64 := Nat.lt_of_le_of_lt h4 h5
    have h7 := (Nat.pow_lt_pow_iff_right (by omega)).1 h6
    omega

/-- By how many bits a limb that is not 0 must be shifted so that its highest bit is set. -/
theorem lead_up {x : Int} (h0 : 0 < x) (h1 : x < BB) : 9223372036854775808 ≤ x * 2 ^ (64 - bitLen x.toNat) ∧ (x + 1) * 2 ^ (64 - bitLen x.toNat) ≤ BB ∧ 64 - bitLen x.toNat ≤ 63 := by
  have hl := bitLen_le64 (Int.le_of_lt h0) h1
  have hs := bitLen_spec x.toNat
  have hn : x.toNat ≠ 0 := by omega
  have hlow := hs.2 hn
  have hup := hs.1
  obtain ⟨X, rfl⟩ := Int.eq_ofNat_of_zero_le (Int.le_of_lt h0)
  rw [Int.toNat_natCast] at *
  generalize bitLen X = k at *
  have hk : k ≠ 0 := by
    intro e
    subst e
    simp at hup
    omega
  obtain ⟨j, rfl⟩ : ∃ j, k = j + 1 := ⟨k - 1, by omega⟩
  have e1 : (2 : Nat) ^ (64 - (j + 1)) * 2 ^ (j + 1) = 2 ^ 64 := by rw [← Nat.pow_add]; congr 1; omega
  have e2 : (2 : Nat) ^ (64 - (j + 1)) * 2 ^ j = 2 ^ 63 := by rw [← Nat.pow_add]; congr 1; omega
  have m1 := Nat.mul_le_mul_left (2 ^ (64 - (j + 1))) (show 2 ^ j ≤ X by simpa using hlow)
  have m2 := Nat.mul_le_mul_left (2 ^ (64 - (j + 1))) (show X + 1 ≤ 2 ^ (j + 1) by omega)
  rw [e2, Nat.mul_comm] at m1
  rw [e1, Nat.mul_comm] at m2
  refine ⟨?_, ?_, by omega⟩
  · have : ((2 ^ 63 : Nat) : Int) ≤ ((X * 2 ^ (64 - (j + 1)) : Nat) : Int) := by exact_mod_cast m1
    simpa using this
  · have : (((X + 1) * 2 ^ (64 - (j + 1)) : Nat) : Int) ≤ ((2 ^ 64 : Nat) : Int) := by exact_mod_cast m2
    simpa [BB] using this

set_option maxHeartbeats 400000 in
theorem lead_any (x : Int) (w : World) (h0 : 0 ≤ x) (h1 : x < BB) :
    Calls Tryz.prog 100 #[.int .u64 x] w fun e w' => e = .returned (.int .i64 ((64 - bitLen x.toNat : Nat) : Int)) ∧ w' = w := by
  have hl := bitLen_le64 h0 h1
  have H1 : Hid (x < BB) := h1
  clear h1
  obtain ⟨k, hk⟩ : ∃ k, k = bitLen x.toNat := ⟨_, rfl⟩
  have HK : Hid (k = bitLen x.toNat) := hk
  rw [← hk] at hl ⊢
  clear hk
  go_enter Tryz.func100, Tryz.ntmps100
  go_wp2_with fail
  refine (len64_any x _ h0 H1.out).mono ?_
  rintro e w1 ⟨rfl, rfl⟩
  rw [← HK.out]
  go_wp2
  go_ret
  exact ⟨ret_int (by omega), rfl⟩

theorem lead_top (x : Int) (w : World) (h0 : 9223372036854775808 ≤ x) (h1 : x < BB) :
    Calls Tryz.prog 100 #[.int .u64 x] w fun e w' => e = .returned (.int .i64 0) ∧ w' = w := by
  refine (lead_any x w (by omega) h1).mono ?_
  rintro e w' ⟨rfl, rfl⟩
  have h := lead_up (by omega) h1
  have : 64 - bitLen x.toNat = 0 := by
    rcases Nat.eq_zero_or_pos (64 - bitLen x.toNat) with e | e
    · exact e
    · exfalso
      have h2 := h.2.1
      have h3 : (2 : Int) ^ 1 ≤ 2 ^ (64 - bitLen x.toNat) := by
        have := Nat.pow_le_pow_right (show 0 < 2 by omega) e
        exact_mod_cast this
      have h4 := Int.mul_le_mul_of_nonneg_left h3 (show 0 ≤ x + 1 by omega)
      unfold BB at h2
      omega
  rw [this]
  exact ⟨rfl, rfl⟩

end Go.Proofs.YtghnmfkgpkikfaaGreatDoor

/-! math/bits.Mul64: both halves of a product of limbs. -/
namespace Go.Proofs.YtghnmfkgpkikfaaGreatDoor
open Go.RowKit

theorem wrapU (n : Int) : IntKind.u64.wrap n = n % BB := by
  simp [IntKind.wrap, IntKind.signed, IntKind.bits, BB]

theorem ret_tup2 {a b c d : Int} (h1 : a = c) (h2 : b = d) : Ending.returned (.tuple #[.int .u64 a, .int .u64 b]) = .returned (.tuple #[.int .u64 c, .int .u64 d]) := by rw [h1, h2]

theorem low_of (z : Int) (h0 : 0 ≤ z) (h1 : z < BB) : bits .and .u64 z 4294967295 = z % 4294967296 := and_low32 z h0 (by unfold BB at h1; exact h1)
theorem mod_bd (n : Int) : 0 ≤ n % BB ∧ n % BB < BB := ⟨Int.emod_nonneg _ (by have := BB_pos; omega), Int.emod_lt_of_pos _ BB_pos⟩

theorem hi_eq (x y : Int) (hx : 0 ≤ x) (hy : 0 ≤ y) (hxB : x < BB) (hyB : y < BB) :
    IntKind.u64.wrap (IntKind.u64.wrap (IntKind.u64.wrap (x / 4294967296 * (y / 4294967296)) +
      IntKind.u64.wrap (IntKind.u64.wrap (x / 4294967296 * bits .and .u64 y 4294967295) + IntKind.u64.wrap (bits .and .u64 x 4294967295 * bits .and .u64 y 4294967295) / 4294967296) / 4294967296) +
      IntKind.u64.wrap (bits .and .u64 (IntKind.u64.wrap (IntKind.u64.wrap (x / 4294967296 * bits .and .u64 y 4294967295) + IntKind.u64.wrap (bits .and .u64 x 4294967295 * bits .and .u64 y 4294967295) / 4294967296)) 4294967295 +
        IntKind.u64.wrap (bits .and .u64 x 4294967295 * (y / 4294967296))) / 4294967296) = x * y / BB := by
  rw [low_of x hx hxB, low_of y hy hyB]
  simp only [wrapU]
  rw [low_of _ (mod_bd _).1 (mod_bd _).2]
  have h := mul64_arith x y hx (by unfold BB at hxB; exact hxB) hy (by unfold BB at hyB; exact hyB)
  unfold BB
  exact h

set_option maxHeartbeats 400000 in
theorem mul64_any (x y : Int) (w : World) (hx : 0 ≤ x) (hy : 0 ≤ y) (hxB : x < BB) (hyB : y < BB) :
    Calls Tryz.prog 92 #[.int .u64 x, .int .u64 y] w fun e w' => e = .returned (.tuple #[.int .u64 (x * y / BB), .int .u64 (x * y % BB)]) ∧ w = w' := by
  have HX : Hid (x < BB) := hxB
  have HY : Hid (y < BB) := hyB
  clear hxB hyB
  go_enter Tryz.func92, Tryz.ntmps92
  go_wp2
  go_ret2
  exact ⟨ret_tup2 (hi_eq x y hx hy HX.out HY.out) (wrapU _), rfl⟩
end Go.Proofs.YtghnmfkgpkikfaaGreatDoor

/-! math/bits.Div64, by a divisor whose highest bit is set. -/
namespace Go.Proofs.YtghnmfkgpkikfaaGreatDoor
open Go.RowKit

theorem wrapu {x : Int} (h0 : 0 ≤ x) (h1 : x ≤ 18446744073709551615) : IntKind.u64.wrap x = x := by rw [IntKind.wrap_u64]; omega
theorem v_int {k : IntKind} {a b : Int} (h : a = b) : Value.int k a = .int k b := by rw [h]

theorem ret2u {v : Value} {a b : Int} (h : a = b) : Ending.returned (.tuple #[.int .u64 a, v]) = .returned (.tuple #[.int .u64 b, v]) := by rw [h]

theorem gs_first {y yn1 yn0 u x : Int} (D : Dv y yn1 yn0) (u0 : 0 ≤ u) (u1 : u < y) (hy : y ≤ 18446744073709551615) (x0 : 0 ≤ x) (x1 : x < 4294967296) :
    ∃ q r, IntKind.u64.wrap (u.tdiv yn1) = q ∧ IntKind.u64.wrap (u - IntKind.u64.wrap (q * yn1)) = r ∧ Gs y yn1 yn0 u x q r := by
  have G := gs_start D u0 u1 x0 x1
  have g0 := G.q0
  have g1 := G.q1
  have g2 := G.r0
  have g3 := G.r1
  have hp := Int.mul_nonneg g0 (show 0 ≤ yn1 by have := D.b0; omega)
  refine ⟨u / yn1, u - u / yn1 * yn1, ?_, ?_, G⟩
  · rw [Int.tdiv_eq_ediv_of_nonneg u0]
    exact wrapu g0 (by omega)
  · rw [wrapu hp (by omega)]
    exact wrapu (by omega) (by omega)

theorem or_none {hi lo : Int} (h0 : 0 ≤ hi) (h1 : hi ≤ 18446744073709551615) (l0 : 0 ≤ lo) (l1 : lo ≤ 18446744073709551615) : lo / 18446744073709551616 = 0 ∧ bits .or .u64 hi 0 = hi := by
  refine ⟨by omega, ?_⟩
  obtain ⟨a, rfl⟩ := Int.eq_ofNat_of_zero_le h0
  have := bits_or_u64_nat a 0 (by omega) (by omega)
  simpa using this

set_option maxRecDepth 100000 in
set_option maxHeartbeats 4000000 in
theorem div64_any (hi lo y : Int) (w : World) (h0 : 0 ≤ hi) (h1 : hi < y) (l0 : 0 ≤ lo) (l1 : lo < BB) (y0 : 9223372036854775808 ≤ y) (y1 : y < BB) :
    Calls Tryz.prog 118 #[.int .u64 hi, .int .u64 lo, .int .u64 y] w fun e w' => ∃ r, e = .returned (.tuple #[.int .u64 ((hi * BB + lo) / y), .int .u64 r]) ∧ ∃ m, w' = w.drewN m := by
  have l2 : lo ≤ 18446744073709551615 := by unfold BB at l1; omega
  have y2 : y ≤ 18446744073709551615 := by unfold BB at y1; omega
  obtain ⟨ov, hov⟩ : ∃ v, v = (hi * BB + lo) / y := ⟨_, rfl⟩
  rw [← hov]
  have HV : Hid (ov = (hi * BB + lo) / y) := hov
  clear hov
  have HD : Hid (Dv y (y / 4294967296) (y % 4294967296)) := dv_of y0 y1
  have Y1 : Hid (y < BB) := y1
  have hyz : (y == 0) = false := by rw [beq_eq_false_iff_ne]; omega
  have hyn : y ≠ 0 := by omega
  have hyh : ¬ y ≤ hi := by omega
  have ea := low_of y (by omega) y1
  have eb := low_of lo l0 l1
  clear y1 l1
  by_cases hz : hi = 0
  · subst hz
    have e : IntKind.u64.wrap (lo.tdiv y) = ov := by
      rw [HV.out, Int.tdiv_eq_ediv_of_nonneg l0, Int.zero_mul, Int.zero_add]
      have := Int.ediv_nonneg l0 (show 0 ≤ y by omega)
      have := Int.ediv_le_self y l0
      exact wrapu (by omega) (by omega)
    clear HV HD ea eb
    go_enter Tryz.func118, Tryz.ntmps118
    go_wp2_with fail
    go_quiet (fail)
    go_wp2
    go_ret2
    exact ⟨_, rfl, _, rfl⟩
  · have hzb : (hi == 0) = false := by rw [beq_eq_false_iff_ne]; omega
    obtain ⟨eo, ep⟩ := or_none h0 (by omega) l0 l2
    obtain ⟨yn1, ec⟩ : ∃ v, y / 4294967296 = v := ⟨_, rfl⟩
    obtain ⟨yn0, ed⟩ : ∃ v, y % 4294967296 = v := ⟨_, rfl⟩
    obtain ⟨un1, ee⟩ : ∃ v, lo / 4294967296 = v := ⟨_, rfl⟩
    obtain ⟨un0, ef⟩ : ∃ v, lo % 4294967296 = v := ⟨_, rfl⟩
    rw [ed] at ea
    rw [ef] at eb
    rw [ec, ed] at HD
    have hlo : lo = un1 * 4294967296 + un0 := by omega
    have HLO : Hid (lo = un1 * 4294967296 + un0) := hlo
    have a0 : 0 ≤ un1 := by omega
    have a1 : un1 < 4294967296 := by omega
    have a2 : 0 ≤ un0 := by omega
    have a3 : un0 < 4294967296 := by omega
    have b0 := HD.out.b0
    have b1 := HD.out.b1
    have b2 := HD.out.a0
    have b3 := HD.out.a1
    have bn : yn1 ≠ 0 := by omega
    clear hlo ed ef
    obtain ⟨q0, r0, eq, er, hgs⟩ := gs_first HD.out h0 h1 y2 a0 a1
    have HGS : Hid (Gs y yn1 yn0 hi un1 q0 r0) := hgs
    clear hgs
    obtain ⟨Q1, hQ1⟩ : ∃ v, v = (hi * 4294967296 + un1) / y := ⟨_, rfl⟩
    have hrb := rest_bd HD.out.pos hQ1
    have hQl : Q1 < 4294967296 := by rw [hQ1]; exact gs_lt HD.out h1 a1
    have hQg : 0 ≤ Q1 := by rw [hQ1]; exact Int.ediv_nonneg (by omega) (by omega)
    obtain ⟨v, hv⟩ : ∃ v, v = hi * 4294967296 + un1 - Q1 * y := ⟨_, rfl⟩
    rw [← hv] at hrb
    have ev : IntKind.u64.wrap (IntKind.u64.wrap (IntKind.u64.wrap (hi * 4294967296) + un1) - IntKind.u64.wrap (Q1 * y)) = v := by
      rw [IntKind.wrap_u64, IntKind.wrap_u64, IntKind.wrap_u64, IntKind.wrap_u64]
      omega
    obtain ⟨p0, s0, eq2, er2, hgs2⟩ := gs_first HD.out hrb.1 hrb.2 y2 a2 a3
    have HGS2 : Hid (Gs y yn1 yn0 v un0 p0 s0) := hgs2
    clear hgs2
    obtain ⟨Q0, hQ0⟩ : ∃ u, u = (v * 4294967296 + un0) / y := ⟨_, rfl⟩
    have hPl : Q0 < 4294967296 := by rw [hQ0]; exact gs_lt HD.out hrb.2 a3
    have hPg : 0 ≤ Q0 := by rw [hQ0]; exact Int.ediv_nonneg (by omega) (by omega)
    have EO : Hid (Q1 * 4294967296 + Q0 = ov) := by
      show Q1 * 4294967296 + Q0 = ov
      rw [HV.out, HLO.out]
      exact two_halves HD.out.pos hv hQ0
    have HQ1 : Hid (Q1 = (hi * 4294967296 + un1) / y) := hQ1
    have HQ0 : Hid (Q0 = (v * 4294967296 + un0) / y) := hQ0
    have v0 := hrb.1
    have v1 := hrb.2
    clear hQ1 hQ0 hv hrb HV HLO
    go_enter Tryz.func118, Tryz.ntmps118
    go_wp2_with fail
    refine (lead_top y _ y0 Y1.out).mono ?_
    rintro e w1 ⟨rfl, rfl⟩
    go_upto_block 0 with fail
    go_cut [15] from 67 to 85 (fun q wc => q = .int .u64 Q1 ∧ w1 = wc)
    case first =>
      go_wp2_with fail
      go_loopg [15, 16] (q0.toNat) (fun k q r wr => ∃ qv rv, q = .int .u64 qv ∧ r = .int .u64 rv ∧ Gs y yn1 yn0 hi un1 qv rv ∧ w1 = wr ∧ qv.toNat ≤ k)
      case atStart => exact ⟨_, _, rfl, rfl, HGS.out, rfl, Nat.le_refl _⟩
      case round =>
        obtain ⟨qv, rv, rfl, rfl, hg, rfl, hk⟩ := hrel
        have sm := gs_small HD.out hg
        have p0 := hg.q0
        have p1 := hg.q1
        have p2 := hg.r0
        have p3 := hg.r1
        have e1 : IntKind.u64.wrap (qv * yn0) = qv * yn0 := wrapu sm.1 sm.2
        have e2 : IntKind.u64.wrap (4294967296 * rv) = 4294967296 * rv := wrapu (by omega) (by omega)
        have e3 : IntKind.u64.wrap (4294967296 * rv + un1) = 4294967296 * rv + un1 := wrapu (by omega) (by omega)
        have e5 : IntKind.u64.wrap (rv + yn1) = rv + yn1 := wrapu (by omega) (by omega)
        have HG : Hid (Gs y yn1 yn0 hi un1 qv rv) := hg
        have HK : Hid (qv.toNat ≤ gk) := hk
        have SM : Hid _ := sm
        clear hg hk sm
        by_cases hge : 4294967296 ≤ qv
        · have hm := gs_more HD.out HG.out (by omega) (by omega) (by omega) (by omega) (Or.inl hge)
          have HM : Hid _ := hm
          clear hm
          have e4 : IntKind.u64.wrap (qv - 1) = qv - 1 := wrapu (by omega) (by omega)
          by_cases hbr : 4294967296 ≤ rv + yn1
          · go_wp2
            go_meet
            exact ⟨v_int ((gs_break HD.out HG.out (by omega) HM.out hbr).trans HQ1.out.symm), rfl⟩
          · go_wp2
            go_roundg ((qv - 1).toNat)
            case measure => have := HK.out; omega
            case rel => exact ⟨_, _, rfl, rfl, gs_next HD.out HG.out HM.out (by omega), rfl, Nat.le_refl _⟩
        · by_cases ht : 4294967296 * rv + un1 < qv * yn0
          · have hm := gs_more HD.out HG.out (by omega) (by omega) (by omega) (by omega) (Or.inr ht)
            have e4 : IntKind.u64.wrap (qv - 1) = qv - 1 := wrapu (by have := hm.2; omega) (by omega)
            have HM : Hid _ := hm
            clear hm
            by_cases hbr : 4294967296 ≤ rv + yn1
            · go_wp2
              go_meet
              exact ⟨v_int ((gs_break HD.out HG.out (by omega) HM.out hbr).trans HQ1.out.symm), rfl⟩
            · go_wp2
              go_roundg ((qv - 1).toNat)
              case measure => have := HK.out; have := HM.out.2; omega
              case rel => exact ⟨_, _, rfl, rfl, gs_next HD.out HG.out HM.out (by omega), rfl, Nat.le_refl _⟩
          · go_wp2
            go_meet
            exact ⟨v_int ((gs_stop HD.out HG.out (by omega)).trans HQ1.out.symm), rfl⟩
    case rest =>
      obtain ⟨rfl, rfl⟩ := hcut
      clear eq er
      go_upto_block 2 with fail
      go_cut [18] from 102 to 120 (fun q wc => q = .int .u64 Q0 ∧ w1 = wc)
      case first =>
        go_wp2_with fail
        go_loopg [18, 16] (p0.toNat) (fun k q r wr => ∃ qv rv, q = .int .u64 qv ∧ r = .int .u64 rv ∧ Gs y yn1 yn0 v un0 qv rv ∧ w1 = wr ∧ qv.toNat ≤ k)
        case atStart => exact ⟨_, _, rfl, rfl, HGS2.out, rfl, Nat.le_refl _⟩
        case round =>
          obtain ⟨qv, rv, rfl, rfl, hg, rfl, hk⟩ := hrel
          have sm := gs_small HD.out hg
          have p0 := hg.q0
          have p1 := hg.q1
          have p2 := hg.r0
          have p3 := hg.r1
          have e1 : IntKind.u64.wrap (qv * yn0) = qv * yn0 := wrapu sm.1 sm.2
          have e2 : IntKind.u64.wrap (4294967296 * rv) = 4294967296 * rv := wrapu (by omega) (by omega)
          have e3 : IntKind.u64.wrap (4294967296 * rv + un0) = 4294967296 * rv + un0 := wrapu (by omega) (by omega)
          have e5 : IntKind.u64.wrap (rv + yn1) = rv + yn1 := wrapu (by omega) (by omega)
          have HG : Hid (Gs y yn1 yn0 v un0 qv rv) := hg
          have HK : Hid (qv.toNat ≤ gk) := hk
          have SM : Hid _ := sm
          clear hg hk sm
          by_cases hge : 4294967296 ≤ qv
          · have hm := gs_more HD.out HG.out (by omega) (by omega) (by omega) (by omega) (Or.inl hge)
            have HM : Hid _ := hm
            clear hm
            have e4 : IntKind.u64.wrap (qv - 1) = qv - 1 := wrapu (by omega) (by omega)
            by_cases hbr : 4294967296 ≤ rv + yn1
            · go_wp2
              go_meet
              exact ⟨v_int ((gs_break HD.out HG.out (by omega) HM.out hbr).trans HQ0.out.symm), rfl⟩
            · go_wp2
              go_roundg ((qv - 1).toNat)
              case measure => have := HK.out; omega
              case rel => exact ⟨_, _, rfl, rfl, gs_next HD.out HG.out HM.out (by omega), rfl, Nat.le_refl _⟩
          · by_cases ht : 4294967296 * rv + un0 < qv * yn0
            · have hm := gs_more HD.out HG.out (by omega) (by omega) (by omega) (by omega) (Or.inr ht)
              have e4 : IntKind.u64.wrap (qv - 1) = qv - 1 := wrapu (by have := hm.2; omega) (by omega)
              have HM : Hid _ := hm
              clear hm
              by_cases hbr : 4294967296 ≤ rv + yn1
              · go_wp2
                go_meet
                exact ⟨v_int ((gs_break HD.out HG.out (by omega) HM.out hbr).trans HQ0.out.symm), rfl⟩
              · go_wp2
                go_roundg ((qv - 1).toNat)
                case measure => have := HK.out; have := HM.out.2; omega
                case rel => exact ⟨_, _, rfl, rfl, gs_next HD.out HG.out HM.out (by omega), rfl, Nat.le_refl _⟩
            · go_wp2
              go_meet
              exact ⟨v_int ((gs_stop HD.out HG.out (by omega)).trans HQ0.out.symm), rfl⟩
      case rest =>
        obtain ⟨rfl, rfl⟩ := hcut
        clear eq2 er2 ev
        go_wp2
        go_ret2
        exact ⟨_, ret2u EO.out, 0, rfl⟩
end Go.Proofs.YtghnmfkgpkikfaaGreatDoor

/-! quot.guess: a limb of a quotient, by the highest limbs. -/
namespace Go.Proofs.YtghnmfkgpkikfaaGreatDoor
open Go.RowKit

/-- The limb that the highest limbs ask for. -/
def guessI (high low d : Int) : Int := if d ≤ high then 18446744073709551615 else (high * BB + low) / d

set_option maxHeartbeats 400000 in
theorem guess_any (high low d : Int) (w : World) (h0 : 0 ≤ high) (l0 : 0 ≤ low) (l1 : low < BB) (d0 : 9223372036854775808 ≤ d) (d1 : d < BB) :
    Calls Tryz.prog 104 #[.int .u64 high, .int .u64 low, .int .u64 d] w fun e w' => e = .returned (.int .u64 (guessI high low d)) ∧ ∃ m, w' = w.drewN m := by
  have L1 : Hid (low < BB) := l1
  have D1 : Hid (d < BB) := d1
  clear l1 d1
  by_cases hg : d ≤ high
  · go_enter Tryz.func104, Tryz.ntmps104
    go_wp2
    go_ret
    exact ⟨ret_int (by rw [guessI, if_pos hg]), 0, rfl⟩
  · go_enter Tryz.func104, Tryz.ntmps104
    go_wp2_with fail
    refine (div64_any high low d _ h0 (by omega) l0 L1.out d0 D1.out).mono ?_
    rintro e w1 ⟨r, rfl, m, rfl⟩
    go_wp2
    go_ret
    exact ⟨ret_int (by rw [guessI, if_neg (by omega)]), m, rfl⟩

end Go.Proofs.YtghnmfkgpkikfaaGreatDoor

/-! limb.trimLen and limb.build: the walks. -/
namespace Go.Proofs.YtghnmfkgpkikfaaGreatDoor
open Go.RowKit

set_option maxHeartbeats 400000 in
theorem trimLen_any (ao : Option Addr) (n cap : Nat) (xs : List Int) (w : World) (h : RowAt w ao n cap xs) :
    Calls Tryz.prog 78 #[.slice ao n cap] w fun e w' => ∃ m : Nat, e = .returned (.int .i64 m) ∧ Tl xs m ∧ w' = w := by
  obtain rfl := h.len
  have hl : xs.length ≤ maxLen := Nat.le_trans h.fits h.most
  unfold maxLen at hl
  by_cases h0 : xs = []
  · subst h0
    go_enter Tryz.func78, Tryz.ntmps78
    go_wp2
    refine wp_loop_rounds 1 ?_
    rw [rounds_succ]
    go_wp2
    go_ret
    exact ⟨0, rfl, ⟨by simp, by simp, by simp⟩, rfl⟩
  · obtain ⟨b, off, rfl, hlt, hc⟩ := h.cells h0
    clear h
    go_enter Tryz.func78, Tryz.ntmps78
    go_wp2
    go_loop [3] (fun n => ∃ k : Nat, k ≤ xs.length ∧ n = .int .i64 k ∧ ∀ j, k ≤ j → xs.getD j 0 = 0) (fun n => (intOf n).toNat)
    case atStart => exact ⟨xs.length, Nat.le_refl _, rfl, fun j hj => by simp [hj]⟩
    case round =>
      obtain ⟨k, hk, rfl, hz⟩ := hrel
      have HZ : Hid (∀ j, k ≤ j → xs.getD j 0 = 0) := hz
      clear hz
      by_cases hk0 : k = 0
      · subst hk0
        go_wp2
        go_ret
        exact ⟨0, rfl, ⟨by omega, HZ.out, by simp⟩, rfl⟩
      · obtain ⟨m, rfl⟩ := Nat.exists_eq_succ_of_ne_zero hk0
        have hck := hc m (by omega)
        obtain ⟨x, hx⟩ : ∃ x, x = xs.getD m 0 := ⟨_, rfl⟩
        rw [← hx] at hck
        have HX : Hid (x = xs.getD m 0) := hx
        have HC : Hid (∀ j, j < xs.length → w.cell? ⟨b, off + j, none⟩ = some (.int .u64 (xs.getD j 0))) := hc
        clear hc hx
        by_cases hx0 : x = 0
        · have HX0 : Hid (x = 0) := hx0
          have hb0 : (x == 0) = true := by simp [hx0]
          clear hx0
          go_wp2
          go_round
          case rel =>
            refine ⟨m, by omega, by go_num, fun j hj => ?_⟩
            by_cases e : j = m
            · rw [e, ← HX.out]; exact HX0.out
            · exact HZ.out j (by omega)
          case measure => simp [intOf]
        · have hb0 : (x == 0) = false := by simp [hx0]
          go_wp2
          go_ret
          exact ⟨m + 1, rfl, ⟨hk, HZ.out, fun _ => by rw [Nat.add_sub_cancel, ← HX.out]; exact hx0⟩, rfl⟩
theorem Tryz.info24 : (Tryz.prog.info? 24).map (fun i => (i.zero, i.size, i.bytes)) = some (some (.int .u64 0), 1, 8) := by kernel_rfl

/-- What is told begins in memory of its own. -/
def Fresh (B : Nat) (ao : Option Addr) : Prop := ∀ p, ao = some p → B ≤ p.block
theorem Fresh.none (B : Nat) : Fresh B .none := fun p hp => by cases hp
theorem Fresh.at (B o : Nat) : Fresh B (some ⟨B, o, .none⟩) := fun p hp => by cases hp; exact Nat.le_refl _
theorem Fresh.mono {B B' : Nat} {ao : Option Addr} (h : Fresh B ao) (hb : B' ≤ B) : Fresh B' ao := fun p hp => Nat.le_trans hb (h p hp)

set_option maxHeartbeats 400000 in
theorem build_fresh (n K : Nat) (caps : Array Value) (Inv : List Int → World → Prop) (w : World) (hn : n ≤ 1000000) (h0 : Inv [] w)
    (heg : ∀ args w, (callFunc K args).run Tryz.prog w = .ok (.enter K args) w)
    (hkeep : ∀ xs w1 w2, Inv xs w1 → Below w.heap.size w1 w2 → Inv xs w2)
    (hstep : ∀ xs wr, xs.length < n → Inv xs wr → Calls Tryz.prog K (#[.int .i64 (xs.length : Nat)] ++ caps) wr fun e w' => ∃ x, e = .returned (.int .u64 x) ∧ 0 ≤ x ∧ x < BB ∧ Inv (xs ++ [x]) w' ∧
      (∀ k, w.heap.size ≤ k → w'.heap[k]? = wr.heap[k]?) ∧ w'.heap.size = wr.heap.size) :
    Calls Tryz.prog 81 #[.int .i64 n, .func (.func K) #[] caps] w fun e w' => ∃ ao cap m xs, e = .returned (.slice ao m cap) ∧ xs.length = n ∧ Limbs xs ∧ Tl xs m ∧ RowAt w' ao m cap (xs.take m) ∧ Fresh w.heap.size ao ∧ Inv xs w' := by
  have hmk := run_make_row' (P := Tryz.prog) 22 24 (.int .u64 0) 8 Tryz.underlying22 Tryz.info24 rfl .i64 .i64 n (by omega) (by omega)
  have HS : Hid _ := hstep
  have HK : Hid _ := hkeep
  have H0 : Hid _ := h0
  clear hstep hkeep h0
  go_enter Tryz.func81, Tryz.ntmps81
  go_wp2
  go_loopw [11, 6] (fun i _ wr => ∃ xs : List Int, xs.length ≤ n ∧ i = .int .i64 xs.length ∧ Limbs xs ∧ wr.rowIs w.heap.size 24 n (fun j => .int .u64 (xs.getD j 0)) ∧ Inv xs wr)
    (fun i _ _ => n - (intOf i).toNat)
  case atStart =>
    refine ⟨[], Nat.zero_le _, rfl, by intro x hx; simp at hx, ?_, ?_⟩
    · exact (World.rowIs_made w _ n 24).congr (fun i hi => by simp)
    · exact HK.out _ _ _ H0.out ((Below.refl _ _).alloc (Nat.le_refl _) _)
  case round =>
    obtain ⟨xs, hk, rfl, hlm, hrow, hinv⟩ := hrel
    by_cases hlt : xs.length < n
    · go_wp2_with fail
      refine (HS.out xs wr hlt hinv).mono ?_
      rintro e w1 ⟨x, rfl, hx0, hx1, hinv1, hblk, hsz⟩
      have hrow1 := hrow.of_block (hblk _ (Nat.le_refl _))
      have hcell := hrow1.cell hlt
      have hfree := hrow1.frozen xs.length
      have HB : Hid (0 ≤ x ∧ x < BB) := ⟨hx0, hx1⟩
      have HR : Hid _ := hrow1
      clear hinv hrow hrow1 hblk hsz hx0 hx1
      go_wp2
      go_roundw
      case rel =>
        refine ⟨xs ++ [x], by simp; omega, by simp, ?_, ?_, ?_⟩
        · intro y hy
          rcases List.mem_append.1 hy with h | h
          · exact hlm y h
          · rw [List.mem_singleton.1 h]; exact HB.out
        · refine (World.rowIs.set HR.out xs.length _).congr fun j hj => ?_
          by_cases e : j = xs.length
          · subst e; simp
          · rw [if_neg e]
            by_cases e2 : j < xs.length
            · simp [e2, List.getElem?_append_left]
            · simp [List.getElem?_eq_none (show xs.length ≤ j by omega), List.getElem?_eq_none (show (xs ++ [x]).length ≤ j by simp; omega)]
        · exact HK.out _ _ _ hinv1 ((Below.refl _ _).setCell (by show w.heap.size ≤ w.heap.size; exact Nat.le_refl _) _)
      case measure => simp [intOf]; omega
    · have hlen : xs.length = n := by omega
      have hR : RowAt wr (some ⟨w.heap.size, 0, none⟩) n n xs := ⟨hlen, hlm, by omega, by unfold maxLen; omega, by simp, fun _ => ⟨_, _, rfl, hrow.lt, fun j hj => by rw [Nat.zero_add]; exact hrow.cell (by omega)⟩⟩
      have HI : Hid _ := hinv
      have HL : Hid _ := hlen
      have HM : Hid _ := hlm
      have HN : Hid (RowAt wr (some ⟨w.heap.size, 0, none⟩) n n xs) := hR
      clear hinv hrow hlm hlen hR hmk
      go_wp2_with fail
      refine (trimLen_any _ _ _ xs _ HN.out).mono ?_
      rintro e w1 ⟨m, rfl, htl, rfl⟩
      have hmn : m ≤ n := by have := htl.1; have := HL.out; omega
      have HT : Hid _ := htl
      clear htl
      by_cases hm0 : m = 0
      · subst hm0
        go_wp2
        go_ret
        exact ⟨none, 0, 0, xs, rfl, HL.out, HM.out, HT.out, by simpa using RowAt.nil _, Fresh.none _, HI.out⟩
      · have hm1 : ((m : Int) == 0) = false := by rw [beq_eq_false_iff_ne]; omega
        go_wp2
        go_ret
        refine ⟨some ⟨w.heap.size, 0, none⟩, n, m, xs, rfl, HL.out, HM.out, HT.out, ⟨by have := HL.out; simp; omega, fun x hx => HM.out x (List.mem_of_mem_take hx), hmn, by unfold maxLen; omega, by simp, fun _ => ?_⟩, Fresh.at _ _, HI.out⟩
        obtain ⟨b, off, e, hb, hc⟩ := HN.out.cells (by intro e; have := HL.out; rw [e] at this; simp at this; omega)
        refine ⟨b, off, e, hb, fun j hj => ?_⟩
        simp only [List.length_take] at hj
        rw [hc j (by omega)]
        simp [show j < m by omega]


theorem build_any (n K : Nat) (caps : Array Value) (Inv : List Int → World → Prop) (w : World) (hn : n ≤ 1000000) (h0 : Inv [] w)
    (heg : ∀ args w, (callFunc K args).run Tryz.prog w = .ok (.enter K args) w)
    (hkeep : ∀ xs w1 w2, Inv xs w1 → Below w.heap.size w1 w2 → Inv xs w2)
    (hstep : ∀ xs wr, xs.length < n → Inv xs wr → Calls Tryz.prog K (#[.int .i64 (xs.length : Nat)] ++ caps) wr fun e w' => ∃ x, e = .returned (.int .u64 x) ∧ 0 ≤ x ∧ x < BB ∧ Inv (xs ++ [x]) w' ∧
      (∀ k, w.heap.size ≤ k → w'.heap[k]? = wr.heap[k]?) ∧ w'.heap.size = wr.heap.size) :
    Calls Tryz.prog 81 #[.int .i64 n, .func (.func K) #[] caps] w fun e w' => ∃ ao cap m xs, e = .returned (.slice ao m cap) ∧ xs.length = n ∧ Limbs xs ∧ Tl xs m ∧ RowAt w' ao m cap (xs.take m) ∧ Inv xs w' :=
  (build_fresh n K caps Inv w hn h0 heg hkeep hstep).mono fun _ _ ⟨ao, cap, m, xs, h1, h2, h3, h4, h5, _, h7⟩ => ⟨ao, cap, m, xs, h1, h2, h3, h4, h5, h7⟩
end Go.Proofs.YtghnmfkgpkikfaaGreatDoor

/-! The closure of limb.Sub: one limb of a difference, and what it borrows. -/
namespace Go.Proofs.YtghnmfkgpkikfaaGreatDoor
open Go.RowKit
attribute [local go_sem ↓] Go.wp_at_zero Go.wp_at_succ

/-- What a difference of limbs borrows. -/
def bor (x y b : Int) : Int := if x < y + b then 1 else 0

theorem sub64_any (x y b : Int) (w : World) (hx : 0 ≤ x) (hy : 0 ≤ y) (hb0 : 0 ≤ b) (hb : b ≤ 1) (hxB : x < BB) (hyB : y < BB) :
    (callFunc 117 #[.int .u64 x, .int .u64 y, .int .u64 b]).run Tryz.prog w = .ok (.value (.tuple #[.int .u64 ((x - y - b) % BB), .int .u64 (bor x y b)])) w := by
  obtain ⟨X, rfl⟩ := Int.eq_ofNat_of_zero_le hx
  obtain ⟨Y, rfl⟩ := Int.eq_ofNat_of_zero_le hy
  have fin : ∀ k : Nat, k ≤ 1 → Value.tuple #[.int .u64 (((X + 18446744073709551616 - Y - k) % 18446744073709551616 : Nat) : Int), .int .u64 (((if X < Y + k then 1 else 0) : Nat) : Int)] = .tuple #[.int .u64 (((X : Int) - Y - k) % BB), .int .u64 (bor X Y k)] := by
    intro k hk
    have e1 : (((X + 18446744073709551616 - Y - k) % 18446744073709551616 : Nat) : Int) = ((X : Int) - Y - k) % BB := by
      unfold BB at *
      omega
    have e2 : (((if X < Y + k then 1 else 0) : Nat) : Int) = bor X Y k := by
      unfold bor
      by_cases h : X < Y + k
      · rw [if_pos h, if_pos (by omega)]; rfl
      · rw [if_neg h, if_neg (by omega)]; rfl
    rw [e1, e2]
  rcases (show b = ((0 : Nat) : Int) ∨ b = ((1 : Nat) : Int) by omega) with rfl | rfl
  · rw [← fin 0 (by omega), run_callFunc_extern Tryz.func117 (by kernel_rfl) rfl rfl rfl]
    rfl
  · rw [← fin 1 (by omega), run_callFunc_extern Tryz.func117 (by kernel_rfl) rfl rfl rfl]
    rfl


set_option maxHeartbeats 4000000 in
theorem sub1_any (ao bo : Option Addr) (na ca nb cb pa pb pc : Nat) (xs ys : List Int) (i : Nat) (c : Int) (w : World) (hi : i ≤ 1000000)
    (ha : RowAt w ao na ca xs) (hb : RowAt w bo nb cb ys) (hpa : w.cell? ⟨pa, 0, none⟩ = some (.slice ao na ca)) (hpb : w.cell? ⟨pb, 0, none⟩ = some (.slice bo nb cb))
    (hpc : w.cell? ⟨pc, 0, none⟩ = some (.int .u64 c)) (hfc : w.frozen? ⟨pc, 0, none⟩ = false) (hc0 : 0 ≤ c) (hc1 : c ≤ 1) :
    Calls Tryz.prog 116 #[.int .i64 i, .pointer (some ⟨pa, 0, none⟩), .pointer (some ⟨pb, 0, none⟩), .pointer (some ⟨pc, 0, none⟩)] w fun e w' =>
      e = .returned (.int .u64 ((lim xs i - lim ys i - c) % BB)) ∧ Eqw w' (w.setCell ⟨pc, 0, none⟩ (.int .u64 (bor (lim xs i) (lim ys i) c))) := by
  have lx := lim_bd ha.limbs i
  have ly := lim_bd hb.limbs i
  have hadd := fun w => sub64_any (lim xs i) (lim ys i) c w lx.1 ly.1 hc0 hc1 lx.2 ly.2
  clear lx ly
  go_enter Tryz.func116, Tryz.ntmps116
  go_wp2
  go_region_with (first
    | (go_at_call_of 85 (Value.slice ao na ca); refine (at_any _ _ _ xs _ _ ?_ ?_ ?_).mono ?_; exact ha.drew; omega; omega; rintro e w1 ⟨rfl, rfl⟩)
    | (go_at_call_of 85 (Value.slice bo nb cb); refine (at_any _ _ _ ys _ _ ?_ ?_ ?_).mono ?_; exact hb.drew; omega; omega; rintro e w1 ⟨rfl, rfl⟩))
  all_goals (go_wp2; go_ret; exact ⟨rfl, rfl, rfl, rfl, rfl⟩)

end Go.Proofs.YtghnmfkgpkikfaaGreatDoor

/-! limb.Sub: the difference, or none. -/
namespace Go.Proofs.YtghnmfkgpkikfaaGreatDoor
open Go.RowKit

/-- What the closure of Sub holds while the limbs zs have been told. -/
def SubInv (w0 : World) (pa pb pc : Nat) (av bv : Value) (xs ys : List Int) (zs : List Int) (wr : World) : Prop :=
  Below w0.heap.size w0 wr ∧ wr.heap[pa]? = some (.cells #[av] 22 (0, 0)) ∧ wr.heap[pb]? = some (.cells #[bv] 22 (0, 0)) ∧
    ∃ c, wr.heap[pc]? = some (.cells #[.int .u64 c] 24 (0, 0)) ∧ 0 ≤ c ∧ c ≤ 1 ∧ val zs - c * BB ^ zs.length = pv xs zs.length - pv ys zs.length

theorem bor_is {x y c : Int} (hx : 0 ≤ x) (hy : 0 ≤ y) (hx1 : x < BB) (hy1 : y < BB) (h0 : 0 ≤ c) (h1 : c ≤ 1) : (x - y - c) % BB - bor x y c * BB = x - y - c ∧ 0 ≤ bor x y c ∧ bor x y c ≤ 1 := by
  unfold bor BB at *
  split <;> omega

theorem sub_step {v c x y p q P r b : Int} (h : v - c * P = p - q) (hr : r - b * BB = x - y - c) : v + r * P - b * (P * BB) = (p + x * P) - (q + y * P) := by
  have h2 : (r - b * BB) * P = (x - y - c) * P := by rw [hr]
  grind

set_option maxHeartbeats 400000 in
theorem sub_core (ao bo : Option Addr) (na ca nb cb pa pb pc n : Nat) (xs ys : List Int) (w0 W : World) (ha : RowAt w0 ao na ca xs) (hb : RowAt w0 bo nb cb ys) (hna : na ≤ n) (hnb : nb ≤ n) (hn : n ≤ 900000)
    (hbel : Below w0.heap.size w0 W) (hpa : W.heap[pa]? = some (.cells #[.slice ao na ca] 22 (0, 0))) (hpb : W.heap[pb]? = some (.cells #[.slice bo nb cb] 22 (0, 0))) (hpc : W.heap[pc]? = some (.cells #[.int .u64 0] 24 (0, 0)))
    (hca : w0.heap.size ≤ pc) (hac : pa ≠ pc) (hbc : pb ≠ pc) :
    Calls Tryz.prog 81 #[.int .i64 n, .func (.func 116) #[] #[.pointer (some ⟨pa, 0, none⟩), .pointer (some ⟨pb, 0, none⟩), .pointer (some ⟨pc, 0, none⟩)]] W fun e w' =>
      ∃ ro m cap r c, e = .returned (.slice ro m cap) ∧ RowAt w' ro m cap r ∧ (m ≤ n ∧ Fresh w0.heap.size ro) ∧ w'.heap[pc]? = some (.cells #[.int .u64 c] 24 (0, 0)) ∧ Below w0.heap.size w0 w' ∧ ((c = 0 ∧ val ys ≤ val xs ∧ Num r (val xs - val ys)) ∨ (c = 1 ∧ val xs < val ys)) := by
  refine (build_fresh n 116 _ (SubInv w0 pa pb pc (.slice ao na ca) (.slice bo nb cb) xs ys) W (by omega) ?_ (fun _ _ => by simp) ?_ ?_).mono ?_
  · exact ⟨hbel, hpa, hpb, 0, hpc, Int.le_refl _, by omega, by simp [val, pv]⟩
  · rintro zs w1 w2 ⟨h1, h2, h3, c, h4, h5⟩ hb12
    exact ⟨h1.trans (hb12.mono hbel.size), heapAt hb12 (lt_of_block hpa) h2, heapAt hb12 (lt_of_block hpb) h3, c, heapAt hb12 (lt_of_block hpc) h4, h5⟩
  · rintro zs wr hlt ⟨h1, h2, h3, c, h4, hc0, hc1, hval⟩
    have lx := lim_bd ha.limbs zs.length
    have ly := lim_bd hb.limbs zs.length
    have hcb := bor_is lx.1 ly.1 lx.2 ly.2 hc0 hc1
    have hmod : 0 ≤ (lim xs zs.length - lim ys zs.length - c) % BB ∧ (lim xs zs.length - lim ys zs.length - c) % BB < BB := ⟨Int.emod_nonneg _ (by have := BB_pos; omega), Int.emod_lt_of_pos _ BB_pos⟩
    refine (sub1_any ao bo na ca nb cb pa pb pc xs ys zs.length c wr (by omega) (ha.below h1) (hb.below h1) (cell_of_one h2) (cell_of_one h3) (cell_of_one h4) (free_of_one h4) hc0 hc1).mono ?_
    rintro e w' ⟨rfl, hq⟩
    refine ⟨_, rfl, hmod.1, hmod.2, ⟨?_, ?_, ?_, _, ?_, hcb.2.1, hcb.2.2, ?_⟩, ?_, ?_⟩
    · exact hq.below (h1.setCell hca _)
    · rw [hq.heap, Below.heap_setCell _ _ _ _ hac]; exact h2
    · rw [hq.heap, Below.heap_setCell _ _ _ _ hbc]; exact h3
    · rw [hq.heap]; exact one_setCell h4
    · rw [val_snoc, List.length_append, List.length_singleton, pw_succ, pv, pv]
      exact sub_step hval hcb.1
    · intro k hk
      rw [hq.heap, Below.heap_setCell _ _ _ _ (by have := lt_of_block hpc; show k ≠ pc; omega)]
    · rw [hq.heap]; simp [World.setCell]
  · rintro e w' ⟨ro, cap, m, zs, rfl, hlen, hlm, htl, hrow, hf, h1, -, -, c, h4, hc0, hc1, hval⟩
    refine ⟨ro, m, cap, _, c, rfl, hrow, ⟨by have := htl.1; omega, hf.mono hbel.size⟩, h4, h1, ?_⟩
    have hnum := Num.ofTl hlm htl
    have vb := val_bd hlm
    rw [hlen, pv_val xs _ (by have := ha.len; omega), pv_val ys _ (by have := hb.len; omega)] at hval
    rw [hlen] at vb
    have hc : c = 0 ∨ c = 1 := by omega
    rcases hc with rfl | rfl
    · refine .inl ⟨rfl, by omega, ?_⟩
      rw [show val zs = val xs - val ys by omega] at hnum
      exact hnum
    · exact .inr ⟨rfl, by omega⟩

theorem below3' (w : World) (o o' o'' : Obj) : Below w.heap.size w (((w.alloc o).alloc o').alloc o'') := (((Below.refl _ _).alloc (Nat.le_refl _) o).alloc (by simp) o').alloc (by simp; omega) o''

set_option maxHeartbeats 400000 in
theorem sub_any (ao bo : Option Addr) (na ca nb cb : Nat) (xs ys : List Int) (w : World) (ha : RowAt w ao na ca xs) (hb : RowAt w bo nb cb ys) (hna : na ≤ 900000) (hnb : nb ≤ 900000) :
    Calls Tryz.prog 103 #[.slice ao na ca, .slice bo nb cb] w fun e w' => ∃ ro m cap r b, e = .returned (.tuple #[.slice ro m cap, .bool b]) ∧ RowAt w' ro m cap r ∧ (m ≤ max na nb ∧ Fresh w.heap.size ro) ∧ Below w.heap.size w w' ∧
      ((b = true ∧ val ys ≤ val xs ∧ Num r (val xs - val ys)) ∨ (b = false ∧ val xs < val ys ∧ r = [] ∧ m = 0)) := by
  have hmf : ∀ (fn : Fn) (first cap : Array Value) (w : World), (Instr.makeFunc fn first cap).run Tryz.prog w = .ok (.func fn first cap) w := fun _ _ _ _ => rfl
  have H : ∀ n, na ≤ n → nb ≤ n → n ≤ 900000 → _ := fun n h1 h2 h3 => sub_core ao bo na ca nb cb w.heap.size (w.heap.size + 1) (w.heap.size + 1 + 1) n xs ys w
    (((w.alloc (Obj.cells #[Value.slice ao na ca] 22)).alloc (Obj.cells #[Value.slice bo nb cb] 22)).alloc (Obj.cells #[Value.int IntKind.u64 0] 24)) ha hb h1 h2 h3 (below3' _ _ _ _)
    (by rw [Below.heap_alloc _ _ _ (by simp; omega), Below.heap_alloc _ _ _ (by simp)]; exact heap_alloc_new w _)
    (by rw [Below.heap_alloc _ _ _ (by simp)]; have := heap_alloc_new (w.alloc (Obj.cells #[Value.slice ao na ca] 22)) (Obj.cells #[Value.slice bo nb cb] 22); simpa using this)
    (by have := heap_alloc_new ((w.alloc (Obj.cells #[Value.slice ao na ca] 22)).alloc (Obj.cells #[Value.slice bo nb cb] 22)) (Obj.cells #[Value.int IntKind.u64 0] 24); simpa using this)
    (by omega) (by omega) (by omega)
  have HH : Hid _ := H
  clear H
  go_enter Tryz.func103, Tryz.ntmps103
  go_wp2_with fail
  · have hle : na ≤ nb := by omega
    refine (HH.out nb hle (Nat.le_refl _) hnb).mono ?_
    rintro e w1 ⟨ro, m, cap, r, c, rfl, h1, h2, h3, h4, h5⟩
    have hcell := cell_of_one h3
    have HF : Hid _ := h5
    have H2 : Hid _ := h2
    clear h5 h3 h2
    rcases HF.out with ⟨rfl, _⟩ | ⟨rfl, _⟩
    · go_wp2
      go_ret2
      refine ⟨ro, m, cap, r, true, rfl, h1, ⟨by have := H2.out.1; omega, H2.out.2⟩, h4, .inl ⟨rfl, ?_⟩⟩
      rcases HF.out with h | h
      · exact h.2
      · exact absurd h.1 (by decide)
    · go_wp2
      go_ret2
      refine ⟨none, 0, 0, [], false, rfl, RowAt.nil _, ⟨by omega, Fresh.none _⟩, h4, .inr ⟨rfl, ?_, rfl, rfl⟩⟩
      rcases HF.out with h | h
      · exact absurd h.1 (by decide)
      · exact h.2
  · have hle : nb ≤ na := by omega
    refine (HH.out na (Nat.le_refl _) hle hna).mono ?_
    rintro e w1 ⟨ro, m, cap, r, c, rfl, h1, h2, h3, h4, h5⟩
    have hcell := cell_of_one h3
    have HF : Hid _ := h5
    have H2 : Hid _ := h2
    clear h5 h3 h2
    rcases HF.out with ⟨rfl, _⟩ | ⟨rfl, _⟩
    · go_wp2
      go_ret2
      refine ⟨ro, m, cap, r, true, rfl, h1, ⟨by have := H2.out.1; omega, H2.out.2⟩, h4, .inl ⟨rfl, ?_⟩⟩
      rcases HF.out with h | h
      · exact h.2
      · exact absurd h.1 (by decide)
    · go_wp2
      go_ret2
      refine ⟨none, 0, 0, [], false, rfl, RowAt.nil _, ⟨by omega, Fresh.none _⟩, h4, .inr ⟨rfl, ?_, rfl, rfl⟩⟩
      rcases HF.out with h | h
      · exact absurd h.1 (by decide)
      · exact h.2

theorem Num.zero {r : List Int} (h : Num r 0) : r = [] := zero_of_val h.limbs h.trim h.val

theorem sub_ok (ao bo : Option Addr) (na ca nb cb : Nat) (xs ys : List Int) (w : World) (ha : RowAt w ao na ca xs) (hb : RowAt w bo nb cb ys) (hna : na ≤ 900000) (hnb : nb ≤ 900000) (h : val ys ≤ val xs) :
    Calls Tryz.prog 103 #[.slice ao na ca, .slice bo nb cb] w fun e w' => ∃ ro m cap r, e = .returned (.tuple #[.slice ro m cap, .bool true]) ∧ RowAt w' ro m cap r ∧ Num r (val xs - val ys) ∧ m ≤ max na nb ∧ Below w.heap.size w w' := by
  refine (sub_any ao bo na ca nb cb xs ys w ha hb hna hnb).mono ?_
  rintro e w' ⟨ro, m, cap, r, b, rfl, h1, h2, h3, ⟨rfl, h4, h5⟩ | ⟨_, h4, _⟩⟩
  · exact ⟨ro, m, cap, r, rfl, h1, h5, h2.1, h3⟩
  · omega
theorem sub_fresh (ao bo : Option Addr) (na ca nb cb : Nat) (xs ys : List Int) (w : World) (ha : RowAt w ao na ca xs) (hb : RowAt w bo nb cb ys) (hna : na ≤ 900000) (hnb : nb ≤ 900000) (h : val ys ≤ val xs) :
    Calls Tryz.prog 103 #[.slice ao na ca, .slice bo nb cb] w fun e w' => ∃ ro m cap r, e = .returned (.tuple #[.slice ro m cap, .bool true]) ∧ RowAt w' ro m cap r ∧ Num r (val xs - val ys) ∧ Fresh w.heap.size ro ∧ Below w.heap.size w w' := by
  refine (sub_any ao bo na ca nb cb xs ys w ha hb hna hnb).mono ?_
  rintro e w' ⟨ro, m, cap, r, b, rfl, h1, h2, h3, ⟨rfl, h4, h5⟩ | ⟨_, h4, _⟩⟩
  · exact ⟨ro, m, cap, r, rfl, h1, h5, h2.2, h3⟩
  · omega
theorem sub_no (ao bo : Option Addr) (na ca nb cb : Nat) (xs ys : List Int) (w : World) (ha : RowAt w ao na ca xs) (hb : RowAt w bo nb cb ys) (hna : na ≤ 900000) (hnb : nb ≤ 900000) (h : val xs < val ys) :
    Calls Tryz.prog 103 #[.slice ao na ca, .slice bo nb cb] w fun e w' => ∃ ro cap, e = .returned (.tuple #[.slice ro 0 cap, .bool false]) ∧ RowAt w' ro 0 cap [] ∧ Below w.heap.size w w' := by
  refine (sub_any ao bo na ca nb cb xs ys w ha hb hna hnb).mono ?_
  rintro e w' ⟨ro, m, cap, r, b, rfl, h1, h2, h3, ⟨_, h4, _⟩ | ⟨rfl, h4, rfl, rfl⟩⟩
  · omega
  · exact ⟨ro, cap, rfl, h1, h3⟩
theorem sub_zero (ao bo : Option Addr) (na ca nb cb : Nat) (xs ys : List Int) (w : World) (ha : RowAt w ao na ca xs) (hb : RowAt w bo nb cb ys) (hna : na ≤ 900000) (hnb : nb ≤ 900000) (h : val xs = val ys) :
    Calls Tryz.prog 103 #[.slice ao na ca, .slice bo nb cb] w fun e w' => ∃ ro cap, e = .returned (.tuple #[.slice ro 0 cap, .bool true]) ∧ RowAt w' ro 0 cap [] ∧ Below w.heap.size w w' := by
  refine (sub_ok ao bo na ca nb cb xs ys w ha hb hna hnb (by omega)).mono ?_
  rintro e w' ⟨ro, m, cap, r, rfl, h1, h2, _, h4⟩
  rw [show val xs - val ys = 0 by omega] at h2
  obtain rfl := h2.zero
  obtain rfl := h1.len
  exact ⟨ro, cap, rfl, h1, h4⟩
end Go.Proofs.YtghnmfkgpkikfaaGreatDoor

/-! Sums of rows as numbers: plain arithmetic, no program. -/
namespace Go.Proofs.YtghnmfkgpkikfaaGreatDoor

/-- The limbs at place i of all rows, added. -/
def tot (xss : List (List Int)) (i : Int) : Int := (xss.map fun xs => lim xs i).sum
/-- The first k limbs of all rows, added. -/
def spv (xss : List (List Int)) (k : Nat) : Int := (xss.map fun xs => pv xs k).sum
/-- All rows, added. -/
def sval (xss : List (List Int)) : Int := (xss.map val).sum

theorem tot_snoc (xss : List (List Int)) (xs : List Int) (i : Int) : tot (xss ++ [xs]) i = tot xss i + lim xs i := by simp [tot]
theorem sval_snoc (xss : List (List Int)) (xs : List Int) : sval (xss ++ [xs]) = sval xss + val xs := by simp [sval]

theorem spv_zero (xss : List (List Int)) : spv xss 0 = 0 := by
  induction xss with
  | nil => rfl
  | cons x xs ih => simp only [spv, List.map_cons, List.sum_cons, pv] at ih ⊢; omega

theorem spv_succ (xss : List (List Int)) (k : Nat) : spv xss (k + 1) = spv xss k + tot xss k * BB ^ k := by
  induction xss with
  | nil => simp [spv, tot]
  | cons x xs ih =>
    simp only [spv, tot, List.map_cons, List.sum_cons, pv] at ih ⊢
    rw [ih]
    grind

theorem spv_sval (xss : List (List Int)) (k : Nat) (h : ∀ xs ∈ xss, xs.length ≤ k) : spv xss k = sval xss := by
  induction xss with
  | nil => rfl
  | cons x xs ih =>
    have h1 := ih (fun y hy => h y (List.mem_cons_of_mem _ hy))
    simp only [spv, sval, List.map_cons, List.sum_cons] at h1 ⊢
    rw [h1, pv_val x k (h x List.mem_cons_self)]

theorem tot_bd {xss : List (List Int)} (h : ∀ xs ∈ xss, Limbs xs) (i : Int) : 0 ≤ tot xss i ∧ tot xss i ≤ xss.length * (BB - 1) := by
  induction xss with
  | nil => simp [tot]
  | cons x xs ih =>
    have h1 := ih (fun y hy => h y (List.mem_cons_of_mem _ hy))
    have h2 := lim_bd (h x List.mem_cons_self) i
    simp only [tot, List.map_cons, List.sum_cons, List.length_cons] at h1 ⊢
    refine ⟨by omega, ?_⟩
    have e : ((xs.length + 1 : Nat) : Int) * (BB - 1) = xs.length * (BB - 1) + (BB - 1) := by rw [Int.natCast_add, Int.add_mul]; simp
    rw [e]
    omega

theorem sval_bd {xss : List (List Int)} (h : ∀ xs ∈ xss, Limbs xs) (L : Nat) (hL : ∀ xs ∈ xss, xs.length ≤ L) : 0 ≤ sval xss ∧ sval xss + xss.length ≤ xss.length * BB ^ L := by
  induction xss with
  | nil => simp [sval]
  | cons x xs ih =>
    have h1 := ih (fun y hy => h y (List.mem_cons_of_mem _ hy)) (fun y hy => hL y (List.mem_cons_of_mem _ hy))
    have h2 := val_bd (h x List.mem_cons_self)
    have h3 := pw_le (hL x List.mem_cons_self)
    simp only [sval, List.map_cons, List.sum_cons, List.length_cons] at h1 ⊢
    have e : ((xs.length + 1 : Nat) : Int) * BB ^ L = xs.length * BB ^ L + BB ^ L := by rw [Int.natCast_add, Int.add_mul]; simp
    rw [e]
    refine ⟨by omega, by omega⟩

theorem sum_step {v c t p P : Int} (h : v + c * P = p) : v + ((c + t) % BB) * P + ((c + t) / BB) * (P * BB) = p + t * P := by
  have h1 := Int.emod_add_mul_ediv (c + t) BB
  have h2 : ((c + t) % BB + BB * ((c + t) / BB)) * P = (c + t) * P := by rw [h1]
  grind

theorem sum_carry {c t : Int} {k : Nat} (hc0 : 0 ≤ c) (hc : c ≤ k) (ht0 : 0 ≤ t) (ht : t ≤ k * (BB - 1)) : 0 ≤ (c + t) / BB ∧ (c + t) / BB ≤ k := by
  refine ⟨Int.ediv_nonneg (by omega) (Int.le_of_lt BB_pos), ?_⟩
  have h : c + t ≤ k * BB := by rw [Int.mul_sub] at ht; omega
  have := Int.ediv_le_ediv BB_pos h
  rw [Int.mul_ediv_cancel _ (by have := BB_pos; omega)] at this
  exact this

theorem sum_end {v c s P : Int} {k : Nat} (h : v + c * (P * BB) = s) (hv : 0 ≤ v) (hP : 0 < P) (hc : 0 ≤ c) (hs : s + k ≤ k * P) (hk : (k : Int) ≤ BB) : v = s := by
  rcases Int.lt_or_eq_of_le hc with h' | h'
  · exfalso
    have h1 : P * BB ≤ c * (P * BB) := by
      have : (1 : Int) * (P * BB) ≤ c * (P * BB) := Int.mul_le_mul_of_nonneg_right h' (Int.le_of_lt (Int.mul_pos hP BB_pos))
      simpa using this
    have h2 : (k : Int) * P ≤ BB * P := Int.mul_le_mul_of_nonneg_right hk (Int.le_of_lt hP)
    rw [Int.mul_comm BB P] at h2
    have h3 : s + k ≤ P * BB := by omega
    by_cases e : k = 0
    · subst e
      simp at hs
      have := Int.mul_pos hP BB_pos
      omega
    · omega
  · subst h'; simpa using h

theorem div_of {t n s : Int} (h : t + n * BB = s) (h0 : 0 ≤ t) (h1 : t < BB) : t = s % BB ∧ n = s / BB := by
  unfold BB at *
  omega

/-- There is one number of limbs that is left. -/
theorem tl_ex (xs : List Int) : ∃ m, Tl xs m := by
  have : ∀ k, k ≤ xs.length → (∀ j, k ≤ j → xs.getD j 0 = 0) → ∃ m, Tl xs m := by
    intro k
    induction k with
    | zero => intro _ hz; exact ⟨0, Nat.zero_le _, hz, by simp⟩
    | succ k ih =>
      intro hk hz
      by_cases h : xs.getD k 0 = 0
      · refine ih (by omega) fun j hj => ?_
        by_cases e : j = k
        · rw [e]; exact h
        · exact hz j (by omega)
      · exact ⟨k + 1, hk, hz, fun _ => by simpa using h⟩
  exact this xs.length (Nat.le_refl _) (fun j hj => by simp [hj])

theorem tl_one {xs : List Int} {m n : Nat} (hm : Tl xs m) (hn : Tl xs n) : m = n := by
  rcases Nat.lt_trichotomy m n with h | h | h
  · exact absurd (hm.2.1 (n - 1) (by omega)) (hn.2.2 (by omega))
  · exact h
  · exact absurd (hn.2.1 (m - 1) (by omega)) (hm.2.2 (by omega))

end Go.Proofs.YtghnmfkgpkikfaaGreatDoor

/-! The closure of limb.Add: one limb of a sum, and the carry that it leaves. -/
namespace Go.Proofs.YtghnmfkgpkikfaaGreatDoor
open Go.RowKit
attribute [local go_sem ↓] Go.wp_at_zero Go.wp_at_succ

theorem add64_any (x y c : Int) (w : World) (hx : 0 ≤ x) (hy : 0 ≤ y) (hc0 : 0 ≤ c) (hc : c ≤ 1) :
    (callFunc 84 #[.int .u64 x, .int .u64 y, .int .u64 c]).run Tryz.prog w = .ok (.value (.tuple #[.int .u64 ((x + y + c) % BB), .int .u64 ((x + y + c) / BB)])) w := by
  rw [run_callFunc_extern (e := add64Entry) Tryz.func84 (by kernel_rfl) rfl rfl rfl, run_add64 x y c hx hy hc0 hc w]
  rfl

end Go.Proofs.YtghnmfkgpkikfaaGreatDoor

/-! The closure of limb.sum: one limb of a sum of rows, and the carry that it leaves. -/
namespace Go.Proofs.YtghnmfkgpkikfaaGreatDoor
open Go.RowKit

/-- A row in memory: where it begins, its length, its capacity, its limbs. -/
structure Rw where
  ao : Option Addr
  n : Nat
  cap : Nat
  xs : List Int

def Rw.v (r : Rw) : Value := .slice r.ao r.n r.cap

/-- Block g holds the rows rs, one behind the other. -/
structure RowsAt (w : World) (g : Nat) (rs : List Rw) : Prop where
  lt : g < w.heap.size
  cell : ∀ j (h : j < rs.length), w.cell? ⟨g, j, none⟩ = some (.slice rs[j].ao rs[j].n rs[j].cap)
  row : ∀ j (h : j < rs.length), RowAt w rs[j].ao rs[j].n rs[j].cap rs[j].xs

theorem RowsAt.below {w w' : World} {g : Nat} {rs : List Rw} (h : RowsAt w g rs) (hb : Below w.heap.size w w') : RowsAt w' g rs :=
  ⟨Nat.lt_of_lt_of_le h.lt hb.size, fun j hj => (hb.cell (p := ⟨g, j, none⟩) h.lt).trans (h.cell j hj), fun j hj => (h.row j hj).below hb⟩

theorem RowsAt.limbs {w : World} {g : Nat} {rs : List Rw} (h : RowsAt w g rs) : ∀ xs ∈ rs.map Rw.xs, Limbs xs := by
  intro xs hxs
  obtain ⟨r, hr, rfl⟩ := List.mem_map.1 hxs
  obtain ⟨j, hj, rfl⟩ := List.getElem_of_mem hr
  exact (h.row j hj).limbs

theorem tot_take (rs : List Rw) (i : Int) (j : Nat) (h : j < rs.length) : tot ((rs.map Rw.xs).take (j + 1)) i = tot ((rs.map Rw.xs).take j) i + lim rs[j].xs i := by
  rw [List.take_succ_eq_append_getElem (by simpa using h), tot_snoc]
  simp

theorem sum1_round {tv nv l s s' : Int} {q : Nat} (ht : 0 ≤ tv) (ht1 : tv < BB) (hl : 0 ≤ l) (hl1 : l < BB) (hn0 : 0 ≤ nv) (hn : nv ≤ q) (hq : q ≤ 900000) (h : tv + nv * BB = s) (hs : s' = s + l) :
    0 ≤ (tv + l) % BB ∧ 0 ≤ IntKind.u64.wrap (nv + (tv + l) / BB) ∧ IntKind.u64.wrap (nv + (tv + l) / BB) ≤ ((q + 1 : Nat) : Int) ∧ (tv + l) % BB < BB ∧ (tv + l) % BB + IntKind.u64.wrap (nv + (tv + l) / BB) * BB = s' := by
  have e : IntKind.u64.wrap (nv + (tv + l) / BB) = nv + (tv + l) / BB := by
    rw [wrapU, Int.emod_eq_of_lt]
    · unfold BB at *; omega
    · unfold BB at *; omega
  rw [e]
  unfold BB at *
  omega

set_option maxHeartbeats 1000000 in
theorem sum1_any (g k pc pr : Nat) (rs : List Rw) (i : Nat) (c : Int) (w : World) (hi : i ≤ 1000000) (hk : rs.length = k) (hk1 : k ≤ 900000)
    (hrs : RowsAt w g rs) (hpr : w.cell? ⟨pr, 0, none⟩ = some (.slice (some ⟨g, 0, none⟩) k k))
    (hpc : w.cell? ⟨pc, 0, none⟩ = some (.int .u64 c)) (hfc : w.frozen? ⟨pc, 0, none⟩ = false) (hc0 : 0 ≤ c) (hc1 : c < BB) :
    Calls Tryz.prog 99 #[.int .i64 i, .pointer (some ⟨pc, 0, none⟩), .pointer (some ⟨pr, 0, none⟩)] w fun e w' =>
      e = .returned (.int .u64 ((c + tot (rs.map Rw.xs) i) % BB)) ∧ Eqw w' (w.setCell ⟨pc, 0, none⟩ (.int .u64 ((c + tot (rs.map Rw.xs) i) / BB))) := by
  have HK : Hid (rs.length = k) := hk
  have HR : Hid (RowsAt w g rs) := hrs
  have HC : Hid (0 ≤ c ∧ c < BB) := ⟨hc0, hc1⟩
  clear hk hrs hc0 hc1
  go_enter Tryz.func99, Tryz.ntmps99
  go_wp2
  go_loop [5, 6, 8, 9, 13] (fun t nx _ _ j => ∃ (q : Nat) (tv nv : Int), q ≤ k ∧ j = .int .i64 q ∧ t = .int .u64 tv ∧ nx = .int .u64 nv ∧ 0 ≤ tv ∧ 0 ≤ nv ∧ nv ≤ q ∧ (tv < BB ∧ tv + nv * BB = c + tot ((rs.map Rw.xs).take q) i)) (fun _ _ _ _ j => k - (intOf j).toNat)
  case atStart => exact ⟨0, c, 0, Nat.zero_le _, rfl, rfl, rfl, HC.out.1, Int.le_refl _, Int.le_refl _, HC.out.2, by simp [tot]⟩
  case round =>
    obtain ⟨q, tv, nv, hq, rfl, rfl, rfl, ht0, hn0, hn1, heq⟩ := hrel
    have HE : Hid (tv < BB ∧ tv + nv * BB = c + tot ((rs.map Rw.xs).take q) i) := heq
    clear heq
    by_cases hlt : q < k
    · have hql : q < rs.length := by have := HK.out; omega
      have hcell := HR.out.cell q hql
      have hrow := HR.out.row q hql
      have htt := tot_take rs i q hql
      generalize rs[q].ao = ao at *
      generalize rs[q].n = n at *
      generalize rs[q].cap = cap at *
      generalize rs[q].xs = xs at *
      have hl := lim_bd hrow.limbs i
      have hadd := fun w => add64_any tv (lim xs i) 0 w ht0 hl.1 (Int.le_refl _) (by omega)
      have HRO : Hid (RowAt w ao n cap xs) := hrow
      have HT : Hid _ := htt
      have HL : Hid (0 ≤ lim xs i ∧ lim xs i < BB) := hl
      clear hrow htt hl hql
      go_wp2_with fail
      refine (at_any _ _ _ xs _ _ HRO.out (by omega) (by omega)).mono ?_
      rintro e w1 ⟨rfl, hw⟩
      subst hw
      go_wp2_with fail
      go_roundw
      case rel =>
        have hr := sum1_round ht0 HE.out.1 HL.out.1 HL.out.2 hn0 hn1 (by omega) HE.out.2 (show c + tot ((rs.map Rw.xs).take (q + 1)) i = _ by rw [HT.out, ← Int.add_assoc])
        exact ⟨q + 1, _, _, by omega, by go_num, rfl, rfl, hr⟩
      case measure => simp [intOf]; omega
    · have hqk : q = k := by omega
      have HQ : Hid (q = k) := hqk
      clear hqk
      go_wp2_with fail
      go_ret
      have he := HE.out
      rw [HQ.out, List.take_of_length_le (by have := HK.out; simp; omega)] at he
      obtain ⟨e1, e2⟩ := div_of he.2 ht0 he.1
      refine ⟨ret_int e1, ?_⟩
      rw [← e2]
      exact ⟨rfl, rfl, rfl, rfl⟩
end Go.Proofs.YtghnmfkgpkikfaaGreatDoor

/-! limb.sum: all rows, added. -/
namespace Go.Proofs.YtghnmfkgpkikfaaGreatDoor
open Go.RowKit

/-- What the closure of sum holds while the limbs zs have been told. -/
def SumInv (w0 : World) (g k pc pr : Nat) (rs : List Rw) (zs : List Int) (wr : World) : Prop :=
  Below w0.heap.size w0 wr ∧ wr.heap[pr]? = some (.cells #[.slice (some ⟨g, 0, none⟩) k k] 105 (0, 0)) ∧
    ∃ c, wr.heap[pc]? = some (.cells #[.int .u64 c] 24 (0, 0)) ∧ 0 ≤ c ∧ c ≤ k ∧ val zs + c * BB ^ zs.length = spv (rs.map Rw.xs) zs.length

theorem k_BB {k : Nat} (h : k ≤ 900000) : (k : Int) < BB := by unfold BB; omega

set_option maxHeartbeats 400000 in
theorem sum_core (g k pc pr L : Nat) (N : Int) (rs : List Rw) (w0 W : World) (hrs : RowsAt w0 g rs) (hk : rs.length = k) (hk1 : k ≤ 900000) (hL : ∀ j (h : j < rs.length), rs[j].n ≤ L) (hL1 : L ≤ 900000) (hN : N = ((L + 1 : Nat) : Int))
    (hbel : Below w0.heap.size w0 W) (hpr : W.heap[pr]? = some (.cells #[.slice (some ⟨g, 0, none⟩) k k] 105 (0, 0))) (hpc : W.heap[pc]? = some (.cells #[.int .u64 0] 24 (0, 0)))
    (hca : w0.heap.size ≤ pc) (hac : pr ≠ pc) :
    Calls Tryz.prog 81 #[.int .i64 N, .func (.func 99) #[] #[.pointer (some ⟨pc, 0, none⟩), .pointer (some ⟨pr, 0, none⟩)]] W fun e w' =>
      ∃ ro m cap r, e = .returned (.slice ro m cap) ∧ RowAt w' ro m cap r ∧ Num r (sval (rs.map Rw.xs)) ∧ m ≤ L + 1 ∧ Below w0.heap.size w0 w' := by
  subst hN
  have hlen : ∀ xs ∈ rs.map Rw.xs, xs.length ≤ L := by
    intro xs hxs
    obtain ⟨r, hr, rfl⟩ := List.mem_map.1 hxs
    obtain ⟨j, hj, rfl⟩ := List.getElem_of_mem hr
    rw [(hrs.row j hj).len]
    exact hL j hj
  refine (build_any (L + 1) 99 _ (SumInv w0 g k pc pr rs) W (by omega) ?_ (fun _ _ => by simp) ?_ ?_).mono ?_
  · exact ⟨hbel, hpr, 0, hpc, Int.le_refl _, by omega, by simp [val, spv_zero]⟩
  · rintro zs w1 w2 ⟨h1, h2, c, h4, h5⟩ hb12
    exact ⟨h1.trans (hb12.mono hbel.size), heapAt hb12 (lt_of_block hpr) h2, c, heapAt hb12 (lt_of_block hpc) h4, h5⟩
  · rintro zs wr hlt ⟨h1, h2, c, h4, hc0, hc1, hval⟩
    have hB := k_BB hk1
    have ht := tot_bd hrs.limbs zs.length
    rw [List.length_map, hk] at ht
    have hcb := sum_carry hc0 hc1 ht.1 ht.2
    have hmod := mod_bd (c + tot (rs.map Rw.xs) zs.length)
    refine (sum1_any g k pc pr rs zs.length c wr (by omega) hk hk1 (hrs.below h1) (cell_of_one h2) (cell_of_one h4) (free_of_one h4) hc0 (by omega)).mono ?_
    rintro e w' ⟨rfl, hq⟩
    refine ⟨_, rfl, hmod.1, hmod.2, ⟨?_, ?_, _, ?_, hcb.1, hcb.2, ?_⟩, ?_, ?_⟩
    · exact hq.below (h1.setCell hca _)
    · rw [hq.heap, Below.heap_setCell _ _ _ _ hac]; exact h2
    · rw [hq.heap]; exact one_setCell h4
    · rw [val_snoc, List.length_append, List.length_singleton, pw_succ, spv_succ]
      exact sum_step hval
    · intro k' hk'
      rw [hq.heap, Below.heap_setCell _ _ _ _ (by have := lt_of_block hpc; show k' ≠ pc; omega)]
    · rw [hq.heap]; simp [World.setCell]
  · rintro e w' ⟨ro, cap, m, zs, rfl, hzl, hlm, htl, hrow, h1, -, c, -, hc0, hc1, hval⟩
    refine ⟨ro, m, cap, _, rfl, hrow, ?_, by have := htl.1; omega, h1⟩
    have hnum := Num.ofTl hlm htl
    have vb := val_bd hlm
    have sb := sval_bd hrs.limbs L hlen
    rw [List.length_map, hk] at sb
    have e : val zs = sval (rs.map Rw.xs) := by
      rw [hzl, spv_sval _ _ (fun xs hxs => Nat.le_succ_of_le (hlen xs hxs)), pw_succ] at hval
      exact sum_end hval vb.1 (pw_pos L) hc0 sb.2 (Int.le_of_lt (k_BB hk1))
    rw [e] at hnum
    exact hnum

theorem two_blocks (w : World) (o o' : Obj) : ((w.alloc o).alloc o').heap[w.heap.size]? = some o ∧ ((w.alloc o).alloc o').heap[w.heap.size + 1]? = some o' := by
  refine ⟨?_, ?_⟩
  · rw [Below.heap_alloc _ _ _ (by simp)]; exact heap_alloc_new w _
  · have := heap_alloc_new (w.alloc o) o'; simpa using this
theorem below2 (w : World) (o o' : Obj) : Below w.heap.size w ((w.alloc o).alloc o') := ((Below.refl _ _).alloc (Nat.le_refl _) o).alloc (by simp) o'

set_option maxHeartbeats 1000000 in
theorem sum_any (g k M : Nat) (rs : List Rw) (w : World) (hrs : RowsAt w g rs) (hk : rs.length = k) (hk1 : k ≤ 900000) (hM : ∀ j (h : j < rs.length), rs[j].n ≤ M) (hM1 : M ≤ 900000) :
    Calls Tryz.prog 80 #[.slice (some ⟨g, 0, none⟩) k k] w fun e w' => ∃ ro m cap r, e = .returned (.slice ro m cap) ∧ RowAt w' ro m cap r ∧ Num r (sval (rs.map Rw.xs)) ∧ m ≤ M + 1 ∧ Below w.heap.size w w' := by
  have hmf : ∀ (fn : Fn) (first cap : Array Value) (w : World), (Instr.makeFunc fn first cap).run Tryz.prog w = .ok (.func fn first cap) w := fun _ _ _ _ => rfl
  have H4 := two_blocks w (Obj.cells #[.slice (some ⟨g, 0, none⟩) k k] 105) (Obj.cells #[Value.int IntKind.u64 0] 24)
  have H : ∀ L N, (∀ j (h : j < rs.length), rs[j].n ≤ L) → L ≤ 900000 → N = ((L + 1 : Nat) : Int) → _ := fun L N h1 h2 h3 => sum_core g k (w.heap.size + 1) w.heap.size L N rs w
    ((w.alloc (Obj.cells #[.slice (some ⟨g, 0, none⟩) k k] 105)).alloc (Obj.cells #[Value.int IntKind.u64 0] 24)) hrs hk hk1 h1 h2 h3 (below2 _ _ _) H4.1 H4.2 (by omega) (by omega)
  have HH : Hid _ := H
  have HR : Hid (RowsAt (w.alloc (Obj.cells #[.slice (some ⟨g, 0, none⟩) k k] 105)) g rs) := hrs.below ((Below.refl _ _).alloc (Nat.le_refl _) _)
  have HK : Hid (rs.length = k) := hk
  have HM : Hid (∀ j (h : j < rs.length), rs[j].n ≤ M) := hM
  clear H H4 hrs hk hM
  go_enter Tryz.func80, Tryz.ntmps80
  go_wp2
  go_loop [3, 5, 9] (fun l _ j => ∃ (q L : Nat), q ≤ k ∧ j = .int .i64 q ∧ l = .int .i64 L ∧ L ≤ M ∧ (∀ j (h : j < rs.length), j < q → rs[j].n ≤ L)) (fun _ _ j => k - (intOf j).toNat)
  case atStart => exact ⟨0, 0, Nat.zero_le _, rfl, rfl, Nat.zero_le _, fun j h h' => absurd h' (Nat.not_lt_zero _)⟩
  case round =>
    obtain ⟨q, L, hq, rfl, rfl, hLM, hz⟩ := hrel
    have HZ : Hid (∀ j (h : j < rs.length), j < q → rs[j].n ≤ L) := hz
    clear hz
    by_cases hlt : q < k
    · have hql : q < rs.length := by have := HK.out; omega
      have hcell := HR.out.cell q hql
      have hnM := HM.out q hql
      obtain ⟨n, hn⟩ : ∃ n, n = rs[q].n := ⟨_, rfl⟩
      rw [← hn] at hcell hnM
      generalize rs[q].ao = ao at hcell
      generalize rs[q].cap = cap at hcell
      have HN : Hid (n = rs[q].n) := hn
      have HQ : Hid (q < rs.length) := hql
      clear hn
      rcases Nat.lt_or_ge L n with hLn | hLn
      · go_wp2_with fail
        go_round
        case rel =>
          refine ⟨q + 1, n, by omega, by go_num, rfl, hnM, fun j h hj => ?_⟩
          by_cases e : j = q
          · subst e; rw [HN.out]; exact Nat.le_refl _
          · have := HZ.out j h (by omega); omega
        case measure => simp [intOf]; omega
      · go_wp2_with fail
        go_round
        case rel =>
          refine ⟨q + 1, L, by omega, by go_num, rfl, hLM, fun j h hj => ?_⟩
          by_cases e : j = q
          · subst e; rw [← HN.out]; exact hLn
          · exact HZ.out j h (by omega)
        case measure => simp [intOf]; omega
    · go_wp2_with fail
      refine (HH.out L _ (fun j h => HZ.out j h (by have := HK.out; omega)) (by omega) (by omega)).mono ?_
      rintro e w1 ⟨ro, m, cap, r, rfl, h1, h2, h3, h4⟩
      go_wp2
      go_ret
      exact ⟨ro, m, cap, r, rfl, h1, h2, by omega, h4⟩
end Go.Proofs.YtghnmfkgpkikfaaGreatDoor

/-! The closure of limb.scale: one limb of a product by a limb, and the carry that it leaves. -/
namespace Go.Proofs.YtghnmfkgpkikfaaGreatDoor
open Go.RowKit

theorem scale_c (P c : Int) (h0 : 0 ≤ P) (hP : P ≤ (BB - 1) * (BB - 1)) (hc0 : 0 ≤ c) (hc : c < BB) : IntKind.u64.wrap (P / BB + (P % BB + c) / BB) = (P + c) / BB := by
  rw [wrapU]
  unfold BB at *
  omega
theorem scale_bd (P c : Int) (h0 : 0 ≤ P) (hP : P ≤ (BB - 1) * (BB - 1)) (hc0 : 0 ≤ c) (hc : c < BB) : 0 ≤ (P + c) / BB ∧ (P + c) / BB < BB := by
  unfold BB at *
  omega
theorem limb_mul_le {x y : Int} (hx : 0 ≤ x) (hy : 0 ≤ y) (hxB : x < BB) (hyB : y < BB) : 0 ≤ x * y ∧ x * y ≤ (BB - 1) * (BB - 1) :=
  ⟨Int.mul_nonneg hx hy, Int.mul_le_mul (by omega) (by omega) hy (by have := BB_pos; omega)⟩

theorem mul64_q (x y : Int) (w : World) (hx : 0 ≤ x) (hy : 0 ≤ y) (hxB : x < BB) (hyB : y < BB) :
    Calls Tryz.prog 92 #[.int .u64 x, .int .u64 y] w fun e w' => e = .returned (.tuple #[.int .u64 (x * y / BB), .int .u64 (x * y % BB)]) ∧ w' = w :=
  (mul64_any x y w hx hy hxB hyB).mono fun _ _ h => ⟨h.1, h.2.symm⟩

set_option maxHeartbeats 1000000 in
theorem scale1_any (ao : Option Addr) (na ca pa pp px pc p : Nat) (xs : List Int) (x : Int) (i : Nat) (c : Int) (w : World) (hi : i ≤ 3000000) (hp : p ≤ 1000000) (hx0 : 0 ≤ x) (hx1 : x < BB)
    (ha : RowAt w ao na ca xs) (hpa : w.cell? ⟨pa, 0, none⟩ = some (.slice ao na ca)) (hpp : w.cell? ⟨pp, 0, none⟩ = some (.int .i64 p)) (hpx : w.cell? ⟨px, 0, none⟩ = some (.int .u64 x))
    (hpc : w.cell? ⟨pc, 0, none⟩ = some (.int .u64 c)) (hfc : w.frozen? ⟨pc, 0, none⟩ = false) (hc0 : 0 ≤ c) (hc1 : c < BB) :
    Calls Tryz.prog 98 #[.int .i64 i, .pointer (some ⟨pa, 0, none⟩), .pointer (some ⟨pp, 0, none⟩), .pointer (some ⟨px, 0, none⟩), .pointer (some ⟨pc, 0, none⟩)] w fun e w' =>
      e = .returned (.int .u64 ((lim xs (i - p) * x + c) % BB)) ∧ Eqw w' (w.setCell ⟨pc, 0, none⟩ (.int .u64 ((lim xs (i - p) * x + c) / BB))) := by
  have lx := lim_bd ha.limbs (i - p)
  have hm := limb_mul_le lx.1 hx0 lx.2 hx1
  have hlo := mod_bd (lim xs (i - p) * x)
  have hadd := fun w => add64_any (lim xs (i - p) * x % BB) c 0 w hlo.1 hc0 (Int.le_refl _) (by omega)
  have hw : IntKind.i64.wrap ((i : Int) - (p : Int)) = (i : Int) - (p : Int) := IntWalk.i64_in _ ⟨by omega, by omega⟩
  have HA : Hid (RowAt w ao na ca xs) := ha
  have LX : Hid (0 ≤ lim xs (i - p) ∧ lim xs (i - p) < BB) := lx
  have HX : Hid (0 ≤ x ∧ x < BB) := ⟨hx0, hx1⟩
  have HM : Hid (0 ≤ lim xs (i - p) * x ∧ lim xs (i - p) * x ≤ (BB - 1) * (BB - 1)) := hm
  have HC : Hid (c < BB) := hc1
  clear ha lx hm hlo hx0 hx1 hc1
  go_enter Tryz.func98, Tryz.ntmps98
  go_wp2
  go_quiet ((first | (go_at_call 85; exact Calls.quiet_of_same (at_any _ _ _ xs _ _ (HA.out.drewN _) (by omega) (by omega))) | (go_at_call 92; exact Calls.quiet_of_same (mul64_q _ _ _ LX.out.1 HX.out.1 LX.out.2 HX.out.2))))
  go_wp2
  go_ret
  have hcc := scale_c (lim xs (i - p) * x) c HM.out.1 HM.out.2 hc0 HC.out
  refine ⟨ret_int rfl, ?_⟩
  rw [← hcc]
  exact ⟨rfl, rfl, rfl, rfl⟩
end Go.Proofs.YtghnmfkgpkikfaaGreatDoor

/-! limb.scale: a row times a limb, with limbs of 0 below it. -/
namespace Go.Proofs.YtghnmfkgpkikfaaGreatDoor
open Go.RowKit

/-- The first k limbs of a row with p limbs of 0 below it, as a number. -/
def pvs (xs : List Int) (p : Nat) : Nat → Int
  | 0 => 0
  | k + 1 => pvs xs p k + lim xs ((k : Int) - p) * BB ^ k

theorem pvs_low (xs : List Int) (p k : Nat) (h : k ≤ p) : pvs xs p k = 0 := by
  induction k with
  | zero => rfl
  | succ k ih => rw [pvs, ih (by omega), lim_neg _ _ (by omega)]; simp

theorem pvs_high (xs : List Int) (p k : Nat) : pvs xs p (p + k) = pv xs k * BB ^ p := by
  induction k with
  | zero => rw [Nat.add_zero, pvs_low _ _ _ (Nat.le_refl _), pv]; simp
  | succ k ih =>
    rw [← Nat.add_assoc, pvs, ih, pv, show ((p + k : Nat) : Int) - p = (k : Int) by omega, Nat.add_comm p k, pw_add]
    grind

/-- What the closure of scale holds while the limbs zs have been told. -/
def ScaleInv (w0 : World) (pa pp px pc : Nat) (av : Value) (p : Nat) (x : Int) (xs : List Int) (zs : List Int) (wr : World) : Prop :=
  Below w0.heap.size w0 wr ∧ wr.heap[pa]? = some (.cells #[av] 22 (0, 0)) ∧ wr.heap[pp]? = some (.cells #[.int .i64 p] 3 (0, 0)) ∧ wr.heap[px]? = some (.cells #[.int .u64 x] 24 (0, 0)) ∧
    ∃ c, wr.heap[pc]? = some (.cells #[.int .u64 c] 24 (0, 0)) ∧ 0 ≤ c ∧ c < BB ∧ val zs + c * BB ^ zs.length = pvs xs p zs.length * x

theorem scale_step {v c l x q P : Int} (h : v + c * P = q * x) : v + ((l * x + c) % BB) * P + ((l * x + c) / BB) * (P * BB) = (q + l * P) * x := by
  have h1 := Int.emod_add_mul_ediv (l * x + c) BB
  have h2 : ((l * x + c) % BB + BB * ((l * x + c) / BB)) * P = (l * x + c) * P := by rw [h1]
  grind

theorem scale_end {v c a x P Q : Int} (h : v + c * (P * Q * BB) = a * Q * x) (hv : 0 ≤ v) (hP : 0 < P) (hQ : 0 < Q) (ha : a < P) (ha0 : 0 ≤ a) (hx : x < BB) (hc : 0 ≤ c) : v = a * Q * x := by
  rcases Int.lt_or_eq_of_le hc with h' | h'
  · exfalso
    have h1 : (P * Q * BB) ≤ c * (P * Q * BB) := by
      have hpos : 0 ≤ P * Q * BB := Int.mul_nonneg (Int.le_of_lt (Int.mul_pos hP hQ)) (Int.le_of_lt BB_pos)
      have : (1 : Int) * (P * Q * BB) ≤ c * (P * Q * BB) := Int.mul_le_mul_of_nonneg_right h' hpos
      simpa using this
    have h2 : a * Q * x < P * Q * BB := by
      have q1 : a * Q < P * Q := Int.mul_lt_mul_of_pos_right ha hQ
      have q2 : a * Q * x ≤ a * Q * BB := Int.mul_le_mul_of_nonneg_left (Int.le_of_lt hx) (Int.mul_nonneg ha0 (Int.le_of_lt hQ))
      have q3 : a * Q * BB < P * Q * BB := Int.mul_lt_mul_of_pos_right q1 BB_pos
      omega
    omega
  · subst h'; simpa using h

set_option maxHeartbeats 400000 in
theorem scale_core (ao : Option Addr) (na ca pa pp px pc p : Nat) (N x : Int) (xs : List Int) (w0 W : World) (ha : RowAt w0 ao na ca xs) (hna : na ≤ 400000) (hp : p ≤ 400000) (hx0 : 0 ≤ x) (hx1 : x < BB) (hN : N = ((p + na + 1 : Nat) : Int))
    (hbel : Below w0.heap.size w0 W) (hpa : W.heap[pa]? = some (.cells #[.slice ao na ca] 22 (0, 0))) (hpp : W.heap[pp]? = some (.cells #[.int .i64 p] 3 (0, 0))) (hpx : W.heap[px]? = some (.cells #[.int .u64 x] 24 (0, 0))) (hpc : W.heap[pc]? = some (.cells #[.int .u64 0] 24 (0, 0)))
    (hca : w0.heap.size ≤ pc) (hac : pa ≠ pc) (hbc : pp ≠ pc) (hxc : px ≠ pc) :
    Calls Tryz.prog 81 #[.int .i64 N, .func (.func 98) #[] #[.pointer (some ⟨pa, 0, none⟩), .pointer (some ⟨pp, 0, none⟩), .pointer (some ⟨px, 0, none⟩), .pointer (some ⟨pc, 0, none⟩)]] W fun e w' =>
      ∃ ro m cap r, e = .returned (.slice ro m cap) ∧ RowAt w' ro m cap r ∧ Num r (val xs * BB ^ p * x) ∧ m ≤ p + na + 1 ∧ Below w0.heap.size w0 w' := by
  subst hN
  refine (build_any (p + na + 1) 98 _ (ScaleInv w0 pa pp px pc (.slice ao na ca) p x xs) W (by omega) ?_ (fun _ _ => by simp) ?_ ?_).mono ?_
  · exact ⟨hbel, hpa, hpp, hpx, 0, hpc, Int.le_refl _, BB_pos, by simp [val, pvs]⟩
  · rintro zs w1 w2 ⟨h1, h2, h3, h3', c, h4, h5⟩ hb12
    exact ⟨h1.trans (hb12.mono hbel.size), heapAt hb12 (lt_of_block hpa) h2, heapAt hb12 (lt_of_block hpp) h3, heapAt hb12 (lt_of_block hpx) h3', c, heapAt hb12 (lt_of_block hpc) h4, h5⟩
  · rintro zs wr hlt ⟨h1, h2, h3, h3', c, h4, hc0, hc1, hval⟩
    have lx := lim_bd ha.limbs (zs.length - p)
    have hm := limb_mul_le lx.1 hx0 lx.2 hx1
    have hcb := scale_bd (lim xs (zs.length - p) * x) c hm.1 hm.2 hc0 hc1
    have hmod := mod_bd (lim xs (zs.length - p) * x + c)
    refine (scale1_any ao na ca pa pp px pc p xs x zs.length c wr (by omega) (by omega) hx0 hx1 (ha.below h1) (cell_of_one h2) (cell_of_one h3) (cell_of_one h3') (cell_of_one h4) (free_of_one h4) hc0 hc1).mono ?_
    rintro e w' ⟨rfl, hq⟩
    refine ⟨_, rfl, hmod.1, hmod.2, ⟨?_, ?_, ?_, ?_, _, ?_, hcb.1, hcb.2, ?_⟩, ?_, ?_⟩
    · exact hq.below (h1.setCell hca _)
    · rw [hq.heap, Below.heap_setCell _ _ _ _ hac]; exact h2
    · rw [hq.heap, Below.heap_setCell _ _ _ _ hbc]; exact h3
    · rw [hq.heap, Below.heap_setCell _ _ _ _ hxc]; exact h3'
    · rw [hq.heap]; exact one_setCell h4
    · rw [val_snoc, List.length_append, List.length_singleton, pw_succ, pvs]
      exact scale_step hval
    · intro k hk
      rw [hq.heap, Below.heap_setCell _ _ _ _ (by have := lt_of_block hpc; show k ≠ pc; omega)]
    · rw [hq.heap]; simp [World.setCell]
  · rintro e w' ⟨ro, cap, m, zs, rfl, hlen, hlm, htl, hrow, h1, -, -, -, c, -, hc0, hc1, hval⟩
    refine ⟨ro, m, cap, _, rfl, hrow, ?_, by have := htl.1; omega, h1⟩
    have hnum := Num.ofTl hlm htl
    have vb := val_bd hlm
    have hb := val_bd ha.limbs
    rw [ha.len] at hb
    have e : val zs = val xs * BB ^ p * x := by
      rw [hlen, Nat.add_assoc, pvs_high, pv_val xs _ (by have := ha.len; omega), ← Nat.add_assoc, pw_succ, pw_add, Int.mul_comm (BB ^ p)] at hval
      exact scale_end hval vb.1 (pw_pos _) (pw_pos _) hb.2 hb.1 hx1 hc0
    rw [e] at hnum
    exact hnum

theorem below4 (w : World) (o o' o'' o3 : Obj) : Below w.heap.size w ((((w.alloc o).alloc o').alloc o'').alloc o3) := ((((Below.refl _ _).alloc (Nat.le_refl _) o).alloc (by simp) o').alloc (by simp <;> omega) o'').alloc (by simp <;> omega) o3

theorem four_blocks (w : World) (o o' o'' o3 : Obj) : ((((w.alloc o).alloc o').alloc o'').alloc o3).heap[w.heap.size]? = some o ∧ ((((w.alloc o).alloc o').alloc o'').alloc o3).heap[w.heap.size + 1]? = some o' ∧
    ((((w.alloc o).alloc o').alloc o'').alloc o3).heap[w.heap.size + 1 + 1]? = some o'' ∧ ((((w.alloc o).alloc o').alloc o'').alloc o3).heap[w.heap.size + 1 + 1 + 1]? = some o3 := by
  refine ⟨?_, ?_, ?_, ?_⟩
  · rw [Below.heap_alloc _ _ _ (by simp <;> omega), Below.heap_alloc _ _ _ (by simp <;> omega), Below.heap_alloc _ _ _ (by simp)]; exact heap_alloc_new w _
  · rw [Below.heap_alloc _ _ _ (by simp <;> omega), Below.heap_alloc _ _ _ (by simp)]; have := heap_alloc_new (w.alloc o) o'; simpa using this
  · rw [Below.heap_alloc _ _ _ (by simp)]; have := heap_alloc_new ((w.alloc o).alloc o') o''; simpa using this
  · have := heap_alloc_new (((w.alloc o).alloc o').alloc o'') o3; simpa using this

set_option maxHeartbeats 400000 in
theorem scale_any (ao : Option Addr) (na ca p : Nat) (x : Int) (xs : List Int) (w : World) (ha : RowAt w ao na ca xs) (hna : na ≤ 400000) (hp : p ≤ 400000) (hx0 : 0 ≤ x) (hx1 : x < BB) :
    Calls Tryz.prog 79 #[.slice ao na ca, .int .u64 x, .int .i64 p] w fun e w' => ∃ ro m cap r, e = .returned (.slice ro m cap) ∧ RowAt w' ro m cap r ∧ Num r (val xs * BB ^ p * x) ∧ m ≤ p + na + 1 ∧ Below w.heap.size w w' := by
  have hmf : ∀ (fn : Fn) (first cap : Array Value) (w : World), (Instr.makeFunc fn first cap).run Tryz.prog w = .ok (.func fn first cap) w := fun _ _ _ _ => rfl
  have H4 := four_blocks w (Obj.cells #[Value.slice ao na ca] 22) (Obj.cells #[Value.int IntKind.u64 x] 24) (Obj.cells #[Value.int IntKind.i64 p] 3) (Obj.cells #[Value.int IntKind.u64 0] 24)
  have H : ∀ N, N = ((p + na + 1 : Nat) : Int) → _ := fun N hN => scale_core ao na ca w.heap.size (w.heap.size + 1 + 1) (w.heap.size + 1) (w.heap.size + 1 + 1 + 1) p N x xs w
    ((((w.alloc (Obj.cells #[Value.slice ao na ca] 22)).alloc (Obj.cells #[Value.int IntKind.u64 x] 24)).alloc (Obj.cells #[Value.int IntKind.i64 p] 3)).alloc (Obj.cells #[Value.int IntKind.u64 0] 24)) ha hna hp hx0 hx1 hN (below4 _ _ _ _ _)
    H4.1 H4.2.2.1 H4.2.1 H4.2.2.2 (by omega) (by omega) (by omega) (by omega)
  have HH : Hid _ := H
  have HX : Hid (x < BB) := hx1
  clear H H4 hx1
  go_enter Tryz.func79, Tryz.ntmps79
  go_wp2_with fail
  refine (HH.out _ (by omega)).mono ?_
  rintro e w1 ⟨ro, m, cap, r, rfl, h1, h2, h3, h4⟩
  go_wp2
  go_ret
  exact ⟨ro, m, cap, r, rfl, h1, h2, h3, h4⟩
end Go.Proofs.YtghnmfkgpkikfaaGreatDoor

/-! limb.Mul: the product. -/
namespace Go.Proofs.YtghnmfkgpkikfaaGreatDoor
open Go.RowKit

theorem Tryz.info22 : (Tryz.prog.info? 22).map (fun i => (i.zero, i.size, i.bytes)) = some (some (.slice none 0 0), 1, 24) := by kernel_rfl

theorem trimLen_q (ao : Option Addr) (n cap m : Nat) (xs : List Int) (w : World) (h : RowAt w ao n cap xs) (hm : Tl xs m) :
    Calls Tryz.prog 78 #[.slice ao n cap] w fun e w' => e = .returned (.int .i64 m) ∧ w' = w := by
  refine (trimLen_any ao n cap xs w h).mono ?_
  rintro e w' ⟨k, rfl, hk, hw⟩
  rw [tl_one hk hm]
  exact ⟨rfl, hw⟩

theorem RowAt.cut {w : World} {ao : Option Addr} {n cap : Nat} {xs : List Int} (h : RowAt w ao n cap xs) (m : Nat) (hm : m ≤ n) : RowAt w ao m cap (xs.take m) := by
  have hl := h.len
  refine ⟨by simp; omega, limbs_take h.limbs m, by have := h.fits; omega, h.most, h.bare, fun hne => ?_⟩
  obtain ⟨b, off, e, hb, hc⟩ := h.cells (fun e => hne (by simp [e]))
  refine ⟨b, off, e, hb, fun j hj => ?_⟩
  simp only [List.length_take] at hj
  rw [hc j (by omega)]
  simp [show j < m by omega]

theorem RowAt.apart {w : World} {ao : Option Addr} {n cap : Nat} {xs : List Int} (h : RowAt w ao n cap xs) {G k : Nat} {f : Nat → Value} (hr : w.rowIs G 22 k f) (hf : ∀ t i, f t ≠ .int .u64 i) (q : Nat) (u : Value) :
    RowAt (w.setCell ⟨G, q, none⟩ u) ao n cap xs := by
  refine ⟨h.len, h.limbs, h.fits, h.most, h.bare, fun hne => ?_⟩
  obtain ⟨b, off, e, hb, hc⟩ := h.cells hne
  have hpos : 0 < xs.length := List.length_pos_iff.2 hne
  have hbG : b ≠ G := by
    intro e
    subst e
    obtain ⟨c, h1, h2, h3⟩ := hr
    have h4 := hc 0 hpos
    simp only [World.cell?, h1] at h4
    rcases Nat.lt_or_ge (off + 0) k with h5 | h5
    · rw [h3 _ h5] at h4
      exact hf _ _ (Option.some.inj h4)
    · rw [Array.getElem?_eq_none (by omega)] at h4
      simp at h4
  refine ⟨b, off, e, by simpa [World.setCell] using hb, fun j hj => ?_⟩
  rw [World.cell?_of_block (w := w) (Below.heap_setCell w ⟨G, q, none⟩ u b hbG)]
  exact hc j hj

theorem sval_prod (a : Int) (ys : List Int) (rs : List Rw) (h : ∀ t (h : t < rs.length), val rs[t].xs = a * BB ^ t * lim ys t) : ∀ k, k ≤ rs.length → sval ((rs.map Rw.xs).take k) = a * pv ys k
  | 0, _ => by simp [sval, pv]
  | k + 1, hk => by
    rw [List.take_succ_eq_append_getElem (by simp; omega), sval_snoc, sval_prod a ys rs h k (by omega), pv]
    simp only [List.getElem_map]
    rw [h k hk]
    grind

/-- What the row of rows holds while rs have been told. -/
def filled (rs : List Rw) (t : Nat) : Value := (rs[t]?.map Rw.v).getD (.slice none 0 0)
theorem filled_slice (rs : List Rw) (t : Nat) (i : Int) : filled rs t ≠ .int .u64 i := by
  unfold filled
  cases rs[t]? <;> simp [Rw.v]
theorem filled_at (rs : List Rw) (t : Nat) (h : t < rs.length) : filled rs t = .slice rs[t].ao rs[t].n rs[t].cap := by simp [filled, h, Rw.v]

/-- What the loop of Mul holds behind q rounds. -/
structure MulInv (w : World) (G m1 m2 : Nat) (xs ys : List Int) (q : Nat) (rs : List Rw) (wr : World) : Prop where
  len : rs.length = q
  bel : Below w.heap.size w wr
  rows : wr.rowIs G 22 m2 (filled rs)
  row : ∀ t (h : t < rs.length), RowAt wr rs[t].ao rs[t].n rs[t].cap rs[t].xs
  num : ∀ t (h : t < rs.length), Num rs[t].xs (val xs * BB ^ t * lim ys t)
  size : ∀ t (h : t < rs.length), rs[t].n ≤ t + m1 + 1

theorem MulInv.rowsAt {w : World} {G m1 m2 q : Nat} {xs ys : List Int} {rs : List Rw} {wr : World} (h : MulInv w G m1 m2 xs ys q rs wr) (hq : q = m2) : RowsAt wr G rs :=
  ⟨h.rows.lt, fun j hj => by rw [h.rows.cell (by have := h.len; omega), filled_at rs j hj], h.row⟩

theorem MulInv.next {w : World} {G m1 m2 : Nat} {xs ys : List Int} {q : Nat} {rs : List Rw} {wr w1 : World} (h : MulInv w G m1 m2 xs ys q rs wr) (hG : w.heap.size ≤ G) (hq : q < m2) (hb : Below wr.heap.size wr w1) (r : Rw) (hr : RowAt w1 r.ao r.n r.cap r.xs) (hn : Num r.xs (val xs * BB ^ q * lim ys q)) (hs : r.n ≤ q + m1 + 1) :
    MulInv w G m1 m2 xs ys (q + 1) (rs ++ [r]) (w1.setCell ⟨G, q, none⟩ (.slice r.ao r.n r.cap)) := by
  have hl := h.len
  have hrow1 : w1.rowIs G 22 m2 (filled rs) := h.rows.of_block (hb.block G h.rows.lt)
  have cases : ∀ t (ht : t < (rs ++ [r]).length), (∃ h' : t < rs.length, (rs ++ [r])[t] = rs[t]) ∨ (t = q ∧ (rs ++ [r])[t] = r) := by
    intro t ht
    by_cases e : t < rs.length
    · exact .inl ⟨e, by rw [List.getElem_append_left e]⟩
    · simp at ht
      have e2 : t = q := by omega
      subst e2
      exact .inr ⟨rfl, by rw [List.getElem_append_right (by omega)]; simp [hl]⟩
  refine ⟨by simp [hl], (h.bel.trans (hb.mono h.bel.size)).setCell hG _, ?_, ?_, ?_, ?_⟩
  · refine (World.rowIs.set hrow1 q _).congr fun t ht => ?_
    by_cases e : t = q
    · subst e; simp [filled, ← hl, Rw.v]
    · rw [if_neg e]
      unfold filled
      by_cases e2 : t < rs.length
      · rw [List.getElem?_append_left e2]
      · rw [List.getElem?_eq_none (by omega), List.getElem?_eq_none (by simp; omega)]
  · intro t ht
    rcases cases t ht with ⟨h', e⟩ | ⟨rfl, e⟩
    · rw [e]; exact ((h.row t h').below hb).apart hrow1 (filled_slice rs) _ _
    · rw [e]; exact hr.apart hrow1 (filled_slice rs) _ _
  · intro t ht
    rcases cases t ht with ⟨h', e⟩ | ⟨rfl, e⟩
    · rw [e]; exact h.num t h'
    · rw [e]; exact hn
  · intro t ht
    rcases cases t ht with ⟨h', e⟩ | ⟨rfl, e⟩
    · rw [e]; exact h.size t h'
    · rw [e]; exact hs

set_option maxHeartbeats 1000000 in
theorem mul_any (ao bo : Option Addr) (na ca nb cb : Nat) (xs ys : List Int) (w : World) (ha : RowAt w ao na ca xs) (hb : RowAt w bo nb cb ys) (hna : na ≤ 100000) (hnb : nb ≤ 100000) :
    Calls Tryz.prog 61 #[.slice ao na ca, .slice bo nb cb] w fun e w' => ∃ ro m cap r, e = .returned (.slice ro m cap) ∧ RowAt w' ro m cap r ∧ Num r (val xs * val ys) ∧ m ≤ na + nb + 2 ∧ Below w.heap.size w w' := by
  obtain ⟨m1, t1⟩ := tl_ex xs
  obtain ⟨m2, t2⟩ := tl_ex ys
  have l1 := ha.len
  have l2 := hb.len
  have h1 : m1 ≤ na := by have := t1.1; omega
  have h2 : m2 ≤ nb := by have := t2.1; omega
  have hca : (m1 : Int) ≤ (ca : Int) := by have := ha.fits; omega
  have hcb : (m2 : Int) ≤ (cb : Int) := by have := hb.fits; omega
  have HA : Hid (RowAt w ao na ca xs) := ha
  have HB : Hid (RowAt w bo nb cb ys) := hb
  have T1 : Hid (Tl xs m1) := t1
  have T2 : Hid (Tl ys m2) := t2
  clear ha hb t1 t2 l1 l2
  have hmk := run_make_row' (P := Tryz.prog) 105 22 (.slice none 0 0) 24 Tryz.underlying105 Tryz.info22 rfl .i64 .i64 m2 (by omega) (by omega)
  have start : ∀ nq, MulInv w w.heap.size m1 m2 xs ys 0 [] ((w.drewN nq).alloc (Obj.cells (madeCells #[.slice none 0 0] m2) 22)) := fun nq =>
    ⟨rfl, (below_drewN (Below.refl _ _) nq).alloc (Nat.le_refl _) _, (World.rowIs_made (w.drewN nq) _ m2 22).congr (fun t _ => by simp [filled]), fun t h => absurd h (Nat.not_lt_zero _), fun t h => absurd h (Nat.not_lt_zero _), fun t h => absurd h (Nat.not_lt_zero _)⟩
  have fin : ∀ q rs wr, MulInv w w.heap.size m1 m2 xs ys q rs wr → q = m2 → sval (rs.map Rw.xs) = val xs * val ys := fun q rs wr h e => by
    subst e
    have hp := sval_prod (val xs) ys rs (fun t ht => (h.num t ht).val) rs.length (Nat.le_refl _)
    rw [List.take_of_length_le (by simp)] at hp
    rw [hp, h.len, ← val_take_pv ys q T2.out.1, T2.out.val]
  have ST : Hid _ := start
  have FI : Hid _ := fin
  clear start fin
  by_cases hm0 : m2 = 0
  · subst hm0
    have hm2 : ∀ w, (Instr.makeSlice 105 (.int .i64 0) (.int .i64 0)).run Tryz.prog w = .ok (.slice (some ⟨w.heap.size, 0, none⟩) 0 0) (w.alloc (.cells (madeCells #[.slice none 0 0] 0) 22)) := hmk
    clear hmk
    go_enter Tryz.func61, Tryz.ntmps61
    go_wp2
    go_quiet ((first | (go_at_call_of 78 (Value.slice ao na ca); exact Calls.quiet_of_same (trimLen_q _ _ _ m1 xs _ (HA.out.drewN _) T1.out)) | (go_at_call_of 78 (Value.slice bo nb cb); exact Calls.quiet_of_same (trimLen_q _ _ _ 0 ys _ (HB.out.drewN _) T2.out))))
    go_wp2
    refine wp_loop_rounds 1 ?_
    rw [rounds_succ]
    go_wp2_with fail
    refine (sum_any _ 0 (m1 + 1) [] _ ((ST.out nq).rowsAt rfl) rfl (by omega) (fun j h => absurd h (Nat.not_lt_zero _)) (by omega)).mono ?_
    rintro e w1 ⟨ro, m, cap, r, rfl, h1, h2, h3, h4⟩
    go_wp2
    go_ret
    exact ⟨ro, m, cap, r, rfl, h1, by rw [FI.out _ _ _ (ST.out nq) rfl] at h2; exact h2, by omega, (ST.out nq).bel.trans (h4.mono (ST.out nq).bel.size)⟩
  · have hc2 := HB.out.cut m2 h2
    obtain ⟨b, off, rfl, hlt, hcc⟩ := hc2.cells (by intro e; have h := hc2.len; rw [e] at h; simp at h; omega)
    have HC : Hid (∀ q, q < m2 → w.cell? ⟨b, off + q, none⟩ = some (.int .u64 (lim ys q))) := fun q hq => by
      rw [hcc q (by rw [hc2.len]; exact hq), lim_nat]
      simp [hq]
    clear hc2 hcc
    go_enter Tryz.func61, Tryz.ntmps61
    go_wp2
    go_quiet ((first | (go_at_call_of 78 (Value.slice ao na ca); exact Calls.quiet_of_same (trimLen_q _ _ _ m1 xs _ (HA.out.drewN _) T1.out)) | (go_at_call_of 78 (Value.slice (some ⟨b, off, none⟩) nb cb); exact Calls.quiet_of_same (trimLen_q _ _ _ m2 ys _ (HB.out.drewN _) T2.out))))
    go_wp2
    go_loopw [21, 6, 7] (fun j _ _ wr => ∃ (q : Nat) (rs : List Rw), q ≤ m2 ∧ j = .int .i64 q ∧ MulInv w w.heap.size m1 m2 xs ys q rs wr) (fun j _ _ _ => m2 - (intOf j).toNat)
    case atStart => exact ⟨0, [], Nat.zero_le _, rfl, ST.out nq⟩
    case round =>
      obtain ⟨q, rs, hq, rfl, hinv⟩ := hrel
      have HI : Hid (MulInv w w.heap.size m1 m2 xs ys q rs wr) := hinv
      by_cases hlt2 : q < m2
      · have hcell : wr.cell? ⟨b, off + q, none⟩ = some (.int .u64 (lim ys q)) := (hinv.bel.cell (p := ⟨b, off + q, none⟩) hlt).trans (HC.out q hlt2)
        obtain ⟨y, hy⟩ : ∃ y, y = lim ys q := ⟨_, rfl⟩
        rw [← hy] at hcell
        have HY : Hid (y = lim ys q) := hy
        have HYB : Hid (0 ≤ y ∧ y < BB) := by rw [hy]; exact lim_bd HB.out.limbs q
        clear hinv hy
        go_wp2_with fail
        refine (scale_any _ _ _ _ _ (xs.take m1) _ ((HA.out.cut m1 h1).below HI.out.bel) (by omega) (by omega) HYB.out.1 HYB.out.2).mono ?_
        rintro e w1 ⟨ro, m, cap, r, rfl, g1, g2, g3, g4⟩
        have hrow1 := HI.out.rows.of_block (g4.block _ HI.out.rows.lt)
        have hce := hrow1.cell hlt2
        have hfr := hrow1.frozen q
        have NX : Hid _ := HI.out.next (Nat.le_refl _) hlt2 g4 ⟨ro, m, cap, r⟩ g1 (by rw [← HY.out, ← T1.out.val]; exact g2) g3
        clear hrow1 g1 g2 g3 g4 HI
        go_wp2_with fail
        go_roundw
        case rel => exact ⟨q + 1, _, by omega, by go_num, NX.out⟩
        case measure => simp [intOf]; omega
      · have hqm : q = m2 := by omega
        clear hinv
        subst hqm
        go_wp2_with fail
        refine (sum_any _ _ (q + m1 + 1) rs _ (HI.out.rowsAt rfl) HI.out.len (by omega) (fun j h => by have := HI.out.size j h; have := HI.out.len; omega) (by omega)).mono ?_
        rintro e w1 ⟨ro, m, cap, r, rfl, g1, g2, g3, g4⟩
        go_wp2
        go_ret
        exact ⟨ro, m, cap, r, rfl, g1, by rw [FI.out _ _ _ HI.out rfl] at g2; exact g2, by omega, HI.out.bel.trans (g4.mono HI.out.bel.size)⟩
end Go.Proofs.YtghnmfkgpkikfaaGreatDoor

/-! The reference's Same: whether two rows are the same. -/
namespace Go.Proofs.YtghnmfkgpkikfaaGreatDoor
open Go.RowKit

theorem Eqw.refl (w : World) : Eqw w w := ⟨rfl, rfl, rfl, rfl⟩
theorem Eqw.cell {w' w : World} (h : Eqw w' w) (a : Addr) : w'.cell? a = w.cell? a := by simp [World.cell?, h.heap]
theorem Eqw.drewN {w' w : World} (h : Eqw w' w) (n : Nat) : Eqw (w'.drewN n) w := ⟨h.heap, h.os, h.output, h.tape⟩
theorem Eqw.drew {w' w : World} (h : Eqw w' w) : Eqw w'.drew w := ⟨h.heap, h.os, h.output, h.tape⟩

theorem ret_bool {a b : Bool} (h : a = b) : Ending.returned (.bool a) = .returned (.bool b) := by rw [h]

theorem eq_of_getD {xs ys : List Int} (h : xs.length = ys.length) (hk : ∀ j, j < xs.length → xs.getD j 0 = ys.getD j 0) : xs = ys := by
  apply List.ext_getElem h
  intro i h1 h2
  have := hk i h1
  simpa [h1, h2] using this

set_option maxHeartbeats 400000 in
theorem same_any (ao bo : Option Addr) (na ca nb cb : Nat) (xs ys : List Int) (w : World) (ha : RowAt w ao na ca xs) (hb : RowAt w bo nb cb ys) :
    Calls Tryz.prog 10 #[.slice ao na ca, .slice bo nb cb] w fun e w' => e = .returned (.bool (decide (xs = ys))) ∧ Eqw w' w := by
  have hna : na ≤ 9223372036854775807 := by have := ha.fits; have := ha.most; unfold maxLen at this; omega
  have hnb : nb ≤ 9223372036854775807 := by have := hb.fits; have := hb.most; unfold maxLen at this; omega
  have hla := ha.len
  have hlb := hb.len
  have HLA : Hid _ := hla
  have HLB : Hid _ := hlb
  clear hla hlb
  by_cases hne : na = nb
  · subst hne
    by_cases h0 : na = 0
    · subst h0
      go_enter Tryz.func10, Tryz.ntmps10
      go_wp2
      refine wp_loop_rounds 1 ?_
      rw [rounds_succ]
      go_wp2
      go_ret
      exact ⟨ret_bool (by rw [List.length_eq_zero_iff.1 HLA.out, List.length_eq_zero_iff.1 HLB.out]; simp), Eqw.refl _⟩
    · obtain ⟨b1, o1, rfl, l1, c1⟩ := ha.cells (by intro e; have := HLA.out; rw [e] at this; simp at this; omega)
      obtain ⟨b2, o2, rfl, l2, c2⟩ := hb.cells (by intro e; have := HLB.out; rw [e] at this; simp at this; omega)
      have C1 : Hid _ := c1
      have C2 : Hid _ := c2
      clear c1 c2 ha hb
      go_enter Tryz.func10, Tryz.ntmps10
      go_wp2
      go_loopw [5] (fun i wr => ∃ k : Nat, k ≤ na ∧ i = .int .i64 k ∧ Eqw wr w ∧ ∀ j, j < k → xs.getD j 0 = ys.getD j 0) (fun i _ => na - (intOf i).toNat)
      case atStart => exact ⟨0, Nat.zero_le _, rfl, Eqw.refl _, fun j hj => absurd hj (Nat.not_lt_zero _)⟩
      case round =>
        obtain ⟨k, hk, rfl, hq, hz⟩ := hrel
        have HZ : Hid (∀ j, j < k → xs.getD j 0 = ys.getD j 0) := hz
        clear hz
        by_cases hlt : k < na
        · have hlt' : (k : Int) < (na : Int) := by omega
          obtain ⟨x, hx⟩ : ∃ x, x = xs.getD k 0 := ⟨_, rfl⟩
          obtain ⟨y, hy⟩ : ∃ y, y = ys.getD k 0 := ⟨_, rfl⟩
          have hcx : wr.cell? ⟨b1, o1 + k, none⟩ = some (.int .u64 x) := by rw [hq.cell, hx]; exact C1.out k (by have := HLA.out; omega)
          have hcy : wr.cell? ⟨b2, o2 + k, none⟩ = some (.int .u64 y) := by rw [hq.cell, hy]; exact C2.out k (by have := HLB.out; omega)
          have HX : Hid _ := hx
          have HY : Hid _ := hy
          have HQ : Hid _ := hq
          clear hx hy hq
          by_cases hxy : x = y
          · have hb0 : (x != y) = false := by simp [hxy]
            have HXY : Hid _ := hxy
            clear hxy
            go_wp2
            go_quiet (fail)
            go_wp2
            go_roundw
            case rel =>
              refine ⟨k + 1, by omega, by go_num, HQ.out.drewN _, fun j hj => ?_⟩
              by_cases e : j = k
              · rw [e, ← HX.out, ← HY.out]; exact HXY.out
              · exact HZ.out j (by omega)
            case measure => simp [intOf]; omega
          · have hb0 : (x != y) = true := by simp [hxy]
            go_wp2
            go_quiet (fail)
            go_wp2
            go_ret
            refine ⟨ret_bool ?_, HQ.out.drewN _⟩
            have : xs ≠ ys := fun e => hxy (by rw [HX.out, HY.out, e])
            simp [this]
        · go_wp2
          go_ret
          refine ⟨ret_bool ?_, hq⟩
          have : xs = ys := eq_of_getD (HLA.out.trans HLB.out.symm) (fun j hj => HZ.out j (by have := HLA.out; omega))
          simp [this]
  · have hb1 : ((na : Int) != (nb : Int)) = true := by rw [bne_iff_ne]; omega
    go_enter Tryz.func10, Tryz.ntmps10
    go_wp2
    go_ret
    refine ⟨ret_bool ?_, Eqw.refl _⟩
    have : xs ≠ ys := fun e => hne (by rw [← HLA.out, ← HLB.out, e])
    simp [this]

theorem same_yes (ao bo : Option Addr) (na ca nb cb : Nat) (xs ys : List Int) (w : World) (ha : RowAt w ao na ca xs) (hb : RowAt w bo nb cb ys) (h : xs = ys) :
    Calls Tryz.prog 10 #[.slice ao na ca, .slice bo nb cb] w fun e w' => e = .returned (.bool true) ∧ Below w.heap.size w w' :=
  (same_any ao bo na ca nb cb xs ys w ha hb).mono fun _ _ hh => ⟨hh.1.trans (ret_bool (by simp [h])), hh.2.below (Below.refl _ _)⟩

theorem same_no (ao bo : Option Addr) (na ca nb cb : Nat) (xs ys : List Int) (w : World) (ha : RowAt w ao na ca xs) (hb : RowAt w bo nb cb ys) (h : xs ≠ ys) :
    Calls Tryz.prog 10 #[.slice ao na ca, .slice bo nb cb] w fun e w' => e = .returned (.bool false) ∧ Below w.heap.size w w' :=
  (same_any ao bo na ca nb cb xs ys w ha hb).mono fun _ _ hh => ⟨hh.1.trans (ret_bool (by simp [h])), hh.2.below (Below.refl _ _)⟩

theorem RowAt.on {w w' w'' : World} {ao : Option Addr} {n cap : Nat} {xs : List Int} (h : RowAt w ao n cap xs) (hb : Below w.heap.size w w') (hb' : Below w'.heap.size w' w'') : RowAt w'' ao n cap xs := (h.below hb).below hb'
theorem chain {w w' w'' : World} (hb : Below w.heap.size w w') (hb' : Below w'.heap.size w' w'') : Below w.heap.size w w'' := hb.trans (hb'.mono hb.size)
end Go.Proofs.YtghnmfkgpkikfaaGreatDoor

/-! A row that has just been laid. -/
namespace Go.Proofs.YtghnmfkgpkikfaaGreatDoor
open Go.RowKit

/-- A row that has just been laid. -/
theorem RowAt.laid (w : World) (zs : List Int) (hl : Limbs zs) (hn : zs.length ≤ maxLen) : RowAt (w.alloc (Obj.cells (zs.map (Value.int .u64)).toArray 24)) (some ⟨w.heap.size, 0, none⟩) zs.length zs.length zs := by
  have h := World.ownsRow_lit (base := 0) (e := 24) (size := 1) w (zs.map (Value.int .u64)).toArray zs.length (Nat.zero_le _) hn (by simp)
  obtain ⟨a, c, e, hr⟩ := RowAt.owns h hl
  cases e
  exact hr

end Go.Proofs.YtghnmfkgpkikfaaGreatDoor

/-! The closure of quot.divide: a row less a multiple of the divisor. -/
namespace Go.Proofs.YtghnmfkgpkikfaaGreatDoor
open Go.RowKit
attribute [local go_sem ↓] Go.wp_at_zero Go.wp_at_succ

theorem one_row (w : World) (t : Int) (h0 : 0 ≤ t) (h1 : t < BB) : RowAt (w.alloc (Obj.cells #[.int .u64 t] 24)) (some ⟨w.heap.size, 0, none⟩) 1 1 [t] := RowAt.laid w [t] (by intro y hy; simp at hy; subst hy; exact ⟨h0, h1⟩) (by simp [maxLen])

set_option maxRecDepth 100000 in
set_option maxHeartbeats 1000000 in
theorem less_yes (ro bo : Option Addr) (nr cr nb cb pr pb : Nat) (rs bs : List Int) (t : Int) (w : World) (hr : RowAt w ro nr cr rs) (hb : RowAt w bo nb cb bs) (hnr : nr ≤ 5000) (hnb : nb ≤ 5000) (t0 : 0 ≤ t) (t1 : t < BB)
    (hpr : w.cell? ⟨pr, 0, none⟩ = some (.slice ro nr cr)) (hpb : w.cell? ⟨pb, 0, none⟩ = some (.slice bo nb cb)) (hlr : pr < w.heap.size) (hlb : pb < w.heap.size) (hle : val bs * t ≤ val rs) :
    Calls Tryz.prog 102 #[.int .u64 t, .pointer (some ⟨pr, 0, none⟩), .pointer (some ⟨pb, 0, none⟩)] w fun e w' =>
      ∃ so m cap s, e = .returned (.tuple #[.slice so m cap, .bool true]) ∧ RowAt w' so m cap s ∧ Num s (val rs - val bs * t) ∧ Fresh w.heap.size so ∧ Below w.heap.size w w' := by
  have HR : Hid _ := hr
  have HB : Hid _ := hb
  have HL : Hid (val bs * t ≤ val rs) := hle
  have hB0 : Below w.heap.size w w.drew := (Below.refl _ _).drew
  have hB1 : Below w.heap.size w (w.drew.alloc (Obj.cells #[.int .u64 t] 24)) := hB0.alloc (by simp) _
  have HB1 : Hid _ := hB1
  have H1 : Hid (RowAt (w.drew.alloc (Obj.cells #[.int .u64 t] 24)) (some ⟨w.heap.size, 0, none⟩) 1 1 [t]) := one_row w.drew t t0 t1
  clear hr hb hle hB0 hB1
  go_enter Tryz.func102, Tryz.ntmps102
  go_wp2
  go_region_held3 (fun w' => w'.cell? ⟨pr, 0, none⟩ = some (.slice ro nr cr) ∧ w'.cell? ⟨pb, 0, none⟩ = some (.slice bo nb cb)) (first | go_keep | (refine ⟨?_, ?_⟩; (rw [b2.cell hlr]; assumption); (rw [b2.cell hlb]; assumption)))
    (first
      | (go_at_call 61; refine (mul_any _ _ _ _ _ _ bs [t] _ (HB.out.below HB1.out) H1.out (by omega) (by omega)).mono ?_; rintro e w1 ⟨mo, mm, mc, ms, rfl, h1, h2, h3, h4⟩; have b2 := chain HB1.out h4)
      | (go_at_call 103; refine (sub_fresh _ _ _ _ _ _ rs ms _ (HR.out.below b2) h1 (by omega) (by omega) (by rw [h2.val]; simpa [val] using HL.out)).mono ?_; rintro e w2 ⟨so, sm, sc, ss, rfl, g1, g2, g3, g4⟩; have b2 := chain b2 g4))
  have G1 : Hid _ := g1
  have G2 : Hid (Num ss (val rs - val bs * t)) := by
    show Num ss (val rs - val bs * t)
    rw [h2.val, show val [t] = t by simp [val]] at g2
    exact g2
  have GF : Hid (Fresh w.heap.size so) := g3.mono (Nat.le_trans HB1.out.size h4.size)
  have BB2 : Hid (Below w.heap.size w w2) := b2
  clear h1 h2 h3 h4 g1 g2 g3 g4 HB1 H1
  go_wp2
  go_ret2
  exact ⟨so, sm, sc, ss, rfl, G1.out, G2.out, GF.out, BB2.out⟩
set_option maxRecDepth 100000 in
set_option maxHeartbeats 1000000 in
theorem less_no (ro bo : Option Addr) (nr cr nb cb pr pb : Nat) (rs bs : List Int) (t : Int) (w : World) (hr : RowAt w ro nr cr rs) (hb : RowAt w bo nb cb bs) (hnr : nr ≤ 5000) (hnb : nb ≤ 5000) (t0 : 0 ≤ t) (t1 : t < BB)
    (hpr : w.cell? ⟨pr, 0, none⟩ = some (.slice ro nr cr)) (hpb : w.cell? ⟨pb, 0, none⟩ = some (.slice bo nb cb)) (hlr : pr < w.heap.size) (hlb : pb < w.heap.size) (hlt : val rs < val bs * t) :
    Calls Tryz.prog 102 #[.int .u64 t, .pointer (some ⟨pr, 0, none⟩), .pointer (some ⟨pb, 0, none⟩)] w fun e w' =>
      ∃ so cap, e = .returned (.tuple #[.slice so 0 cap, .bool false]) ∧ Below w.heap.size w w' := by
  have HR : Hid _ := hr
  have HB : Hid _ := hb
  have HL : Hid (val rs < val bs * t) := hlt
  have hB0 : Below w.heap.size w w.drew := (Below.refl _ _).drew
  have hB1 : Below w.heap.size w (w.drew.alloc (Obj.cells #[.int .u64 t] 24)) := hB0.alloc (by simp) _
  have HB1 : Hid _ := hB1
  have H1 : Hid (RowAt (w.drew.alloc (Obj.cells #[.int .u64 t] 24)) (some ⟨w.heap.size, 0, none⟩) 1 1 [t]) := one_row w.drew t t0 t1
  clear hr hb hlt hB0 hB1
  go_enter Tryz.func102, Tryz.ntmps102
  go_wp2
  go_region_held3 (fun w' => w'.cell? ⟨pr, 0, none⟩ = some (.slice ro nr cr) ∧ w'.cell? ⟨pb, 0, none⟩ = some (.slice bo nb cb)) (first | go_keep | (refine ⟨?_, ?_⟩; (rw [b2.cell hlr]; assumption); (rw [b2.cell hlb]; assumption)))
    (first
      | (go_at_call 61; refine (mul_any _ _ _ _ _ _ bs [t] _ (HB.out.below HB1.out) H1.out (by omega) (by omega)).mono ?_; rintro e w1 ⟨mo, mm, mc, ms, rfl, h1, h2, h3, h4⟩; have b2 := chain HB1.out h4)
      | (go_at_call 103; refine (sub_no _ _ _ _ _ _ rs ms _ (HR.out.below b2) h1 (by omega) (by omega) (by rw [h2.val]; simpa [val] using HL.out)).mono ?_; rintro e w2 ⟨so, sc, rfl, g1, g4⟩; have b2 := chain b2 g4))
  have BB2 : Hid (Below w.heap.size w w2) := b2
  clear h1 h2 h3 h4 g1 g4 HB1 H1
  go_wp2
  go_ret2
  exact ⟨so, sc, rfl, BB2.out⟩
end Go.Proofs.YtghnmfkgpkikfaaGreatDoor

/-! Shifts of rows as numbers: plain arithmetic, no program. -/
namespace Go.Proofs.YtghnmfkgpkikfaaGreatDoor

theorem BB_pow : BB = 2 ^ 64 := by unfold BB; rfl

/-- A power of 2 and what is left of a limb. -/
theorem split_BB {r : Nat} (h : r ≤ 64) : (2 : Int) ^ r * 2 ^ (64 - r) = BB := by
  rw [BB_pow, ← Int.pow_add]
  congr 1
  omega
theorem two_pos (r : Nat) : (0 : Int) < 2 ^ r := Int.pow_pos (by omega)

theorem mul_div_BB {x : Int} {r : Nat} (h : r ≤ 64) : x * 2 ^ r / BB = x / 2 ^ (64 - r) := by
  rw [← split_BB h, Int.mul_comm x, Int.mul_ediv_mul_of_pos _ _ (two_pos r)]

/-- The first k limbs of a row with p limbs of 0 below it, as a number. -/
def pvu (xs : List Int) (p : Nat) : Nat → Int
  | 0 => 0
  | k + 1 => pvu xs p k + lim xs ((k : Int) - p) * BB ^ k

theorem pvu_low (xs : List Int) (p k : Nat) (h : k ≤ p) : pvu xs p k = 0 := by
  induction k with
  | zero => rfl
  | succ k ih => rw [pvu, ih (by omega), lim_neg _ _ (by omega)]; simp

theorem pvu_high (xs : List Int) (p k : Nat) : pvu xs p (p + k) = pv xs k * BB ^ p := by
  induction k with
  | zero => rw [Nat.add_zero, pvu_low _ _ _ (Nat.le_refl _), pv]; simp
  | succ k ih =>
    rw [← Nat.add_assoc, pvu, ih, pv, show ((p + k : Nat) : Int) - p = (k : Int) by omega, Nat.add_comm p k, pw_add]
    grind

/-- One limb of a row shifted up by l limbs and r bits. -/
def upv (xs : List Int) (l r : Nat) (i : Int) : Int := lim xs (i - l) * 2 ^ r % BB + lim xs (i - l - 1) / 2 ^ (64 - r)

theorem up_step {v x y q P : Int} {r : Nat} (hr : r ≤ 64) (h : v + y / 2 ^ (64 - r) * P = 2 ^ r * q) :
    v + (x * 2 ^ r % BB + y / 2 ^ (64 - r)) * P + x / 2 ^ (64 - r) * (P * BB) = 2 ^ r * (q + x * P) := by
  have h1 := Int.emod_add_mul_ediv (x * 2 ^ r) BB
  rw [mul_div_BB hr] at h1
  have h2 : (x * 2 ^ r % BB + BB * (x / 2 ^ (64 - r))) * P = x * 2 ^ r * P := by rw [h1]
  grind

theorem upv_bd {xs : List Int} (hx : Limbs xs) (l : Nat) {r : Nat} (hr : r ≤ 63) (i : Int) : 0 ≤ upv xs l r i ∧ upv xs l r i < BB ∧ lim xs (i - l) * 2 ^ r % BB % 2 ^ r = 0 ∧ 0 ≤ lim xs (i - l - 1) / 2 ^ (64 - r) ∧ lim xs (i - l - 1) / 2 ^ (64 - r) < 2 ^ r := by
  have b2 := lim_bd hx (i - l - 1)
  have hK := two_pos (64 - r)
  have hM := two_pos r
  have hs := split_BB (show r ≤ 64 by omega)
  have a1 : 0 ≤ lim xs (i - l - 1) / 2 ^ (64 - r) := Int.ediv_nonneg b2.1 (Int.le_of_lt hK)
  have a2 : lim xs (i - l - 1) / 2 ^ (64 - r) < 2 ^ r := by
    apply Int.ediv_lt_of_lt_mul hK
    rw [hs]; exact b2.2
  have a3 : lim xs (i - l) * 2 ^ r % BB % 2 ^ r = 0 := by
    rw [Int.emod_emod_of_dvd _ ⟨2 ^ (64 - r), hs.symm⟩]
    simp
  have a4 : 0 ≤ lim xs (i - l) * 2 ^ r % BB := Int.emod_nonneg _ (by have := BB_pos; omega)
  have a5 : lim xs (i - l) * 2 ^ r % BB < BB := Int.emod_lt_of_pos _ BB_pos
  refine ⟨by unfold upv; omega, ?_, a3, a1, a2⟩
  unfold upv
  generalize lim xs (i - l) * 2 ^ r % BB = A at *
  have e : A = 2 ^ r * (A / 2 ^ r) := by have := Int.emod_add_mul_ediv A (2 ^ r); omega
  have l1 : A / 2 ^ r < 2 ^ (64 - r) := by
    apply Int.ediv_lt_of_lt_mul hM
    rw [Int.mul_comm, hs]; exact a5
  have l2 : A / 2 ^ r + 1 ≤ 2 ^ (64 - r) := l1
  have l3 := Int.mul_le_mul_of_nonneg_left l2 (Int.le_of_lt hM)
  rw [hs, Int.mul_add, Int.mul_one, ← e] at l3
  omega

/-- The limbs from l on, k of them, as a number. -/
def pvd (xs : List Int) (l : Nat) : Nat → Int
  | 0 => 0
  | k + 1 => pvd xs l k + lim xs ((k : Int) + l) * BB ^ k

theorem pvd_pv (xs : List Int) (l k : Nat) : pv xs (l + k) = pv xs l + BB ^ l * pvd xs l k := by
  induction k with
  | zero => simp [pvd]
  | succ k ih =>
    rw [← Nat.add_assoc, pv, ih, pvd, show ((l + k : Nat) : Int) = (k : Int) + l by omega, pw_add]
    grind

/-- One limb of a row shifted down by l limbs and r bits. -/
def dnv (xs : List Int) (l r : Nat) (i : Int) : Int := lim xs (i + l) / 2 ^ r + lim xs (i + l + 1) * 2 ^ (64 - r) % BB

theorem mul_mod_BB {x : Int} {r : Nat} (h : r ≤ 64) : x * 2 ^ (64 - r) % BB = x % 2 ^ r * 2 ^ (64 - r) := by
  rw [← split_BB h, Int.mul_comm x, Int.mul_comm (2 ^ r), Int.mul_emod_mul_of_pos _ _ (two_pos (64 - r)), Int.mul_comm]

theorem dn_step {v x y q P a : Int} {r : Nat} (hr : r ≤ 64) (h : 2 ^ r * v + a = q + x % 2 ^ r * P) :
    2 ^ r * (v + (x / 2 ^ r + y * 2 ^ (64 - r) % BB) * P) + a = (q + x * P) + y % 2 ^ r * (P * BB) := by
  rw [mul_mod_BB hr]
  have h1 := Int.emod_add_mul_ediv x (2 ^ r)
  have h2 : (x % 2 ^ r + 2 ^ r * (x / 2 ^ r)) * P = x * P := by rw [h1]
  have hs := split_BB hr
  have h3 : y % 2 ^ r * (P * BB) = y % 2 ^ r * (P * (2 ^ r * 2 ^ (64 - r))) := by rw [hs]
  rw [h3]
  grind

theorem dnv_bd {xs : List Int} (hx : Limbs xs) (l : Nat) {r : Nat} (hr : r ≤ 63) (i : Int) : 0 ≤ dnv xs l r i ∧ dnv xs l r i < BB ∧ lim xs (i + l + 1) * 2 ^ (64 - r) % BB % 2 ^ (64 - r) = 0 ∧ 0 ≤ lim xs (i + l) / 2 ^ r ∧ lim xs (i + l) / 2 ^ r < 2 ^ (64 - r) := by
  have b1 := lim_bd hx (i + l)
  have hK := two_pos (64 - r)
  have hM := two_pos r
  have hs := split_BB (show r ≤ 64 by omega)
  have a1 : 0 ≤ lim xs (i + l) / 2 ^ r := Int.ediv_nonneg b1.1 (Int.le_of_lt hM)
  have a2 : lim xs (i + l) / 2 ^ r < 2 ^ (64 - r) := by
    apply Int.ediv_lt_of_lt_mul hM
    rw [Int.mul_comm, hs]; exact b1.2
  have a3 : lim xs (i + l + 1) * 2 ^ (64 - r) % BB % 2 ^ (64 - r) = 0 := by
    rw [mul_mod_BB (by omega)]
    simp
  have a4 : lim xs (i + l + 1) * 2 ^ (64 - r) % BB = lim xs (i + l + 1) % 2 ^ r * 2 ^ (64 - r) := mul_mod_BB (by omega)
  have a5 : 0 ≤ lim xs (i + l + 1) % 2 ^ r := Int.emod_nonneg _ (by omega)
  have a6 : lim xs (i + l + 1) % 2 ^ r < 2 ^ r := Int.emod_lt_of_pos _ hM
  refine ⟨?_, ?_, a3, a1, a2⟩
  · unfold dnv
    rw [a4]
    have := Int.mul_nonneg a5 (Int.le_of_lt hK)
    omega
  · unfold dnv
    rw [a4]
    have l2 : lim xs (i + l + 1) % 2 ^ r + 1 ≤ 2 ^ r := a6
    have l3 := Int.mul_le_mul_of_nonneg_right l2 (Int.le_of_lt hK)
    rw [hs, Int.add_mul, Int.one_mul] at l3
    omega

theorem dn_end {v a q : Int} {r : Nat} (h : 2 ^ r * v + a = q) (h0 : 0 ≤ a) (h1 : a < 2 ^ r) : v = q / 2 ^ r := by
  rw [← h, Int.add_comm, Int.add_mul_ediv_left _ _ (by have := two_pos r; omega), Int.ediv_eq_zero_of_lt h0 h1]
  omega

theorem val_drop {xs : List Int} (hx : Limbs xs) (l k : Nat) (h : xs.length ≤ l + k) : pvd xs l k = val xs / BB ^ l := by
  have h1 := pvd_pv xs l k
  rw [pv_val xs _ h] at h1
  have b := pv_bd hx l
  rw [h1, Int.add_mul_ediv_left _ _ (by have := pw_pos l; omega), Int.ediv_eq_zero_of_lt b.1 b.2]
  omega

theorem pow_split (l r : Nat) : (2 : Int) ^ (64 * l + r) = BB ^ l * 2 ^ r := by
  rw [Int.pow_add, Int.pow_mul, ← BB_pow]

/-- v times 2^n, and by 2^-n, rounded down, as the document has it. -/
def shiftI (v n : Int) : Int := if n < -100000 then 0 else if n < 0 then v / 2 ^ (-n).toNat else v * 2 ^ (min n 1000).toNat

end Go.Proofs.YtghnmfkgpkikfaaGreatDoor

/-! The closures of limb.shiftUp and limb.shiftDown: one limb of a row that is shifted. -/
namespace Go.Proofs.YtghnmfkgpkikfaaGreatDoor
open Go.RowKit

/-- What has no bits in common is added. -/
theorem or_add {a b : Int} {i : Nat} (ha : 0 ≤ a) (haB : a < BB) (hb : 0 ≤ b) (hbB : b < BB) (h1 : a % 2 ^ i = 0) (h2 : b < 2 ^ i) : bits .or .u64 a b = a + b := by
  obtain ⟨A, rfl⟩ := Int.eq_ofNat_of_zero_le ha
  obtain ⟨B, rfl⟩ := Int.eq_ofNat_of_zero_le hb
  unfold BB at haB hbB
  rw [u64_or_nat A B (by omega) (by omega), nat_join i A B (by exact_mod_cast h1) (by exact_mod_cast h2)]
  rfl
theorem or_add' {a b : Int} {i : Nat} (ha : 0 ≤ a) (haB : a < BB) (hb : 0 ≤ b) (hbB : b < BB) (h1 : b % 2 ^ i = 0) (h2 : a < 2 ^ i) : bits .or .u64 a b = a + b := by
  obtain ⟨A, rfl⟩ := Int.eq_ofNat_of_zero_le ha
  obtain ⟨B, rfl⟩ := Int.eq_ofNat_of_zero_le hb
  unfold BB at haB hbB
  rw [u64_or_nat A B (by omega) (by omega), Nat.or_comm, nat_join i B A (by exact_mod_cast h1) (by exact_mod_cast h2), Nat.add_comm]
  rfl

theorem pow_le_BB {r : Nat} (h : r ≤ 64) : (2 : Int) ^ r ≤ BB := by
  rw [← split_BB h]
  have h1 : (1 : Int) ≤ 2 ^ (64 - r) := two_pos _
  have := Int.mul_le_mul_of_nonneg_left h1 (Int.le_of_lt (two_pos r))
  simpa using this

set_option maxHeartbeats 1000000 in
theorem up1_any (ao : Option Addr) (na ca pa pl pr l r : Nat) (xs : List Int) (i : Nat) (w : World) (hi : i ≤ 3000000) (hl : l ≤ 1000000) (hr : r ≤ 63)
    (ha : RowAt w ao na ca xs) (hpa : w.cell? ⟨pa, 0, none⟩ = some (.slice ao na ca)) (hpl : w.cell? ⟨pl, 0, none⟩ = some (.int .i64 l)) (hpr : w.cell? ⟨pr, 0, none⟩ = some (.int .i64 r)) :
    Calls Tryz.prog 123 #[.int .i64 i, .pointer (some ⟨pa, 0, none⟩), .pointer (some ⟨pl, 0, none⟩), .pointer (some ⟨pr, 0, none⟩)] w fun e w' =>
      e = .returned (.int .u64 (upv xs l r i)) ∧ Eqw w' w := by
  have hw1 : IntKind.i64.wrap ((i : Int) - (l : Int)) = (i : Int) - (l : Int) := IntWalk.i64_in _ ⟨by omega, by omega⟩
  have hw2 : IntKind.i64.wrap ((i : Int) - (l : Int) - 1) = (i : Int) - (l : Int) - 1 := IntWalk.i64_in _ ⟨by omega, by omega⟩
  have hw3 : IntKind.i64.wrap (64 - (r : Int)) = ((64 - r : Nat) : Int) := by rw [IntWalk.i64_in _ ⟨by omega, by omega⟩]; omega
  have g1 : (0 : Int) ≤ (r : Int) := by omega
  have g2 : (r : Int) ≤ 64 := by omega
  have g3 : (0 : Int) ≤ ((64 - r : Nat) : Int) := by omega
  have g4 : ((64 - r : Nat) : Int) ≤ 64 := by omega
  have lx := lim_bd ha.limbs (i - l)
  have ly := lim_bd ha.limbs (i - l - 1)
  have hu := upv_bd ha.limbs l hr i
  have HA : Hid (RowAt w ao na ca xs) := ha
  have HU : Hid _ := hu
  clear ha hu
  go_enter Tryz.func123, Tryz.ntmps123
  go_wp2
  go_quiet ((go_at_call 85; exact Calls.quiet_of_same (at_any _ _ _ xs _ _ (HA.out.drewN _) (by omega) (by omega))))
  go_wp2
  go_ret
  have h := HU.out
  refine ⟨ret_int ?_, (Eqw.refl w).drewN _⟩
  rw [wrapU, or_add (i := r) (mod_bd _).1 (mod_bd _).2 h.2.2.2.1 (by have := pow_le_BB (show r ≤ 64 by omega); omega) h.2.2.1 h.2.2.2.2]
  rfl

set_option maxHeartbeats 1000000 in
theorem dn1_any (ao : Option Addr) (na ca pa pl pr l r : Nat) (xs : List Int) (i : Nat) (w : World) (hi : i ≤ 3000000) (hl : l ≤ 1000000) (hr : r ≤ 63)
    (ha : RowAt w ao na ca xs) (hpa : w.cell? ⟨pa, 0, none⟩ = some (.slice ao na ca)) (hpl : w.cell? ⟨pl, 0, none⟩ = some (.int .i64 l)) (hpr : w.cell? ⟨pr, 0, none⟩ = some (.int .i64 r)) :
    Calls Tryz.prog 122 #[.int .i64 i, .pointer (some ⟨pa, 0, none⟩), .pointer (some ⟨pl, 0, none⟩), .pointer (some ⟨pr, 0, none⟩)] w fun e w' =>
      e = .returned (.int .u64 (dnv xs l r i)) ∧ Eqw w' w := by
  have hw1 : IntKind.i64.wrap ((i : Int) + (l : Int)) = (i : Int) + (l : Int) := IntWalk.i64_in _ ⟨by omega, by omega⟩
  have hw2 : IntKind.i64.wrap ((i : Int) + (l : Int) + 1) = (i : Int) + (l : Int) + 1 := IntWalk.i64_in _ ⟨by omega, by omega⟩
  have hw3 : IntKind.i64.wrap (64 - (r : Int)) = ((64 - r : Nat) : Int) := by rw [IntWalk.i64_in _ ⟨by omega, by omega⟩]; omega
  have g1 : (0 : Int) ≤ (r : Int) := by omega
  have g2 : (r : Int) ≤ 64 := by omega
  have g3 : (0 : Int) ≤ ((64 - r : Nat) : Int) := by omega
  have g4 : ((64 - r : Nat) : Int) ≤ 64 := by omega
  have lx := lim_bd ha.limbs (i + l)
  have ly := lim_bd ha.limbs (i + l + 1)
  have hu := dnv_bd ha.limbs l hr i
  have HA : Hid (RowAt w ao na ca xs) := ha
  have HU : Hid _ := hu
  clear ha hu
  go_enter Tryz.func122, Tryz.ntmps122
  go_wp2
  go_quiet ((go_at_call 85; exact Calls.quiet_of_same (at_any _ _ _ xs _ _ (HA.out.drewN _) (by omega) (by omega))))
  go_wp2
  go_ret
  have h := HU.out
  refine ⟨ret_int ?_, (Eqw.refl w).drewN _⟩
  rw [wrapU, or_add' (i := 64 - r) h.2.2.2.1 (by have := pow_le_BB (show 64 - r ≤ 64 by omega); omega) (mod_bd _).1 (mod_bd _).2 h.2.2.1 h.2.2.2.2]
  rfl
end Go.Proofs.YtghnmfkgpkikfaaGreatDoor

/-! limb.Shift: a row times a power of 2, or by one, rounded down. -/
namespace Go.Proofs.YtghnmfkgpkikfaaGreatDoor
open Go.RowKit

/-- What the closures of both shifts hold. -/
def ShInv (w0 : World) (pa pl pr : Nat) (av : Value) (l r : Nat) (wr : World) : Prop :=
  Below w0.heap.size w0 wr ∧ wr.heap[pa]? = some (.cells #[av] 22 (0, 0)) ∧ wr.heap[pl]? = some (.cells #[.int .i64 l] 3 (0, 0)) ∧ wr.heap[pr]? = some (.cells #[.int .i64 r] 3 (0, 0))

theorem ShInv.keep {w0 : World} {pa pl pr : Nat} {av : Value} {l r : Nat} {W w1 w2 : World} (hW : ShInv w0 pa pl pr av l r W) (h : ShInv w0 pa pl pr av l r w1) (hb : Below W.heap.size w1 w2) : ShInv w0 pa pl pr av l r w2 :=
  ⟨h.1.trans (hb.mono hW.1.size), heapAt hb (lt_of_block hW.2.1) h.2.1, heapAt hb (lt_of_block hW.2.2.1) h.2.2.1, heapAt hb (lt_of_block hW.2.2.2) h.2.2.2⟩
theorem ShInv.eqw {w0 : World} {pa pl pr : Nat} {av : Value} {l r : Nat} {w1 w2 : World} (h : ShInv w0 pa pl pr av l r w1) (hq : Eqw w2 w1) : ShInv w0 pa pl pr av l r w2 :=
  ⟨hq.below h.1, by rw [hq.heap]; exact h.2.1, by rw [hq.heap]; exact h.2.2.1, by rw [hq.heap]; exact h.2.2.2⟩

set_option maxHeartbeats 400000 in
theorem up_core (ao : Option Addr) (na ca pa pl pr l r : Nat) (N : Int) (xs : List Int) (w0 W : World) (ha : RowAt w0 ao na ca xs) (hna : na ≤ 400000) (hl : l ≤ 400000) (hr : r ≤ 63) (hN : N = ((l + (na + 1) : Nat) : Int))
    (hW : ShInv w0 pa pl pr (.slice ao na ca) l r W) :
    Calls Tryz.prog 81 #[.int .i64 N, .func (.func 123) #[] #[.pointer (some ⟨pa, 0, none⟩), .pointer (some ⟨pl, 0, none⟩), .pointer (some ⟨pr, 0, none⟩)]] W fun e w' =>
      ∃ ro m cap rr, e = .returned (.slice ro m cap) ∧ RowAt w' ro m cap rr ∧ Num rr (val xs * 2 ^ (64 * l + r)) ∧ m ≤ l + (na + 1) ∧ Below w0.heap.size w0 w' := by
  subst hN
  refine (build_any (l + (na + 1)) 123 _ (fun zs wr => ShInv w0 pa pl pr (.slice ao na ca) l r wr ∧ val zs + lim xs ((zs.length : Int) - l - 1) / 2 ^ (64 - r) * BB ^ zs.length = 2 ^ r * pvu xs l zs.length) W (by omega) ?_ (fun _ _ => by simp) ?_ ?_).mono ?_
  · refine ⟨hW, ?_⟩
    rw [lim_neg _ _ (by simp; omega)]
    simp [val, pvu]
  · rintro zs w1 w2 ⟨h1, h2⟩ hb12
    exact ⟨hW.keep h1 hb12, h2⟩
  · rintro zs wr hlt ⟨h1, hval⟩
    have hb := upv_bd ha.limbs l hr zs.length
    refine (up1_any ao na ca pa pl pr l r xs zs.length wr (by omega) (by omega) hr (ha.below h1.1) (cell_of_one h1.2.1) (cell_of_one h1.2.2.1) (cell_of_one h1.2.2.2)).mono ?_
    rintro e w' ⟨rfl, hq⟩
    refine ⟨_, rfl, hb.1, hb.2.1, ⟨h1.eqw hq, ?_⟩, ?_, ?_⟩
    · rw [val_snoc, List.length_append, List.length_singleton, pw_succ, pvu, show (((zs.length + 1 : Nat) : Int) - l - 1) = (zs.length : Int) - l by omega]
      exact up_step (by omega) hval
    · intro k hk; rw [hq.heap]
    · rw [hq.heap]
  · rintro e w' ⟨ro, cap, m, zs, rfl, hlen, hlm, htl, hrow, h1, hval⟩
    refine ⟨ro, m, cap, _, rfl, hrow, ?_, by have := htl.1; omega, h1.1⟩
    have hnum := Num.ofTl hlm htl
    have e : val zs = val xs * 2 ^ (64 * l + r) := by
      rw [hlen, pvu_high, pv_val xs _ (by have := ha.len; omega), show (((l + (na + 1) : Nat) : Int) - l - 1) = (na : Int) by omega, lim_past _ _ (by have := ha.len; omega)] at hval
      rw [pow_split]
      simp at hval
      rw [hval]
      grind
    rw [e] at hnum
    exact hnum

set_option maxHeartbeats 400000 in
theorem dn_core (ao : Option Addr) (na ca pa pl pr l r n : Nat) (N : Int) (xs : List Int) (w0 W : World) (ha : RowAt w0 ao na ca xs) (hna : na ≤ 400000) (hl : l ≤ 400000) (hr : r ≤ 63) (hn : n = na - l) (hN : N = (n : Int))
    (hW : ShInv w0 pa pl pr (.slice ao na ca) l r W) :
    Calls Tryz.prog 81 #[.int .i64 N, .func (.func 122) #[] #[.pointer (some ⟨pa, 0, none⟩), .pointer (some ⟨pl, 0, none⟩), .pointer (some ⟨pr, 0, none⟩)]] W fun e w' =>
      ∃ ro m cap rr, e = .returned (.slice ro m cap) ∧ RowAt w' ro m cap rr ∧ Num rr (val xs / 2 ^ (64 * l + r)) ∧ m ≤ na ∧ Below w0.heap.size w0 w' := by
  subst hN
  refine (build_any n 122 _ (fun zs wr => ShInv w0 pa pl pr (.slice ao na ca) l r wr ∧ 2 ^ r * val zs + lim xs l % 2 ^ r = pvd xs l zs.length + lim xs ((zs.length : Int) + l) % 2 ^ r * BB ^ zs.length) W (by omega) ?_ (fun _ _ => by simp) ?_ ?_).mono ?_
  · refine ⟨hW, ?_⟩
    simp [val, pvd]
  · rintro zs w1 w2 ⟨h1, h2⟩ hb12
    exact ⟨hW.keep h1 hb12, h2⟩
  · rintro zs wr hlt ⟨h1, hval⟩
    have hb := dnv_bd ha.limbs l hr zs.length
    refine (dn1_any ao na ca pa pl pr l r xs zs.length wr (by omega) (by omega) hr (ha.below h1.1) (cell_of_one h1.2.1) (cell_of_one h1.2.2.1) (cell_of_one h1.2.2.2)).mono ?_
    rintro e w' ⟨rfl, hq⟩
    refine ⟨_, rfl, hb.1, hb.2.1, ⟨h1.eqw hq, ?_⟩, ?_, ?_⟩
    · rw [val_snoc, List.length_append, List.length_singleton, pw_succ, pvd, show (((zs.length + 1 : Nat) : Int) + l) = (zs.length : Int) + l + 1 by omega]
      exact dn_step (by omega) hval
    · intro k hk; rw [hq.heap]
    · rw [hq.heap]
  · rintro e w' ⟨ro, cap, m, zs, rfl, hlen, hlm, htl, hrow, h1, hval⟩
    refine ⟨ro, m, cap, _, rfl, hrow, ?_, by have := htl.1; omega, h1.1⟩
    have hnum := Num.ofTl hlm htl
    have e : val zs = val xs / 2 ^ (64 * l + r) := by
      have hxl := ha.len
      rw [hlen, show ((n : Int) + l) = ((n + l : Nat) : Int) by omega, lim_past xs (n + l) (by omega), val_drop ha.limbs l n (by omega)] at hval
      simp at hval
      rw [pow_split, ← Int.ediv_ediv_of_nonneg (Int.le_of_lt (pw_pos l))]
      exact dn_end hval (Int.emod_nonneg _ (by have := two_pos r; omega)) (Int.emod_lt_of_pos _ (two_pos r))
    rw [e] at hnum
    exact hnum

theorem three_blocks (w : World) (o o' o'' : Obj) : (((w.alloc o).alloc o').alloc o'').heap[w.heap.size]? = some o ∧ (((w.alloc o).alloc o').alloc o'').heap[w.heap.size + 1]? = some o' ∧ (((w.alloc o).alloc o').alloc o'').heap[w.heap.size + 1 + 1]? = some o'' := by
  refine ⟨?_, ?_, ?_⟩
  · rw [Below.heap_alloc _ _ _ (by simp <;> omega), Below.heap_alloc _ _ _ (by simp)]; exact heap_alloc_new w _
  · rw [Below.heap_alloc _ _ _ (by simp)]; have := heap_alloc_new (w.alloc o) o'; simpa using this
  · have := heap_alloc_new ((w.alloc o).alloc o') o''; simpa using this
theorem below3s (w : World) (o o' o'' : Obj) : Below w.heap.size w (((w.alloc o).alloc o').alloc o'') := (((Below.refl _ _).alloc (Nat.le_refl _) o).alloc (by simp) o').alloc (by simp <;> omega) o''

theorem sh_start (w : World) (v : Value) (n : Nat) : ShInv w w.heap.size (w.heap.size + 1) (w.heap.size + 1 + 1) v (n / 64) (n % 64)
    (((w.alloc (Obj.cells #[v] 22)).alloc (Obj.cells #[Value.int IntKind.i64 ((n : Int) / 64)] 3)).alloc (Obj.cells #[Value.int IntKind.i64 ((n : Int) % 64)] 3)) := by
  have h := three_blocks w (Obj.cells #[v] 22) (Obj.cells #[Value.int IntKind.i64 ((n : Int) / 64)] 3) (Obj.cells #[Value.int IntKind.i64 ((n : Int) % 64)] 3)
  exact ⟨below3s _ _ _ _, h.1, h.2.1, h.2.2⟩

set_option maxHeartbeats 400000 in
theorem shiftUp_any (ao : Option Addr) (na ca n : Nat) (xs : List Int) (w : World) (ha : RowAt w ao na ca xs) (hna : na ≤ 300000) (hn : n ≤ 1000) :
    Calls Tryz.prog 115 #[.slice ao na ca, .int .i64 n] w fun e w' => ∃ ro m cap r, e = .returned (.slice ro m cap) ∧ RowAt w' ro m cap r ∧ Num r (val xs * 2 ^ n) ∧ m ≤ na + 17 ∧ Below w.heap.size w w' := by
  have hmf : ∀ (fn : Fn) (first cap : Array Value) (w : World), (Instr.makeFunc fn first cap).run Tryz.prog w = .ok (.func fn first cap) w := fun _ _ _ _ => rfl
  have HA : Hid (RowAt w ao na ca xs) := ha
  have HS : Hid _ := sh_start w (.slice ao na ca) n
  clear ha
  go_enter Tryz.func115, Tryz.ntmps115
  go_wp2_with fail
  refine (up_core ao na ca _ _ _ (n / 64) (n % 64) _ xs w _ HA.out (by omega) (by omega) (by omega) (by omega) HS.out).mono ?_
  rintro e w1 ⟨ro, m, cap, r, rfl, h1, h2, h3, h4⟩
  go_wp2
  go_ret
  exact ⟨ro, m, cap, r, rfl, h1, by rw [show 64 * (n / 64) + n % 64 = n by omega] at h2; exact h2, by omega, h4⟩

set_option maxHeartbeats 400000 in
theorem shiftDown_any (ao : Option Addr) (na ca n : Nat) (xs : List Int) (w : World) (ha : RowAt w ao na ca xs) (hna : na ≤ 300000) (hn : n ≤ 100000) :
    Calls Tryz.prog 114 #[.slice ao na ca, .int .i64 n] w fun e w' => ∃ ro m cap r, e = .returned (.slice ro m cap) ∧ RowAt w' ro m cap r ∧ Num r (val xs / 2 ^ n) ∧ m ≤ na ∧ Below w.heap.size w w' := by
  have hmf : ∀ (fn : Fn) (first cap : Array Value) (w : World), (Instr.makeFunc fn first cap).run Tryz.prog w = .ok (.func fn first cap) w := fun _ _ _ _ => rfl
  have HA : Hid (RowAt w ao na ca xs) := ha
  have HS : Hid _ := sh_start w (.slice ao na ca) n
  clear ha
  rcases Nat.lt_or_ge na (n / 64) with hlt | hge
  · have hlt' : (na : Int) - (n : Int) / 64 < 0 := by omega
    go_enter Tryz.func114, Tryz.ntmps114
    go_wp2_with fail
    refine (dn_core ao na ca _ _ _ (n / 64) (n % 64) (na - n / 64) _ xs w _ HA.out (by omega) (by omega) (by omega) rfl (by omega) HS.out).mono ?_
    rintro e w1 ⟨ro, m, cap, r, rfl, h1, h2, h3, h4⟩
    go_wp2
    go_ret
    exact ⟨ro, m, cap, r, rfl, h1, by rw [show 64 * (n / 64) + n % 64 = n by omega] at h2; exact h2, h3, h4⟩
  · have hge' : 0 ≤ (na : Int) - (n : Int) / 64 := by omega
    go_enter Tryz.func114, Tryz.ntmps114
    go_wp2_with fail
    refine (dn_core ao na ca _ _ _ (n / 64) (n % 64) (na - n / 64) _ xs w _ HA.out (by omega) (by omega) (by omega) rfl (by omega) HS.out).mono ?_
    rintro e w1 ⟨ro, m, cap, r, rfl, h1, h2, h3, h4⟩
    go_wp2
    go_ret
    exact ⟨ro, m, cap, r, rfl, h1, by rw [show 64 * (n / 64) + n % 64 = n by omega] at h2; exact h2, h3, h4⟩

set_option maxRecDepth 100000 in
set_option maxHeartbeats 400000 in
theorem shift_any (ao : Option Addr) (na ca : Nat) (n : Int) (xs : List Int) (w : World) (ha : RowAt w ao na ca xs) (hna : na ≤ 300000) (hn0 : -9223372036854775808 ≤ n) (hn1 : n ≤ 9223372036854775807) :
    Calls Tryz.prog 101 #[.slice ao na ca, .int .i64 n] w fun e w' => ∃ ro m cap r, e = .returned (.slice ro m cap) ∧ RowAt w' ro m cap r ∧ Num r (shiftI (val xs) n) ∧ m ≤ na + 17 ∧ Below w.heap.size w w' := by
  obtain ⟨m1, t1⟩ := tl_ex xs
  have h1 : m1 ≤ na := by have := t1.1; have := ha.len; omega
  have hca : (m1 : Int) ≤ (ca : Int) := by have := ha.fits; omega
  have HA : Hid (RowAt w ao na ca xs) := ha
  have T1 : Hid (Tl xs m1) := t1
  clear ha t1
  by_cases hl : n < -100000
  · go_enter Tryz.func101, Tryz.ntmps101
    go_wp2_with fail
    go_ret
    exact ⟨none, 0, 0, [], rfl, RowAt.nil _, by rw [shiftI, if_pos hl]; exact Num.nil, by omega, Below.refl _ _⟩
  · by_cases hz : n < 0
    · obtain ⟨k, hk⟩ := Int.eq_ofNat_of_zero_le (show 0 ≤ -n by omega)
      have hk1 : k ≤ 100000 := by omega
      have HK : Hid (-n = (k : Int)) := hk
      clear hk
      go_enter Tryz.func101, Tryz.ntmps101
      go_wp2_with fail
      refine (trimLen_q _ _ _ m1 xs _ HA.out T1.out).mono ?_
      rintro e w1 ⟨rfl, hw⟩
      subst hw
      go_wp2_with fail
      rw [HK.out]
      refine (shiftDown_any _ _ _ k (xs.take m1) _ (HA.out.cut m1 h1) (by omega) hk1).mono ?_
      rintro e w2 ⟨ro, m, cap, r, rfl, g1, g2, g3, g4⟩
      go_wp2
      go_ret
      refine ⟨ro, m, cap, r, rfl, g1, ?_, by omega, g4⟩
      rw [T1.out.val] at g2
      rw [shiftI, if_neg (by omega), if_pos (by omega), HK.out]
      exact g2
    · rcases Int.lt_or_le 1000 n with hge | hlt
      · go_enter Tryz.func101, Tryz.ntmps101
        go_wp2_with fail
        refine (trimLen_q _ _ _ m1 xs _ HA.out T1.out).mono ?_
        rintro e w1 ⟨rfl, hw⟩
        subst hw
        go_wp2_with fail
        refine (shiftUp_any _ _ _ 1000 (xs.take m1) _ (HA.out.cut m1 h1) (by omega) (by omega)).mono ?_
        rintro e w2 ⟨ro, m, cap, r, rfl, g1, g2, g3, g4⟩
        go_wp2
        go_ret
        refine ⟨ro, m, cap, r, rfl, g1, ?_, by omega, g4⟩
        rw [T1.out.val] at g2
        rw [shiftI, if_neg (by omega), if_neg (by omega), show (min n 1000).toNat = 1000 by omega]
        exact g2
      · obtain ⟨k, rfl⟩ := Int.eq_ofNat_of_zero_le (show 0 ≤ n by omega)
        have hk1 : k ≤ 1000 := by omega
        go_enter Tryz.func101, Tryz.ntmps101
        go_wp2_with fail
        refine (trimLen_q _ _ _ m1 xs _ HA.out T1.out).mono ?_
        rintro e w1 ⟨rfl, hw⟩
        subst hw
        go_wp2_with fail
        refine (shiftUp_any _ _ _ k (xs.take m1) _ (HA.out.cut m1 h1) (by omega) hk1).mono ?_
        rintro e w2 ⟨ro, m, cap, r, rfl, g1, g2, g3, g4⟩
        go_wp2
        go_ret
        refine ⟨ro, m, cap, r, rfl, g1, ?_, by omega, g4⟩
        rw [T1.out.val] at g2
        rw [shiftI, if_neg (by omega), if_neg (by omega), show (min (k : Int) 1000).toNat = k by omega]
        exact g2
end Go.Proofs.YtghnmfkgpkikfaaGreatDoor

/-! limb.Trim: the one row of the same number. -/
namespace Go.Proofs.YtghnmfkgpkikfaaGreatDoor
open Go.RowKit

set_option maxHeartbeats 400000 in
theorem trim1_any (ao : Option Addr) (na ca pa : Nat) (xs : List Int) (i : Nat) (w : World) (hi : i < na)
    (ha : RowAt w ao na ca xs) (hpa : w.cell? ⟨pa, 0, none⟩ = some (.slice ao na ca)) :
    Calls Tryz.prog 82 #[.int .i64 i, .pointer (some ⟨pa, 0, none⟩)] w fun e w' => e = .returned (.int .u64 (lim xs i)) ∧ w' = w := by
  obtain ⟨b, off, rfl, hlt, hc⟩ := ha.cells (by intro e; have := ha.len; rw [e] at this; simp at this; omega)
  have hck := hc i (by have := ha.len; omega)
  rw [← lim_nat] at hck
  clear hc ha
  have hi' : (i : Int) < (na : Int) := by omega
  go_enter Tryz.func82, Tryz.ntmps82
  go_wp2
  go_ret
  exact ⟨rfl, rfl⟩

/-- What the closure of Trim holds while the limbs zs have been told. -/
def TrimInv (w0 : World) (pa : Nat) (av : Value) (xs : List Int) (zs : List Int) (wr : World) : Prop :=
  Below w0.heap.size w0 wr ∧ wr.heap[pa]? = some (.cells #[av] 22 (0, 0)) ∧ val zs = pv xs zs.length

set_option maxHeartbeats 400000 in
theorem trim_core (ao : Option Addr) (na ca pa m1 : Nat) (xs : List Int) (w0 W : World) (ha : RowAt w0 ao na ca xs) (hna : na ≤ 900000) (t1 : Tl xs m1) (hbel : Below w0.heap.size w0 W) (hpa : W.heap[pa]? = some (.cells #[.slice ao na ca] 22 (0, 0))) :
    Calls Tryz.prog 81 #[.int .i64 m1, .func (.func 82) #[] #[.pointer (some ⟨pa, 0, none⟩)]] W fun e w' =>
      ∃ ro m cap r, e = .returned (.slice ro m cap) ∧ RowAt w' ro m cap r ∧ Num r (val xs) ∧ m ≤ na ∧ Below w0.heap.size w0 w' ∧ Fresh w0.heap.size ro := by
  have hm : m1 ≤ na := by have := t1.1; have := ha.len; omega
  refine (build_fresh m1 82 _ (TrimInv w0 pa (.slice ao na ca) xs) W (by omega) ?_ (fun _ _ => by simp) ?_ ?_).mono ?_
  · exact ⟨hbel, hpa, by simp [val, pv]⟩
  · rintro zs w1 w2 ⟨h1, h2, h3⟩ hb12
    exact ⟨h1.trans (hb12.mono hbel.size), heapAt hb12 (lt_of_block hpa) h2, h3⟩
  · rintro zs wr hlt ⟨h1, h2, hval⟩
    have lx := lim_bd ha.limbs zs.length
    refine (trim1_any ao na ca pa xs zs.length wr (by omega) (ha.below h1) (cell_of_one h2)).mono ?_
    rintro e w' ⟨rfl, rfl⟩
    refine ⟨_, rfl, lx.1, lx.2, ⟨h1, h2, ?_⟩, fun _ _ => rfl, rfl⟩
    rw [val_snoc, List.length_append, List.length_singleton, pv, hval]
  · rintro e w' ⟨ro, cap, m, zs, rfl, hlen, hlm, htl, hrow, hfr, h1, -, hval⟩
    refine ⟨ro, m, cap, _, rfl, hrow, ?_, by have := htl.1; omega, h1, hfr.mono hbel.size⟩
    have hnum := Num.ofTl hlm htl
    rw [hval, hlen, ← val_take_pv xs m1 t1.1, t1.val] at hnum
    exact hnum

set_option maxHeartbeats 400000 in
theorem trim_fresh (ao : Option Addr) (na ca : Nat) (xs : List Int) (w : World) (ha : RowAt w ao na ca xs) (hna : na ≤ 900000) :
    Calls Tryz.prog 62 #[.slice ao na ca] w fun e w' => ∃ ro m cap r, e = .returned (.slice ro m cap) ∧ RowAt w' ro m cap r ∧ Num r (val xs) ∧ m ≤ na ∧ Below w.heap.size w w' ∧ Fresh w.heap.size ro := by
  have hmf : ∀ (fn : Fn) (first cap : Array Value) (w : World), (Instr.makeFunc fn first cap).run Tryz.prog w = .ok (.func fn first cap) w := fun _ _ _ _ => rfl
  obtain ⟨m1, t1⟩ := tl_ex xs
  have H : _ := trim_core ao na ca w.heap.size m1 xs w (w.alloc (Obj.cells #[.slice ao na ca] 22)) ha hna t1 ((Below.refl _ _).alloc (Nat.le_refl _) _) (heap_alloc_new w _)
  have HT : Hid (Tl xs m1) := t1
  have HH : Hid (∀ u : Unit, Calls Tryz.prog 81 #[.int .i64 m1, .func (.func 82) #[] #[.pointer (some ⟨w.heap.size, 0, none⟩)]] (w.alloc (Obj.cells #[.slice ao na ca] 22)) fun e w' =>
      ∃ ro m cap r, e = .returned (.slice ro m cap) ∧ RowAt w' ro m cap r ∧ Num r (val xs) ∧ m ≤ na ∧ Below w.heap.size w w' ∧ Fresh w.heap.size ro) := fun _ => H
  have HA : Hid (RowAt (w.alloc (Obj.cells #[.slice ao na ca] 22)) ao na ca xs) := ha.below ((Below.refl _ _).alloc (Nat.le_refl _) _)
  clear H t1 ha
  go_enter Tryz.func62, Tryz.ntmps62
  go_wp2_with fail
  refine (trimLen_q _ _ _ m1 xs _ HA.out HT.out).mono ?_
  rintro e w1 ⟨rfl, hw⟩
  rw [hw]
  clear hw
  go_wp2_with fail
  refine (HH.out ()).mono ?_
  rintro e w1 ⟨ro, m, cap, r, rfl, h1, h2, h3, h4, h5⟩
  have H5 : Hid _ := h5
  clear h5
  go_wp2
  go_ret
  exact ⟨ro, m, cap, r, rfl, h1, h2, h3, h4, H5.out⟩

theorem trim_any (ao : Option Addr) (na ca : Nat) (xs : List Int) (w : World) (ha : RowAt w ao na ca xs) (hna : na ≤ 900000) :
    Calls Tryz.prog 62 #[.slice ao na ca] w fun e w' => ∃ ro m cap r, e = .returned (.slice ro m cap) ∧ RowAt w' ro m cap r ∧ Num r (val xs) ∧ m ≤ na ∧ Below w.heap.size w w' :=
  (trim_fresh ao na ca xs w ha hna).mono fun _ _ ⟨ro, m, cap, r, h0, h1, h2, h3, h4, _⟩ => ⟨ro, m, cap, r, h0, h1, h2, h3, h4⟩

theorem RowAt.cellAt {w : World} {b off n cap : Nat} {xs : List Int} (h : RowAt w (some ⟨b, off, none⟩) n cap xs) (j : Nat) (hj : j < n) : w.cell? ⟨b, off + j, none⟩ = some (.int .u64 (lim xs j)) := by
  obtain ⟨b', off', e, _, hc⟩ := h.cells (by intro e; have := h.len; rw [e] at this; simp at this; omega)
  cases e
  rw [hc j (by have := h.len; omega), lim_nat]

/-- Trim's result: nothing, or a row whose last limb is not 0. -/
theorem trim_shape (ao : Option Addr) (na ca : Nat) (xs : List Int) (w : World) (ha : RowAt w ao na ca xs) (hna : na ≤ 900000) :
    Calls Tryz.prog 62 #[.slice ao na ca] w fun e w' => Below w.heap.size w w' ∧ ((∃ ro cap, e = .returned (.slice ro 0 cap) ∧ RowAt w' ro 0 cap [] ∧ Num [] (val xs)) ∨
      ∃ b off m cap r, e = .returned (.slice (some ⟨b, off, none⟩) (m + 1) cap) ∧ RowAt w' (some ⟨b, off, none⟩) (m + 1) cap r ∧ Num r (val xs) ∧ lim r m ≠ 0 ∧ m + 1 ≤ na) := by
  refine (trim_any ao na ca xs w ha hna).mono ?_
  rintro e w' ⟨ro, m, cap, r, rfl, h1, h2, h3, h4⟩
  refine ⟨h4, ?_⟩
  have hl := h1.len
  cases m with
  | zero =>
    obtain rfl := List.length_eq_zero_iff.1 hl
    exact .inl ⟨ro, cap, rfl, h1, h2⟩
  | succ m =>
    obtain ⟨b, off, rfl, _, _⟩ := h1.cells (by intro e; rw [e] at hl; simp at hl)
    exact .inr ⟨b, off, m, cap, r, rfl, h1, h2, by rw [lim_nat]; exact h2.trim m hl, h3⟩
end Go.Proofs.YtghnmfkgpkikfaaGreatDoor
