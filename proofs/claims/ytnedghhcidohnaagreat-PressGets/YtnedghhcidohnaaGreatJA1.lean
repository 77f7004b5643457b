/-
  Joined: Math · NatMath · HalfMath · DivMath · QuotMath · RatMath · SumMath · ShiftMath · DigMath.
-/

/-! Rows of limbs as numbers: plain arithmetic, no program. -/
namespace Go.Proofs.YtnedghhcidohnaaGreat

/-- 2^64. -/
def BB : Int := 18446744073709551616
theorem BB_pos : 0 < BB := by unfold BB; omega
theorem BB_two : 2 ≤ BB := by unfold BB; omega

/-- Each is a limb. -/
def Limbs (xs : List Int) : Prop := ∀ x ∈ xs, 0 ≤ x ∧ x < BB

/-- The number that a row of limbs is. -/
def val : List Int → Int
  | [] => 0
  | x :: xs => x + BB * val xs

/-- The limb at place i: 0 on either side. -/
def lim (xs : List Int) (i : Int) : Int := if 0 ≤ i then xs.getD i.toNat 0 else 0

theorem lim_neg (xs : List Int) (i : Int) (h : i < 0) : lim xs i = 0 := by rw [lim, if_neg (by omega)]
theorem lim_nat (xs : List Int) (k : Nat) : lim xs k = xs.getD k 0 := by rw [lim, if_pos (by omega), Int.toNat_natCast]
theorem lim_past (xs : List Int) (k : Nat) (h : xs.length ≤ k) : lim xs k = 0 := by rw [lim_nat]; simp [h]
theorem lim_bd {xs : List Int} (h : Limbs xs) (i : Int) : 0 ≤ lim xs i ∧ lim xs i < BB := by
  have hB := BB_pos
  unfold lim
  split
  · by_cases hk : i.toNat < xs.length
    · rw [List.getD_eq_getElem?_getD, List.getElem?_eq_getElem hk]
      exact h _ (List.getElem_mem _)
    · rw [List.getD_eq_getElem?_getD, List.getElem?_eq_none (by omega)]
      exact ⟨by simp, by simpa using hB⟩
  · exact ⟨Int.le_refl _, hB⟩

theorem pw_pos (k : Nat) : 0 < BB ^ k := Int.pow_pos BB_pos
theorem pw_succ (k : Nat) : BB ^ (k + 1) = BB ^ k * BB := Int.pow_succ ..
theorem pw_add (j k : Nat) : BB ^ (j + k) = BB ^ j * BB ^ k := Int.pow_add ..
theorem pw_le {j k : Nat} (h : j ≤ k) : BB ^ j ≤ BB ^ k := by
  obtain ⟨d, rfl⟩ := Nat.le.dest h
  rw [pw_add]
  have h1 : (1 : Int) ≤ BB ^ d := pw_pos d
  have := Int.mul_le_mul_of_nonneg_left h1 (Int.le_of_lt (pw_pos j))
  simpa using this

theorem val_snoc (xs : List Int) (x : Int) : val (xs ++ [x]) = val xs + x * BB ^ xs.length := by
  induction xs with
  | nil => simp [val]
  | cons y ys ih =>
    simp only [List.cons_append, val, ih, List.length_cons, pw_succ]
    grind

theorem limbs_tail {x : Int} {xs : List Int} (h : Limbs (x :: xs)) : Limbs xs := fun y hy => h y (List.mem_cons_of_mem _ hy)
theorem limbs_head {x : Int} {xs : List Int} (h : Limbs (x :: xs)) : 0 ≤ x ∧ x < BB := h x List.mem_cons_self
theorem limbs_take {xs : List Int} (h : Limbs xs) (m : Nat) : Limbs (xs.take m) := fun y hy => h y (List.mem_of_mem_take hy)
theorem limbs_snoc {xs : List Int} {x : Int} (h : Limbs xs) (h0 : 0 ≤ x) (h1 : x < BB) : Limbs (xs ++ [x]) := by
  intro y hy
  rcases List.mem_append.1 hy with h' | h'
  · exact h y h'
  · rw [List.mem_singleton.1 h']; exact ⟨h0, h1⟩

theorem val_bd {xs : List Int} (h : Limbs xs) : 0 ≤ val xs ∧ val xs < BB ^ xs.length := by
  induction xs with
  | nil => simp [val]
  | cons x xs ih =>
    have hx := limbs_head h
    have hi := ih (limbs_tail h)
    have hB := BB_pos
    refine ⟨?_, ?_⟩
    · simp only [val]; have := Int.mul_nonneg (Int.le_of_lt hB) hi.1; omega
    · simp only [val, List.length_cons, pw_succ]
      have h1 : val xs + 1 ≤ BB ^ xs.length := hi.2
      have h2 := Int.mul_le_mul_of_nonneg_left h1 (Int.le_of_lt hB)
      rw [Int.mul_add, Int.mul_one] at h2
      rw [Int.mul_comm (BB ^ xs.length)]
      omega

/-- The first k limbs, as a number. -/
def pv (xs : List Int) : Nat → Int
  | 0 => 0
  | k + 1 => pv xs k + lim xs k * BB ^ k

theorem pv_bd {xs : List Int} (h : Limbs xs) (k : Nat) : 0 ≤ pv xs k ∧ pv xs k < BB ^ k := by
  induction k with
  | zero => simp [pv]
  | succ k ih =>
    have hl := lim_bd h k
    have hp := pw_pos k
    simp only [pv, pw_succ]
    have h1 : lim xs k + 1 ≤ BB := hl.2
    have h2 := Int.mul_le_mul_of_nonneg_right h1 (Int.le_of_lt hp)
    rw [Int.add_mul, Int.one_mul] at h2
    have h3 := Int.mul_nonneg hl.1 (Int.le_of_lt hp)
    rw [Int.mul_comm (BB ^ k) BB]
    omega

theorem pv_cons (x : Int) (xs : List Int) (k : Nat) : pv (x :: xs) (k + 1) = x + BB * pv xs k := by
  induction k with
  | zero => simp [pv, lim]
  | succ k ih =>
    rw [pv, ih, pv]
    have e : lim (x :: xs) ((k + 1 : Nat) : Int) = lim xs k := by rw [lim_nat, lim_nat]; simp
    rw [e, pw_succ]
    grind

theorem pv_val (xs : List Int) (k : Nat) (h : xs.length ≤ k) : pv xs k = val xs := by
  induction xs generalizing k with
  | nil =>
    induction k with
    | zero => rfl
    | succ k ih => rw [pv, ih (by simp), lim_past _ _ (by simp)]; simp
  | cons x xs ih =>
    obtain ⟨j, rfl⟩ : ∃ j, k = j + 1 := ⟨k - 1, by simp at h; omega⟩
    rw [pv_cons, ih j (by simp at h; omega), val]

theorem val_take_pv (xs : List Int) (k : Nat) (h : k ≤ xs.length) : val (xs.take k) = pv xs k := by
  induction k with
  | zero => rfl
  | succ k ih =>
    rw [List.take_succ_eq_append_getElem (by omega), val_snoc, ih (by omega), pv, lim_nat]
    simp [show min k xs.length = k by omega, show k < xs.length by omega]

/-- n is how many limbs of xs are left without those of 0 at its end. -/
def Tl (xs : List Int) (n : Nat) : Prop := n ≤ xs.length ∧ (∀ j, n ≤ j → xs.getD j 0 = 0) ∧ (n ≠ 0 → xs.getD (n - 1) 0 ≠ 0)

theorem pv_zeros (xs : List Int) (n k : Nat) (hn : n ≤ k) (h : ∀ j, n ≤ j → xs.getD j 0 = 0) : pv xs k = pv xs n := by
  induction k with
  | zero => obtain rfl : n = 0 := by omega
            rfl
  | succ k ih =>
    by_cases e : n = k + 1
    · rw [e]
    · rw [pv, ih (by omega), lim_nat, h k (by omega)]; simp

theorem Tl.val {xs : List Int} {m : Nat} (h : Tl xs m) : val (xs.take m) = val xs := by
  rw [val_take_pv xs m h.1, ← pv_val xs xs.length (Nat.le_refl _), pv_zeros xs m _ h.1 h.2.1]

/-- It does not end in a limb of 0. -/
def Trim (xs : List Int) : Prop := ∀ n, xs.length = n + 1 → xs.getD n 0 ≠ 0

theorem Tl.trim {xs : List Int} {m : Nat} (h : Tl xs m) : Trim (xs.take m) := by
  intro n hn
  have hl : (xs.take m).length = m := by simp [h.1]
  have e : m = n + 1 := by omega
  have := h.2.2 (by omega)
  rw [e] at this ⊢
  simpa using this

/-- The one row of a number. -/
structure Num (xs : List Int) (v : Int) : Prop where
  limbs : Limbs xs
  trim : Trim xs
  val : val xs = v

theorem Num.ofTl {xs : List Int} {m : Nat} (hl : Limbs xs) (h : Tl xs m) : Num (xs.take m) (Go.Proofs.YtnedghhcidohnaaGreat.val xs) := ⟨limbs_take hl m, h.trim, h.val⟩

theorem trim_tail {x : Int} {xs : List Int} (h : Trim (x :: xs)) : Trim xs := by
  intro n hn
  have := h (n + 1) (by simp [hn])
  simpa using this

theorem zero_of_val {xs : List Int} (hl : Limbs xs) (ht : Trim xs) (h : val xs = 0) : xs = [] := by
  induction xs with
  | nil => rfl
  | cons x xs ih =>
    have hx := limbs_head hl
    have hb := val_bd (limbs_tail hl)
    simp only [val] at h
    have hm := Int.mul_nonneg (Int.le_of_lt BB_pos) hb.1
    have h0 : val xs = 0 := by
      rcases Int.lt_or_eq_of_le hb.1 with h' | h'
      · have := Int.mul_pos BB_pos h'; omega
      · exact h'.symm
    have e := ih (limbs_tail hl) (trim_tail ht) h0
    subst e
    have := ht 0 rfl
    simp only [val] at h
    simp at this
    omega

/-- A number has one row. -/
theorem row_one {xs ys : List Int} (hx : Limbs xs) (tx : Trim xs) (hy : Limbs ys) (ty : Trim ys) (h : val xs = val ys) : xs = ys := by
  induction xs generalizing ys with
  | nil => exact (zero_of_val hy ty h.symm).symm
  | cons x xs ih =>
    cases ys with
    | nil => exact zero_of_val hx tx h
    | cons y ys =>
      have bx := limbs_head hx
      have bY := limbs_head hy
      simp only [val] at h
      have e1 : x = y := by
        have h1 : (x + BB * val xs) % BB = x := by rw [Int.add_mul_emod_self_left, Int.emod_eq_of_lt bx.1 bx.2]
        have h2 : (y + BB * val ys) % BB = y := by rw [Int.add_mul_emod_self_left, Int.emod_eq_of_lt bY.1 bY.2]
        rw [← h1, ← h2, h]
      subst e1
      have e2 : val xs = val ys := by
        have : BB * val xs = BB * val ys := by omega
        exact Int.eq_of_mul_eq_mul_left (by have := BB_pos; omega) this
      rw [ih (limbs_tail hx) (trim_tail tx) (limbs_tail hy) (trim_tail ty) e2]

theorem Num.one {xs ys : List Int} {v : Int} (hx : Num xs v) (hy : Num ys v) : xs = ys := row_one hx.limbs hx.trim hy.limbs hy.trim (hx.val.trans hy.val.symm)

end Go.Proofs.YtnedghhcidohnaaGreat

/-! Naturals: which rows may be, and what a call of layer 2 may tell. Plain arithmetic, no program. -/
namespace Go.Proofs.YtnedghhcidohnaaGreat

/-- The least number that has more limbs than may be. -/
def Big : Int := BB ^ 8
theorem Big_pos : 0 < Big := pw_pos 8
theorem Big_one : 1 < Big := by
  have h := pw_le (show 1 ≤ 8 by omega)
  have h1 : BB ^ 1 = BB := by rw [Int.pow_succ, Int.pow_zero, Int.one_mul]
  have := BB_two
  unfold Big
  omega
theorem Big_BB : BB < Big := by
  have h := pw_le (show 2 ≤ 8 by omega)
  have h1 : BB ^ 2 = BB * BB := by rw [Int.pow_succ, Int.pow_succ, Int.pow_zero, Int.one_mul]
  have h2 := Int.mul_le_mul_of_nonneg_left BB_two (Int.le_of_lt BB_pos)
  have := BB_pos
  unfold Big
  omega

/-- A natural that may be. -/
def May (xs : List Int) : Prop := xs.length ≤ 8 ∧ Trim xs

theorem val_ge {xs : List Int} (hl : Limbs xs) (ht : Trim xs) (n : Nat) (h : xs.length = n + 1) : BB ^ n ≤ val xs := by
  have hv := pv_val xs (n + 1) (by omega)
  rw [pv] at hv
  have h1 := (pv_bd hl n).1
  have h2 : lim xs n ≠ 0 := by rw [lim_nat]; exact ht n h
  have h3 := (lim_bd hl n).1
  have h4 : 1 ≤ lim xs n := by omega
  have h5 := Int.mul_le_mul_of_nonneg_right h4 (Int.le_of_lt (pw_pos n))
  rw [Int.one_mul] at h5
  omega

theorem Num.le8 {r : List Int} {v : Int} (h : Num r v) : r.length ≤ 8 ↔ v < Big := by
  constructor
  · intro hl
    have := (val_bd h.limbs).2
    rw [h.val] at this
    exact Int.lt_of_lt_of_le this (pw_le hl)
  · intro hv
    rcases Nat.lt_or_ge 8 r.length with h1 | h1
    · obtain ⟨n, hn⟩ : ∃ n, r.length = n + 1 := ⟨r.length - 1, by omega⟩
      have h2 := val_ge h.limbs h.trim n hn
      have h3 := pw_le (show 8 ≤ n by omega)
      rw [h.val] at h2
      unfold Big at hv
      omega
    · exact h1

theorem Num.may {r : List Int} {v : Int} (h : Num r v) : May r ↔ v < Big := by
  rw [← h.le8]
  exact ⟨fun h => h.1, fun h' => ⟨h', h.trim⟩⟩

theorem num_self {xs : List Int} (hl : Limbs xs) (hm : May xs) : Num xs (val xs) := ⟨hl, hm.2, rfl⟩

theorem Num.nonneg {r : List Int} {v : Int} (h : Num r v) : 0 ≤ v := by rw [← h.val]; exact (val_bd h.limbs).1

theorem May.lt {xs : List Int} (hl : Limbs xs) (hm : May xs) : val xs < Big := (num_self hl hm).may.1 hm

theorem May.nil : May [] := ⟨by simp, by intro n hn; simp at hn⟩

theorem may_ex (xs : List Int) : ∃ b : Bool, (b = true ↔ May xs) := by
  by_cases h : May xs
  · exact ⟨true, ⟨fun _ => h, fun _ => rfl⟩⟩
  · exact ⟨false, ⟨fun e => absurd e (by decide), fun e => absurd e h⟩⟩

theorem yes_iff {p : Prop} (h : p) : true = true ↔ p := ⟨fun _ => h, fun _ => rfl⟩
theorem no_iff {p : Prop} (h : ¬ p) : false = true ↔ p := ⟨fun e => absurd e (by decide), fun e => absurd e h⟩

/-- What a call tells: the row, and the error's number. -/
structure Out (ok neg : Prop) (v : Int) (r : List Int) (k : Int) : Prop where
  is_arg' : ¬ ok → k = 1 ∧ r = []
  is_minus' : ok → neg → k = 20 ∧ r = []
  is_big' : ok → ¬ neg → Big ≤ v → k = 21 ∧ r = []
  is_fine' : ok → ¬ neg → v < Big → k = 0 ∧ Num r v

theorem Out.arg {ok neg : Prop} {v : Int} (h : ¬ ok) : Out ok neg v [] 1 := ⟨fun _ => ⟨rfl, rfl⟩, fun o => absurd o h, fun o => absurd o h, fun o => absurd o h⟩
theorem Out.minus {ok neg : Prop} {v : Int} (h : ok) (n : neg) : Out ok neg v [] 20 := ⟨fun o => absurd h o, fun _ _ => ⟨rfl, rfl⟩, fun _ m => absurd n m, fun _ m => absurd n m⟩
theorem Out.big {ok neg : Prop} {v : Int} (h : ok) (n : ¬ neg) (g : Big ≤ v) : Out ok neg v [] 21 := ⟨fun o => absurd h o, fun _ m => absurd m n, fun _ _ _ => ⟨rfl, rfl⟩, fun _ _ l => absurd g (Int.not_le.2 l)⟩
theorem Out.fine {ok neg : Prop} {v : Int} (r : List Int) (h : ok) (n : ¬ neg) (l : v < Big) (u : Num r v) : Out ok neg v r 0 := ⟨fun o => absurd h o, fun _ m => absurd m n, fun _ _ g => absurd g (Int.not_le.2 l), fun _ _ _ => ⟨rfl, u⟩⟩

theorem Out.is_arg {ok neg : Prop} {v : Int} {r : List Int} {k : Int} (h : Out ok neg v r k) (o : ¬ ok) : k = 1 ∧ r = [] := h.is_arg' o
theorem Out.is_minus {ok neg : Prop} {v : Int} {r : List Int} {k : Int} (h : Out ok neg v r k) (o : ok) (n : neg) : k = 20 ∧ r = [] := h.is_minus' o n
theorem Out.is_big {ok neg : Prop} {v : Int} {r : List Int} {k : Int} (h : Out ok neg v r k) (o : ok) (n : ¬ neg) (g : Big ≤ v) : k = 21 ∧ r = [] := h.is_big' o n g
theorem Out.ok_num {ok neg : Prop} {v : Int} {r : List Int} {k : Int} (h : Out ok neg v r k) (o : ok) (n : ¬ neg) (g : v < Big) : k = 0 ∧ Num r v := h.is_fine' o n g

theorem Out.one {ok neg : Prop} {v : Int} {r s : List Int} {k l : Int} (h : Out ok neg v r k) (h' : Out ok neg v s l) : r = s ∧ k = l := by
  by_cases o : ok
  · by_cases n : neg
    · have a := h.is_minus o n
      have b := h'.is_minus o n
      exact ⟨a.2.trans b.2.symm, a.1.trans b.1.symm⟩
    · rcases Int.lt_or_le v Big with g | g
      · have a := h.ok_num o n g
        have b := h'.ok_num o n g
        exact ⟨a.2.one b.2, a.1.trans b.1.symm⟩
      · have a := h.is_big o n g
        have b := h'.is_big o n g
        exact ⟨a.2.trans b.2.symm, a.1.trans b.1.symm⟩
  · have a := h.is_arg o
    have b := h'.is_arg o
    exact ⟨a.2.trans b.2.symm, a.1.trans b.1.symm⟩

/-- What is told may be. -/
theorem Out.may {ok neg : Prop} {v : Int} {r : List Int} {k : Int} (h : Out ok neg v r k) : May r := by
  by_cases o : ok
  · by_cases n : neg
    · rw [(h.is_minus o n).2]; exact May.nil
    · rcases Int.lt_or_le v Big with g | g
      · exact (h.ok_num o n g).2.may.2 g
      · rw [(h.is_big o n g).2]; exact May.nil
  · rw [(h.is_arg o).2]; exact May.nil

end Go.Proofs.YtnedghhcidohnaaGreat

/-! Rows of halves of limbs as numbers: plain arithmetic, no program. -/
namespace Go.Proofs.YtnedghhcidohnaaGreat

/-- 2^42. -/
def HH : Int := 4294967296
theorem HH_pos : 0 < HH := by unfold HH; omega
theorem HH_BB : HH * HH = BB := by unfold HH BB; omega

/-- Each is half a limb. -/
def Halves (xs : List Int) : Prop := ∀ x ∈ xs, 0 ≤ x ∧ x < HH
theorem Halves.limbs {xs : List Int} (h : Halves xs) : Limbs xs := fun x hx => ⟨(h x hx).1, by have := (h x hx).2; unfold HH at this; unfold BB; omega⟩
theorem halves_snoc {xs : List Int} {x : Int} (h : Halves xs) (h0 : 0 ≤ x) (h1 : x < HH) : Halves (xs ++ [x]) := by
  intro y hy
  rcases List.mem_append.1 hy with h' | h'
  · exact h y h'
  · rw [List.mem_singleton.1 h']; exact ⟨h0, h1⟩
theorem half_bd {xs : List Int} (h : Halves xs) (k : Nat) : 0 ≤ lim xs k ∧ lim xs k < HH := by
  rw [lim_nat]
  by_cases hk : k < xs.length
  · rw [List.getD_eq_getElem?_getD, List.getElem?_eq_getElem hk]
    exact h _ (List.getElem_mem _)
  · rw [List.getD_eq_getElem?_getD, List.getElem?_eq_none (by omega)]
    exact ⟨by simp, by simpa using HH_pos⟩

/-- The number that a row of halves is. -/
def hval : List Int → Int
  | [] => 0
  | x :: xs => x + HH * hval xs

theorem hw_pos (k : Nat) : 0 < HH ^ k := Int.pow_pos HH_pos
theorem hw_succ (k : Nat) : HH ^ (k + 1) = HH ^ k * HH := Int.pow_succ ..
theorem hw_add (j k : Nat) : HH ^ (j + k) = HH ^ j * HH ^ k := Int.pow_add ..
theorem hw_two (k : Nat) : HH ^ (2 * k) = BB ^ k := by rw [Int.pow_mul, ← HH_BB]; congr 1
theorem hw_le {j k : Nat} (h : j ≤ k) : HH ^ j ≤ HH ^ k := by
  obtain ⟨d, rfl⟩ := Nat.le.dest h
  rw [hw_add]
  have h1 : (1 : Int) ≤ HH ^ d := hw_pos d
  have := Int.mul_le_mul_of_nonneg_left h1 (Int.le_of_lt (hw_pos j))
  simpa using this

theorem hval_snoc (xs : List Int) (x : Int) : hval (xs ++ [x]) = hval xs + x * HH ^ xs.length := by
  induction xs with
  | nil => simp [hval]
  | cons y ys ih =>
    simp only [List.cons_append, hval, ih, List.length_cons, hw_succ]
    grind

theorem hval_bd {xs : List Int} (h : Halves xs) : 0 ≤ hval xs ∧ hval xs < HH ^ xs.length := by
  induction xs with
  | nil => simp [hval]
  | cons x xs ih =>
    have hx := h x List.mem_cons_self
    have hi := ih (fun y hy => h y (List.mem_cons_of_mem _ hy))
    have hB := HH_pos
    refine ⟨?_, ?_⟩
    · simp only [hval]; have := Int.mul_nonneg (Int.le_of_lt hB) hi.1; omega
    · simp only [hval, List.length_cons, hw_succ]
      have h1 : hval xs + 1 ≤ HH ^ xs.length := hi.2
      have h2 := Int.mul_le_mul_of_nonneg_left h1 (Int.le_of_lt hB)
      rw [Int.mul_add, Int.mul_one] at h2
      rw [Int.mul_comm (HH ^ xs.length)]
      omega

/-- The first k halves, as a number. -/
def hpv (xs : List Int) : Nat → Int
  | 0 => 0
  | k + 1 => hpv xs k + lim xs k * HH ^ k

theorem hpv_bd {xs : List Int} (h : Halves xs) (k : Nat) : 0 ≤ hpv xs k ∧ hpv xs k < HH ^ k := by
  induction k with
  | zero => simp [hpv]
  | succ k ih =>
    have hl := half_bd h k
    have hp := hw_pos k
    simp only [hpv, hw_succ]
    have h1 : lim xs k + 1 ≤ HH := hl.2
    have h2 := Int.mul_le_mul_of_nonneg_right h1 (Int.le_of_lt hp)
    rw [Int.add_mul, Int.one_mul] at h2
    have h3 := Int.mul_nonneg hl.1 (Int.le_of_lt hp)
    rw [Int.mul_comm (HH ^ k) HH]
    omega

theorem hpv_cons (x : Int) (xs : List Int) (k : Nat) : hpv (x :: xs) (k + 1) = x + HH * hpv xs k := by
  induction k with
  | zero => simp [hpv, lim]
  | succ k ih =>
    rw [hpv, ih, hpv]
    have e : lim (x :: xs) ((k + 1 : Nat) : Int) = lim xs k := by rw [lim_nat, lim_nat]; simp
    rw [e, hw_succ]
    grind

theorem hpv_val (xs : List Int) (k : Nat) (h : xs.length ≤ k) : hpv xs k = hval xs := by
  induction xs generalizing k with
  | nil =>
    induction k with
    | zero => rfl
    | succ k ih => rw [hpv, ih (by simp), lim_past _ _ (by simp)]; simp
  | cons x xs ih =>
    obtain ⟨j, rfl⟩ : ∃ j, k = j + 1 := ⟨k - 1, by simp at h; omega⟩
    rw [hpv_cons, ih j (by simp at h; omega), hval]

theorem hpv_mono {xs : List Int} (h : Halves xs) {j k : Nat} (hjk : j ≤ k) : hpv xs j ≤ hpv xs k ∧ (hpv xs k < HH ^ j → hpv xs k = hpv xs j) := by
  induction k with
  | zero => obtain rfl : j = 0 := by omega
            exact ⟨Int.le_refl _, fun _ => rfl⟩
  | succ k ih =>
    by_cases e : j = k + 1
    · subst e; exact ⟨Int.le_refl _, fun _ => rfl⟩
    · have h1 := ih (by omega)
      have hl := half_bd h k
      have hp := hw_pos k
      have hn := Int.mul_nonneg hl.1 (Int.le_of_lt hp)
      have hb := (hpv_bd h k).1
      rw [hpv]
      refine ⟨by omega, fun hlt => ?_⟩
      have hz : lim xs k = 0 := by
        rcases Int.lt_or_eq_of_le hl.1 with h' | h'
        · exfalso
          have h2 : (1 : Int) * HH ^ k ≤ lim xs k * HH ^ k := Int.mul_le_mul_of_nonneg_right h' (Int.le_of_lt hp)
          have h3 := hw_le (show j ≤ k by omega)
          omega
        · exact h'.symm
      rw [hz] at hlt ⊢
      simp at hlt ⊢
      exact h1.2 hlt

/-- Limbs as halves. -/
def hd : List Int → List Int
  | [] => []
  | x :: xs => x % HH :: x / HH :: hd xs
theorem hd_length (xs : List Int) : (hd xs).length = 2 * xs.length := by
  induction xs with
  | nil => rfl
  | cons x xs ih => simp only [hd, List.length_cons, ih]; omega
theorem hd_append (xs ys : List Int) : hd (xs ++ ys) = hd xs ++ hd ys := by
  induction xs with
  | nil => rfl
  | cons x xs ih => simp only [List.cons_append, hd, ih]
theorem hd_halves {xs : List Int} (h : Limbs xs) : Halves (hd xs) := by
  induction xs with
  | nil => intro x hx; simp [hd] at hx
  | cons x xs ih =>
    intro y hy
    simp only [hd, List.mem_cons] at hy
    have hx := limbs_head h
    rcases hy with rfl | rfl | hy
    · exact ⟨Int.emod_nonneg _ (by have := HH_pos; omega), Int.emod_lt_of_pos _ HH_pos⟩
    · unfold HH BB at *; omega
    · exact ih (limbs_tail h) y hy
theorem hd_val (xs : List Int) : hval (hd xs) = val xs := by
  induction xs with
  | nil => rfl
  | cons x xs ih =>
    simp only [hd, hval, val, ih, ← HH_BB]
    have := Int.emod_add_mul_ediv x HH
    grind

theorem hd_take (xs : List Int) (k : Nat) (h : k < xs.length) : hd (xs.take (k + 1)) = hd (xs.take k) ++ [xs.getD k 0 % HH, xs.getD k 0 / HH] := by
  rw [List.take_succ_eq_append_getElem h, hd_append]
  simp [hd, h]

end Go.Proofs.YtnedghhcidohnaaGreat

/-! Division by guesses, as arithmetic: no program. -/
namespace Go.Proofs.YtnedghhcidohnaaGreat

/-- What a guess of half a limb holds: u is a rest by y = y1 * 2^42 + y0, x the half that comes down, q the guess, r what it leaves of u by y1. -/
structure Gs (y y1 y0 u x q r : Int) : Prop where
  eq : q * y1 + r = u
  least : (u * 4294967296 + x) / y ≤ q
  q0 : 0 ≤ q
  q1 : q ≤ 4294967297
  r0 : 0 ≤ r
  r1 : r < 4294967296

/-- A divisor with its highest bit. -/
structure Dv (y y1 y0 : Int) : Prop where
  eq : y = y1 * 4294967296 + y0
  a0 : 0 ≤ y0
  a1 : y0 < 4294967296
  b0 : 2147483648 ≤ y1
  b1 : y1 < 4294967296

theorem Dv.pos {y y1 y0 : Int} (h : Dv y y1 y0) : 0 < y := by have := h.eq; have := h.a0; have := h.b0; omega

theorem gs_start {y y1 y0 u x : Int} (h : Dv y y1 y0) (hu0 : 0 ≤ u) (hu : u < y) (hx0 : 0 ≤ x) (hx : x < 4294967296) : Gs y y1 y0 u x (u / y1) (u - u / y1 * y1) := by
  have hp := h.pos
  have e := h.eq
  have h1 : 0 < y1 := by have := h.b0; omega
  have hm := Int.emod_add_mul_ediv u y1
  have hm0 := Int.emod_nonneg u (show y1 ≠ 0 by omega)
  have hm1 := Int.emod_lt_of_pos u h1
  rw [Int.mul_comm] at hm
  have hb1 := h.b1
  have hb0 := h.b0
  have ha0 := h.a0
  have ha1 := h.a1
  refine ⟨by omega, ?_, Int.ediv_nonneg hu0 (by omega), ?_, by omega, by omega⟩
  · rw [Int.le_ediv_iff_mul_le h1]
    have hD := Int.ediv_mul_le (u * 4294967296 + x) (show y ≠ 0 by omega)
    have hD0 : 0 ≤ (u * 4294967296 + x) / y := Int.ediv_nonneg (by omega) (by omega)
    generalize (u * 4294967296 + x) / y = D at hD hD0 ⊢
    have h2 : D * y = D * y1 * 4294967296 + D * y0 := by rw [e, Int.mul_add, Int.mul_assoc]
    have h3 := Int.mul_nonneg hD0 ha0
    omega
  · have : u / y1 < 4294967298 := Int.ediv_lt_of_lt_mul h1 (by omega)
    omega

theorem gs_lt {y y1 y0 u x : Int} (h : Dv y y1 y0) (hu : u < y) (hx : x < 4294967296) : (u * 4294967296 + x) / y < 4294967296 := Int.ediv_lt_of_lt_mul h.pos (by omega)

theorem gs_prod {y y1 y0 u x q r : Int} (h : Dv y y1 y0) (g : Gs y y1 y0 u x q r) : q * y = (u - r) * 4294967296 + q * y0 := by
  have e := g.eq
  rw [h.eq, Int.mul_add, ← Int.mul_assoc, show q * y1 = u - r by omega]

theorem gs_small {y y1 y0 u x q r : Int} (h : Dv y y1 y0) (g : Gs y y1 y0 u x q r) : 0 ≤ q * y0 ∧ q * y0 ≤ 18446744073709551615 := by
  refine ⟨Int.mul_nonneg g.q0 h.a0, ?_⟩
  have := Int.mul_le_mul g.q1 (show y0 ≤ 4294967295 by have := h.a1; omega) h.a0 (by omega : (0 : Int) ≤ 4294967297)
  omega

/-- The guess is good. -/
theorem gs_stop {y y1 y0 u x q r : Int} (h : Dv y y1 y0) (g : Gs y y1 y0 u x q r) (ht : q * y0 ≤ 4294967296 * r + x) : q = (u * 4294967296 + x) / y := by
  have hp := gs_prod h g
  have : q ≤ (u * 4294967296 + x) / y := by rw [Int.le_ediv_iff_mul_le h.pos]; omega
  have := g.least
  omega

/-- The guess is too great. -/
theorem gs_more {y y1 y0 u x q r : Int} (h : Dv y y1 y0) (g : Gs y y1 y0 u x q r) (hu0 : 0 ≤ u) (hu : u < y) (hx0 : 0 ≤ x) (hx : x < 4294967296) (ht : 4294967296 ≤ q ∨ 4294967296 * r + x < q * y0) : (u * 4294967296 + x) / y ≤ q - 1 ∧ 1 ≤ q := by
  have hp := gs_prod h g
  have h0 : 0 ≤ (u * 4294967296 + x) / y := Int.ediv_nonneg (by omega) (by have := h.pos; omega)
  have h1 : (u * 4294967296 + x) / y < q := by
    rcases ht with ht | ht
    · have := gs_lt h hu hx; omega
    · rw [Int.ediv_lt_iff_lt_mul h.pos]; omega
  omega

theorem gs_next {y y1 y0 u x q r : Int} (h : Dv y y1 y0) (g : Gs y y1 y0 u x q r) (hm : (u * 4294967296 + x) / y ≤ q - 1 ∧ 1 ≤ q) (hr : r + y1 < 4294967296) : Gs y y1 y0 u x (q - 1) (r + y1) := by
  have e := g.eq
  have := g.r0
  have := h.b0
  have := g.q1
  refine ⟨?_, hm.1, by omega, by omega, by omega, hr⟩
  rw [Int.sub_mul]
  omega

theorem gs_break {y y1 y0 u x q r : Int} (h : Dv y y1 y0) (g : Gs y y1 y0 u x q r) (hx0 : 0 ≤ x) (hm : (u * 4294967296 + x) / y ≤ q - 1 ∧ 1 ≤ q) (hr : 4294967296 ≤ r + y1) : q - 1 = (u * 4294967296 + x) / y := by
  have e := g.eq
  have hq1 := g.q1
  have h1 : (q - 1) * y = (u - (r + y1)) * 4294967296 + (q - 1) * y0 := by
    rw [h.eq, Int.mul_add, ← Int.mul_assoc, show (q - 1) * y1 = u - (r + y1) by rw [Int.sub_mul]; omega]
  have h2 := Int.mul_le_mul (show q - 1 ≤ 4294967296 by omega) (show y0 ≤ 4294967295 by have := h.a1; omega) h.a0 (by omega : (0 : Int) ≤ 4294967296)
  have : q - 1 ≤ (u * 4294967296 + x) / y := by rw [Int.le_ediv_iff_mul_le h.pos]; omega
  omega

theorem two_halves {y hi l1 l0 q1 q0 v : Int} (hy : 0 < y) (hv : v = hi * 4294967296 + l1 - q1 * y) (h0 : q0 = (v * 4294967296 + l0) / y) : q1 * 4294967296 + q0 = (hi * BB + (l1 * 4294967296 + l0)) / y := by
  have e : hi * BB + (l1 * 4294967296 + l0) = (v * 4294967296 + l0) + (q1 * 4294967296) * y := by
    rw [hv]; unfold BB
    have : q1 * 4294967296 * y = q1 * y * 4294967296 := by rw [Int.mul_assoc, Int.mul_comm 4294967296, ← Int.mul_assoc]
    omega
  rw [e, Int.add_mul_ediv_right _ _ (by omega), ← h0]
  omega

/-- The rest behind the first half. -/
theorem rest_bd {y u x q : Int} (hy : 0 < y) (hq : q = (u * 4294967296 + x) / y) : 0 ≤ u * 4294967296 + x - q * y ∧ u * 4294967296 + x - q * y < y := by
  subst hq
  have := Int.emod_add_mul_ediv (u * 4294967296 + x) y
  have h0 := Int.emod_nonneg (u * 4294967296 + x) (show y ≠ 0 by omega)
  have h1 := Int.emod_lt_of_pos (u * 4294967296 + x) hy
  rw [Int.mul_comm y] at this
  omega

theorem dv_of {y : Int} (h0 : 9223372036854775808 ≤ y) (h1 : y < BB) : Dv y (y / 4294967296) (y % 4294967296) := by
  unfold BB at h1
  exact ⟨by omega, by omega, by omega, by omega, by omega⟩

/-! ### rows -/

theorem val_set (os : List Int) (j : Nat) (v : Int) (h : j < os.length) : val (os.set j v) = val os + (v - lim os j) * BB ^ j := by
  induction os generalizing j with
  | nil => simp at h
  | cons x xs ih =>
    cases j with
    | zero => simp [val, lim]; omega
    | succ j =>
      have e : lim (x :: xs) ((j + 1 : Nat) : Int) = lim xs j := by rw [lim_nat, lim_nat]; simp
      rw [List.set_cons_succ, val, val, ih j (by simp at h; omega), e, pw_succ]
      grind

theorem val_zeros0 (k : Nat) : val (List.replicate k 0) = 0 := by
  induction k with
  | zero => rfl
  | succ k ih => rw [List.replicate_succ, val, ih]; simp
theorem limbs_zeros (k : Nat) : Limbs (List.replicate k 0) := fun x hx => by rw [List.eq_of_mem_replicate hx]; exact ⟨Int.le_refl _, BB_pos⟩
theorem limbs_set {os : List Int} (h : Limbs os) (j : Nat) {v : Int} (h0 : 0 ≤ v) (h1 : v < BB) : Limbs (os.set j v) := by
  intro x hx
  rcases List.mem_or_eq_of_mem_set hx with h' | h'
  · exact h x h'
  · rw [h']; exact ⟨h0, h1⟩
theorem limbs_drop {xs : List Int} (h : Limbs xs) (m : Nat) : Limbs (xs.drop m) := fun y hy => h y (List.mem_of_mem_drop hy)

theorem val_split (xs : List Int) (k : Nat) (h : k ≤ xs.length) : val xs = pv xs k + val (xs.drop k) * BB ^ k := by
  induction k with
  | zero => simp [pv]
  | succ k ih =>
    rw [ih (by omega), pv, pw_succ]
    have e : xs.drop k = lim xs k :: xs.drop (k + 1) := by
      rw [lim_nat, List.drop_eq_getElem_cons (by omega)]
      simp [show k < xs.length by omega]
    rw [e, val]
    grind

theorem Num.len {r : List Int} {v : Int} (h : Num r v) (n : Nat) (h0 : BB ^ n ≤ v) (h1 : v < BB ^ (n + 1)) : r.length = n + 1 := by
  have hb := (val_bd h.limbs).2
  rw [h.val] at hb
  rcases Nat.lt_or_ge r.length (n + 1) with hl | hl
  · have := pw_le (show r.length ≤ n by omega); omega
  · rcases Nat.lt_or_ge (n + 1) r.length with hg | hg
    · obtain ⟨m, hm⟩ : ∃ m, r.length = m + 1 := ⟨r.length - 1, by omega⟩
      have h2 := val_ge h.limbs h.trim m hm
      rw [h.val] at h2
      have := pw_le (show n + 1 ≤ m by omega)
      omega
    · omega

theorem top_split {r : List Int} {n : Nat} (h : r.length = n + 1) : val r = pv r n + lim r n * BB ^ n := by rw [← pv_val r (n + 1) (by omega), pv]

/-- A divisor that is shifted so that its highest bit is set. -/
theorem norm_len {b r : List Int} {n : Nat} {P : Int} (hb : Limbs b) (hn : b.length = n + 1) (hP : 0 < P) (h0 : 9223372036854775808 ≤ lim b n * P) (h1 : (lim b n + 1) * P ≤ BB) (hr : Num r (val b * P)) :
    r.length = n + 1 ∧ 9223372036854775808 ≤ lim r n := by
  have hs := top_split hn
  have hp := pv_bd hb n
  have hpw := pw_pos n
  have e1 : val b * P = pv b n * P + lim b n * P * BB ^ n := by rw [hs]; grind
  have l1 : 9223372036854775808 * BB ^ n ≤ lim b n * P * BB ^ n := Int.mul_le_mul_of_nonneg_right h0 (Int.le_of_lt hpw)
  have l2 := Int.mul_nonneg hp.1 (Int.le_of_lt hP)
  have u1 : (lim b n + 1) * P * BB ^ n ≤ BB * BB ^ n := Int.mul_le_mul_of_nonneg_right h1 (Int.le_of_lt hpw)
  have u2 : (pv b n + 1) * P ≤ BB ^ n * P := Int.mul_le_mul_of_nonneg_right (by omega) (Int.le_of_lt hP)
  have u3 : (lim b n + 1) * P * BB ^ n = lim b n * P * BB ^ n + BB ^ n * P := by grind
  have u4 : (pv b n + 1) * P = pv b n * P + P := by grind
  have u5 : BB ^ (n + 1) = BB * BB ^ n := by rw [pw_succ, Int.mul_comm]
  have hlen := hr.len n (by omega) (by omega)
  refine ⟨hlen, ?_⟩
  have hs2 := top_split hlen
  have hp2 := (pv_bd hr.limbs n).2
  rw [hr.val] at hs2
  rcases Int.lt_or_le (lim r n) 9223372036854775808 with hl | hl
  · have : (lim r n + 1) * BB ^ n ≤ 9223372036854775808 * BB ^ n := Int.mul_le_mul_of_nonneg_right (by omega) (Int.le_of_lt hpw)
    rw [Int.add_mul, Int.one_mul] at this
    omega
  · exact hl

/-- A guess by the highest limbs is not too small. -/
theorem guess_least {R B : List Int} {n : Nat} {V G : Int} (hR : Limbs R) (lR : R.length = n + 1 + 1) (hB : Limbs B) (lB : B.length = n + 1) (hV : V = val B) (hd : 9223372036854775808 ≤ lim B n)
    (hG : G = (lim R (n + 1 : Nat) * BB + lim R n) / lim B n) : val R / V ≤ G := by
  have hpw := pw_pos n
  have hsB := top_split lB
  have hpB := (pv_bd hB n).1
  have hsR := top_split lR
  have hpR := (pv_bd hR n).2
  rw [pv, pw_succ] at hsR
  have hvR := (val_bd hR).1
  have h1 : lim B n * BB ^ n ≤ V := by omega
  have hVp : 0 < V := by
    have := Int.mul_pos (show 0 < lim B n by omega) hpw
    omega
  have hD := Int.ediv_mul_le (val R) (show V ≠ 0 by omega)
  have hD0 : 0 ≤ val R / V := Int.ediv_nonneg hvR (by omega)
  rw [hG, Int.le_ediv_iff_mul_le (by omega)]
  generalize val R / V = D at hD hD0 ⊢
  have h2 := Int.mul_le_mul_of_nonneg_left h1 hD0
  rw [← Int.mul_assoc] at h2
  have e : (lim R (n + 1 : Nat) * BB + lim R n) * BB ^ n = lim R n * BB ^ n + lim R (n + 1 : Nat) * (BB ^ n * BB) := by grind
  have h3 : D * lim B n * BB ^ n < (lim R (n + 1 : Nat) * BB + lim R n + 1) * BB ^ n := by
    rw [Int.add_mul _ 1, Int.one_mul, e]
    omega
  have := Int.lt_of_mul_lt_mul_right h3 (Int.le_of_lt hpw)
  omega

/-- What the loop of divide holds ahead of the place k - 1. -/
structure DivInv (A : List Int) (V : Int) (n m k : Nat) (qs rs : List Int) : Prop where
  len : qs.length = m
  limbs : Limbs qs
  rlimbs : Limbs rs
  rlt : val rs < V
  rlen : rs.length ≤ n
  zeros : ∀ j : Nat, j < k → lim qs j = 0
  eq : val A = val qs * V + val rs * BB ^ k + pv A k

theorem lim_zeros (m j : Nat) : lim (List.replicate m 0) j = 0 := by
  rw [lim_nat, List.getD_eq_getElem?_getD]
  by_cases h : j < m
  · simp [h]
  · simp [h]

theorem div_start {A B : List Int} {n m : Nat} {V : Int} (hA : Limbs A) (hB : Limbs B) (lB : B.length = n + 1) (tB : Trim B) (hV : V = val B) (hm : m = A.length - n) :
    DivInv A V (n + 1) m m (List.replicate m 0) (A.drop m) := by
  have hge := val_ge hB tB n lB
  have hl : (A.drop m).length ≤ n := by simp; omega
  have hb := (val_bd (limbs_drop hA m)).2
  refine ⟨by simp, limbs_zeros _, limbs_drop hA m, ?_, by omega, fun j _ => lim_zeros m j, ?_⟩
  · have := pw_le hl
    omega
  · rw [val_zeros0, val_split A m (by omega)]
    omega

theorem val_row (x : Int) (rs : List Int) : val (x :: rs) = x + BB * val rs := rfl

theorem div_row {A : List Int} {V : Int} {n m k : Nat} {qs rs : List Int} (h : DivInv A V n m (k + 1) qs rs) (hA : Limbs A) : 0 ≤ lim A k + BB * val rs ∧ (lim A k + BB * val rs) / V < BB := by
  have hl := lim_bd hA k
  have hv := (val_bd h.rlimbs).1
  have hB := BB_pos
  have h1 := Int.mul_nonneg (Int.le_of_lt hB) hv
  refine ⟨by omega, ?_⟩
  have h2 : val rs + 1 ≤ V := h.rlt
  have h3 := Int.mul_le_mul_of_nonneg_left h2 (Int.le_of_lt hB)
  rw [Int.mul_add, Int.mul_one] at h3
  exact Int.ediv_lt_of_lt_mul (by omega) (by omega)

theorem div_next {A : List Int} {V : Int} {n m k : Nat} {qs rs ls : List Int} {d : Int} (h : DivInv A V n m (k + 1) qs rs) (hA : Limbs A) (hk : k < m) (hV : V < BB ^ n) (hd : d = (lim A k + BB * val rs) / V) (hls : Num ls (lim A k + BB * val rs - V * d)) :
    DivInv A V n m k (qs.set k d) ls := by
  have hr := div_row h hA
  have hVp : 0 < V := by have := h.rlt; have := (val_bd h.rlimbs).1; omega
  have hd0 : 0 ≤ d := by rw [hd]; exact Int.ediv_nonneg hr.1 (by omega)
  have hlt : lim A k + BB * val rs - V * d < V := by
    have h1 := Int.emod_add_mul_ediv (lim A k + BB * val rs) V
    have h2 := Int.emod_lt_of_pos (lim A k + BB * val rs) hVp
    rw [← hd] at h1
    omega
  refine ⟨by simp [h.len], limbs_set h.limbs k hd0 (by rw [hd]; exact hr.2), hls.limbs, by rw [hls.val]; exact hlt, ?_, ?_, ?_⟩
  · rcases Nat.lt_or_ge n ls.length with hg | hg
    · obtain ⟨j, hj⟩ : ∃ j, ls.length = j + 1 := ⟨ls.length - 1, by omega⟩
      have h1 := val_ge hls.limbs hls.trim j hj
      rw [hls.val] at h1
      have := pw_le (show n ≤ j by omega)
      omega
    · exact hg
  · intro j hj
    have := h.zeros j (by omega)
    rw [lim_nat] at this ⊢
    rw [List.getD_eq_getElem?_getD, List.getElem?_set_ne (by omega), ← List.getD_eq_getElem?_getD]
    exact this
  · rw [val_set qs k d (by rw [h.len]; exact hk), h.zeros k (by omega), hls.val, h.eq, pv, pw_succ]
    grind

theorem div_end {A qs rs : List Int} {n m : Nat} {a b P V : Int} (h : DivInv A V n m 0 qs rs) (hP : 0 < P) (hb : 0 < b) (hA : val A = a * P) (hV : V = b * P) : val qs = a / b ∧ val rs / P = a % b ∧ 0 ≤ val rs := by
  have e := h.eq
  simp only [pv, Int.pow_zero, Int.mul_one, Int.add_zero] at e
  rw [hA, hV] at e
  have hlt := h.rlt
  rw [hV] at hlt
  have h0 := (val_bd h.rlimbs).1
  generalize val qs = Q at e ⊢
  generalize val rs = r at e hlt h0 ⊢
  have hr : r = (a - Q * b) * P := by grind
  have ht0 : 0 ≤ a - Q * b := by
    rcases Int.lt_or_le (a - Q * b) 0 with hl | hl
    · have := Int.mul_pos (show 0 < -(a - Q * b) by omega) hP
      rw [Int.neg_mul] at this
      omega
    · exact hl
  have ht1 : a - Q * b < b := by
    rw [hr] at hlt
    exact Int.lt_of_mul_lt_mul_right hlt (Int.le_of_lt hP)
  have e2 : a = (a - Q * b) + b * Q := by rw [Int.mul_comm b]; omega
  refine ⟨?_, ?_, h0⟩
  · rw [e2, Int.add_mul_ediv_left _ _ (by omega), Int.ediv_eq_zero_of_lt ht0 ht1]; omega
  · rw [hr, Int.mul_ediv_cancel _ (by omega)]
    conv => rhs; rw [e2]
    rw [Int.add_mul_emod_self_left, Int.emod_eq_of_lt ht0 ht1]

end Go.Proofs.YtnedghhcidohnaaGreat

/-! What layer 3 tells, as arithmetic: quotients, what two have in common, what both divide. No program. -/
namespace Go.Proofs.YtnedghhcidohnaaGreat

/-- The greatest number by which both can be divided. -/
def gcdI (a b : Int) : Int := (Nat.gcd a.toNat b.toNat : Nat)
/-- The least number that can be divided by both. -/
def lcmI (a b : Int) : Int := a / gcdI a b * b

theorem gcdI_nonneg (a b : Int) : 0 ≤ gcdI a b := Int.natCast_nonneg _
theorem gcdI_zero {a : Int} (h : 0 ≤ a) : gcdI a 0 = a := by unfold gcdI; simp; omega
theorem gcdI_zero_left {a : Int} (h : 0 ≤ a) : gcdI 0 a = a := by unfold gcdI; simp; omega
theorem gcdI_step {a b : Int} (ha : 0 ≤ a) (hb : 0 ≤ b) : gcdI a b = gcdI b (a % b) := by
  unfold gcdI
  rw [Int.toNat_emod ha hb, Nat.gcd_comm b.toNat, ← Nat.gcd_rec, Nat.gcd_comm]
theorem gcdI_le {a b : Int} (ha : 0 < a) : gcdI a b ≤ a := by
  unfold gcdI
  have := Nat.gcd_le_left b.toNat (show 0 < a.toNat by omega)
  omega
theorem gcdI_pos {a b : Int} (h : 0 < a) : 0 < gcdI a b := by
  unfold gcdI
  have := Nat.gcd_pos_of_pos_left b.toNat (show 0 < a.toNat by omega)
  omega
theorem gcdI_comm (a b : Int) : gcdI a b = gcdI b a := by unfold gcdI; rw [Nat.gcd_comm]
theorem gcdI_lt {a b B : Int} (ha : 0 ≤ a) (hb : 0 ≤ b) (hA : a < B) (hB : b < B) : gcdI a b < B := by
  rcases Int.lt_or_eq_of_le ha with h | h
  · have := gcdI_le (b := b) h; omega
  · rw [← h, gcdI_zero_left hb]; exact hB
theorem gcdI_dvd {a b : Int} (ha : 0 < a) (hb : 0 ≤ b) : ∃ p q, 0 < p ∧ 0 ≤ q ∧ a = gcdI a b * p ∧ b = gcdI a b * q ∧ gcdI p q = 1 := by
  obtain ⟨A, rfl⟩ := Int.eq_ofNat_of_zero_le (Int.le_of_lt ha)
  obtain ⟨B, rfl⟩ := Int.eq_ofNat_of_zero_le hb
  have hA : 0 < A := by omega
  have hg : 0 < Nat.gcd A B := Nat.gcd_pos_of_pos_left B hA
  have h1 := Nat.mul_div_cancel' (Nat.gcd_dvd_left A B)
  have h2 := Nat.mul_div_cancel' (Nat.gcd_dvd_right A B)
  have hp : 0 < A / Nat.gcd A B := by
    rcases Nat.eq_zero_or_pos (A / Nat.gcd A B) with h | h
    · rw [h] at h1; simp at h1; omega
    · exact h
  refine ⟨((A / Nat.gcd A B : Nat) : Int), ((B / Nat.gcd A B : Nat) : Int), by exact_mod_cast hp, Int.natCast_nonneg _, ?_, ?_, ?_⟩
  · unfold gcdI
    rw [Int.toNat_natCast, Int.toNat_natCast]
    exact_mod_cast h1.symm
  · unfold gcdI
    rw [Int.toNat_natCast, Int.toNat_natCast]
    exact_mod_cast h2.symm
  · unfold gcdI
    rw [Int.toNat_natCast, Int.toNat_natCast, Nat.gcd_div (Nat.gcd_dvd_left A B) (Nat.gcd_dvd_right A B), Nat.div_self hg]
    rfl

/-- What a call of Div tells. -/
structure DivOut (xs ys : List Int) (q r : List Int) (k : Int) : Prop where
  is_arg : ¬ (May xs ∧ May ys) → k = 1 ∧ q = [] ∧ r = []
  is_zero : May xs ∧ May ys → val ys = 0 → k = 30 ∧ q = [] ∧ r = []
  is_fine : May xs ∧ May ys → val ys ≠ 0 → k = 0 ∧ Num q (val xs / val ys) ∧ Num r (val xs % val ys)

theorem DivOut.arg {xs ys : List Int} (h : ¬ (May xs ∧ May ys)) : DivOut xs ys [] [] 1 := ⟨fun _ => ⟨rfl, rfl, rfl⟩, fun o => absurd o h, fun o => absurd o h⟩
theorem DivOut.zero {xs ys : List Int} (h : May xs ∧ May ys) (z : val ys = 0) : DivOut xs ys [] [] 30 := ⟨fun o => absurd h o, fun _ _ => ⟨rfl, rfl, rfl⟩, fun _ n => absurd z n⟩
theorem DivOut.fine {xs ys q r : List Int} (h : May xs ∧ May ys) (z : val ys ≠ 0) (hq : Num q (val xs / val ys)) (hr : Num r (val xs % val ys)) : DivOut xs ys q r 0 := ⟨fun o => absurd h o, fun _ n => absurd n z, fun _ _ => ⟨rfl, hq, hr⟩⟩

theorem DivOut.one {xs ys q r q' r' : List Int} {k k' : Int} (h : DivOut xs ys q r k) (h' : DivOut xs ys q' r' k') : q = q' ∧ r = r' ∧ k = k' := by
  by_cases o : May xs ∧ May ys
  · by_cases z : val ys = 0
    · have a := h.is_zero o z
      have b := h'.is_zero o z
      exact ⟨a.2.1.trans b.2.1.symm, a.2.2.trans b.2.2.symm, a.1.trans b.1.symm⟩
    · have a := h.is_fine o z
      have b := h'.is_fine o z
      exact ⟨a.2.1.one b.2.1, a.2.2.one b.2.2, a.1.trans b.1.symm⟩
  · have a := h.is_arg o
    have b := h'.is_arg o
    exact ⟨a.2.1.trans b.2.1.symm, a.2.2.trans b.2.2.symm, a.1.trans b.1.symm⟩

/-- What a call of Small tells. -/
structure SmallOut (xs : List Int) (n : Int) (q : List Int) (r k : Int) : Prop where
  is_arg : ¬ May xs → k = 1 ∧ q = [] ∧ r = 0
  is_zero : May xs → n = 0 → k = 30 ∧ q = [] ∧ r = 0
  is_fine : May xs → n ≠ 0 → k = 0 ∧ Num q (val xs / n) ∧ r = val xs % n

theorem SmallOut.one {xs q q' : List Int} {n r k r' k' : Int} (h : SmallOut xs n q r k) (h' : SmallOut xs n q' r' k') : q = q' ∧ r = r' ∧ k = k' := by
  by_cases o : May xs
  · by_cases z : n = 0
    · have a := h.is_zero o z
      have b := h'.is_zero o z
      exact ⟨a.2.1.trans b.2.1.symm, a.2.2.trans b.2.2.symm, a.1.trans b.1.symm⟩
    · have a := h.is_fine o z
      have b := h'.is_fine o z
      exact ⟨a.2.1.one b.2.1, a.2.2.trans b.2.2.symm, a.1.trans b.1.symm⟩
  · have a := h.is_arg o
    have b := h'.is_arg o
    exact ⟨a.2.1.trans b.2.1.symm, a.2.2.trans b.2.2.symm, a.1.trans b.1.symm⟩

/-- Small's answer is Div's by the natural n; its rest is a limb, or nothing. -/
theorem SmallOut.of {xs ys q r : List Int} {n k : Int} (hn : Num ys n) (hB : n < BB) (h : DivOut xs ys q r k) : SmallOut xs n q (lim r 0) k := by
  have hbb := Big_BB
  have my : May ys := hn.may.2 (by omega)
  have hv := hn.val
  have h0 := hn.nonneg
  refine ⟨fun o => ?_, fun o z => ?_, fun o z => ?_⟩
  · have a := h.is_arg (fun c => o c.1)
    rw [a.2.2]; exact ⟨a.1, a.2.1, rfl⟩
  · have a := h.is_zero ⟨o, my⟩ (by omega)
    rw [a.2.2]; exact ⟨a.1, a.2.1, rfl⟩
  · have a := h.is_fine ⟨o, my⟩ (by omega)
    rw [hv] at a
    refine ⟨a.1, a.2.1, ?_⟩
    have hr := a.2.2
    have hm := Int.emod_lt_of_pos (val xs) (show 0 < n by omega)
    have hl : r.length ≤ 1 := by
      rcases Nat.lt_or_ge 1 r.length with hg | hg
      · obtain ⟨j, hj⟩ : ∃ j, r.length = j + 1 := ⟨r.length - 1, by omega⟩
        have h1 := val_ge hr.limbs hr.trim j hj
        rw [hr.val] at h1
        have h2 := pw_le (show 1 ≤ j by omega)
        rw [Int.pow_succ, Int.pow_zero, Int.one_mul] at h2
        omega
      · exact hg
    rw [← hr.val, ← pv_val r 1 hl]
    simp [pv]

theorem num_len_zero {r : List Int} {v : Int} (h : Num r v) : r.length = 0 ↔ v = 0 := by
  constructor
  · intro hl
    rw [← h.val, List.length_eq_zero_iff.1 hl]; rfl
  · intro hv
    rw [zero_of_val h.limbs h.trim (h.val.trans hv)]; rfl

theorem lcmI_zero_left (b : Int) : lcmI 0 b = 0 := by unfold lcmI; simp
theorem lcmI_zero_right (a : Int) : lcmI a 0 = 0 := by unfold lcmI; simp

end Go.Proofs.YtnedghhcidohnaaGreat

/-! Numbers in lowest terms, as arithmetic: no program. -/
namespace Go.Proofs.YtnedghhcidohnaaGreat

/-- A number, by its parts. -/
structure RatL where
  neg : Bool
  num : List Int
  den : List Int

def rat0 : RatL := ⟨false, [], []⟩

/-- A number with a sign. -/
def sg (neg : Bool) (v : Int) : Int := if neg then -v else v
def RatL.top (a : RatL) : Int := sg a.neg (val a.num)
def RatL.bot (a : RatL) : Int := val a.den
/-- Its parts are limbs. -/
def LimR (a : RatL) : Prop := Limbs a.num ∧ Limbs a.den

/-- It is the one way to write its number. -/
structure MayR (a : RatL) : Prop where
  num : May a.num
  den : May a.den
  pos : val a.den ≠ 0
  low : gcdI (val a.num) (val a.den) = 1
  sign : a.neg = true → val a.num ≠ 0

theorem sg_abs (neg : Bool) {v : Int} (h : 0 ≤ v) : ((sg neg v).natAbs : Int) = v := by
  unfold sg; cases neg <;> simp <;> omega
theorem sg_zero (neg : Bool) {v : Int} : sg neg v = 0 ↔ v = 0 := by
  unfold sg; cases neg <;> simp
theorem sg_mul (neg : Bool) (v c : Int) : sg neg (v * c) = sg neg v * c := by
  unfold sg; cases neg <;> simp [Int.neg_mul]

theorem MayR.bot_pos {a : RatL} (h : MayR a) (l : LimR a) : 0 < a.bot := by
  have := (val_bd l.2).1
  have := h.pos
  unfold RatL.bot
  omega

theorem mayR_ex (a : RatL) : ∃ b : Bool, (b = true ↔ MayR a) := by
  by_cases h : MayR a
  · exact ⟨true, yes_iff h⟩
  · exact ⟨false, no_iff h⟩

theorem gcd_cut {t b n d m : Int} (ht : ((t.natAbs : Nat) : Int) = n) (hb : 0 < b) (hg : gcdI n b = 1) (h : t * d = m * b) : b ∣ d := by
  have h1 : b.natAbs ∣ t.natAbs * d.natAbs := by
    rw [← Int.natAbs_mul, h, Int.natAbs_mul]
    exact Nat.dvd_mul_left _ _
  have hc : Nat.Coprime b.natAbs t.natAbs := by
    unfold gcdI at hg
    have e1 : n.toNat = t.natAbs := by omega
    have e2 : b.toNat = b.natAbs := by omega
    rw [e1, e2] at hg
    unfold Nat.Coprime
    rw [Nat.gcd_comm]
    omega
  exact Int.natAbs_dvd_natAbs.1 (hc.dvd_of_dvd_mul_left h1)

/-- r is the number N by D. -/
structure Is (r : RatL) (N D : Int) : Prop where
  may : MayR r
  lim : LimR r
  pos : 0 < D
  eq : r.top * D = N * r.bot

theorem Is.parts {r : RatL} {N D : Int} (h : Is r N D) : ∃ c, 0 < c ∧ D = r.bot * c ∧ N = r.top * c := by
  have hb := h.may.bot_pos h.lim
  have hv := (val_bd h.lim.1).1
  obtain ⟨c, hc⟩ := gcd_cut (t := r.top) (sg_abs r.neg hv) hb h.may.low h.eq
  have hc0 : 0 < c := by
    rcases Int.lt_or_le 0 c with h' | h'
    · exact h'
    · have h2 := Int.mul_le_mul_of_nonneg_left h' (Int.le_of_lt hb)
      rw [Int.mul_zero] at h2
      have h3 : r.bot * c ≤ 0 := h2
      have := h.pos
      have h4 : D = r.bot * c := hc
      omega
  refine ⟨c, hc0, hc, ?_⟩
  have he := h.eq
  have hD : D = r.bot * c := hc
  rw [hD] at he
  have h5 : (r.top * c) * r.bot = N * r.bot := by rw [← he]; grind
  exact (Int.eq_of_mul_eq_mul_right (by omega) h5).symm

theorem rat_one {r s : RatL} (h : MayR r) (k : MayR s) (l : LimR r) (m : LimR s) (ht : r.top = s.top) (hb : r.bot = s.bot) : r = s := by
  have v1 := (val_bd l.1).1
  have v2 := (val_bd m.1).1
  have hv : val r.num = val s.num := by
    have a := sg_abs r.neg v1
    have b := sg_abs s.neg v2
    unfold RatL.top at ht
    rw [ht] at a
    omega
  have hn : r.num = s.num := row_one l.1 h.num.2 m.1 k.num.2 hv
  have hd : r.den = s.den := row_one l.2 h.den.2 m.2 k.den.2 hb
  have hs : r.neg = s.neg := by
    have h1 := h.sign
    have h2 := k.sign
    unfold RatL.top sg at ht
    cases e1 : r.neg <;> cases e2 : s.neg <;> simp [e1, e2] at h1 h2 ht <;> first | rfl | omega
  cases r
  cases s
  simp_all

theorem Is.cross {r s : RatL} {N D M E : Int} (h : Is r N D) (k : Is s M E) : ∃ c, 0 < c ∧ N * E = (r.top * s.bot) * c ∧ M * D = (s.top * r.bot) * c := by
  obtain ⟨c, c0, hD, hN⟩ := h.parts
  obtain ⟨d, d0, hE, hM⟩ := k.parts
  refine ⟨c * d, Int.mul_pos c0 d0, ?_, ?_⟩
  · rw [hN, hE]; grind
  · rw [hM, hD]; grind

theorem Is.one {r s : RatL} {N D M E : Int} (h : Is r N D) (k : Is s M E) (e : N * E = M * D) : r = s := by
  have hx : r.top * s.bot = s.top * r.bot := by
    obtain ⟨c, c0, h1, h2⟩ := h.cross k
    rw [h1, h2] at e
    exact Int.eq_of_mul_eq_mul_right (by omega) e
  have h1 : Is r s.top s.bot := ⟨h.may, h.lim, k.may.bot_pos k.lim, hx⟩
  have h2 : Is s r.top r.bot := ⟨k.may, k.lim, h.may.bot_pos h.lim, hx.symm⟩
  obtain ⟨c, c0, a1, a2⟩ := h1.parts
  obtain ⟨d, d0, b1, b2⟩ := h2.parts
  have hb := h.may.bot_pos h.lim
  have hcd : r.bot * (c * d) = r.bot * 1 := by
    rw [a1] at b1
    grind
  have h3 : c * d = 1 := Int.eq_of_mul_eq_mul_left (by omega) hcd
  have hc : c = 1 := by
    have := Int.mul_le_mul_of_nonneg_left (show 1 ≤ d by omega) (show 0 ≤ c by omega)
    omega
  rw [hc, Int.mul_one] at a1 a2
  exact rat_one h.may k.may h.lim k.lim a2.symm a1.symm

theorem Is.self {r : RatL} (h : MayR r) (l : LimR r) : Is r r.top r.bot := ⟨h, l, h.bot_pos l, rfl⟩
theorem Is.same {r : RatL} {N D M E : Int} (h : Is r N D) (hE : 0 < E) (e : N * E = M * D) : Is r M E := by
  refine ⟨h.may, h.lim, hE, ?_⟩
  obtain ⟨c, c0, hD, hN⟩ := h.parts
  rw [hD, hN] at e
  have : (r.top * E) * c = (M * r.bot) * c := by grind
  exact Int.eq_of_mul_eq_mul_right (by omega) this

/-- The parts are no greater than whatever the number was made of. -/
theorem Is.le {r : RatL} {N D : Int} (h : Is r N D) : val r.num ≤ N.natAbs ∧ r.bot ≤ D := by
  obtain ⟨c, c0, hD, hN⟩ := h.parts
  have hb := h.may.bot_pos h.lim
  have hv := (val_bd h.lim.1).1
  have ha := sg_abs r.neg hv
  constructor
  · rw [hN, Int.natAbs_mul]
    have h1 : (r.top.natAbs : Int) = val r.num := ha
    have h2 := Int.mul_le_mul_of_nonneg_left (show 1 ≤ c by omega) hv
    have h3 : ((r.top.natAbs * c.natAbs : Nat) : Int) = val r.num * c := by
      rw [Int.natCast_mul, h1]
      congr 1
      omega
    rw [h3]
    omega
  · rw [hD]
    have h2 := Int.mul_le_mul_of_nonneg_left (show 1 ≤ c by omega) (Int.le_of_lt hb)
    omega

/-- What a call on two numbers tells. -/
structure OpOut (ok tb : Prop) (N D : Int) (r : RatL) (k : Int) : Prop where
  arg : ¬ ok → k = 1 ∧ r = rat0
  big : ok → tb → k = 21 ∧ r = rat0
  fine : ok → ¬ tb → k = 0 ∧ Is r N D

theorem OpOut.one {ok tb : Prop} {N D : Int} {r s : RatL} {k l : Int} (h : OpOut ok tb N D r k) (h' : OpOut ok tb N D s l) : r = s ∧ k = l := by
  by_cases o : ok
  · by_cases b : tb
    · exact ⟨(h.big o b).2.trans (h'.big o b).2.symm, (h.big o b).1.trans (h'.big o b).1.symm⟩
    · exact ⟨(h.fine o b).2.one (h'.fine o b).2 rfl, (h.fine o b).1.trans (h'.fine o b).1.symm⟩
  · exact ⟨(h.arg o).2.trans (h'.arg o).2.symm, (h.arg o).1.trans (h'.arg o).1.symm⟩

/-- What Make tells. -/
structure MakeOut (neg : Bool) (xs ys : List Int) (r : RatL) (k : Int) : Prop where
  arg : ¬ (May xs ∧ May ys) → k = 1 ∧ r = rat0
  zero : May xs ∧ May ys → val ys = 0 → k = 30 ∧ r = rat0
  fine : May xs ∧ May ys → val ys ≠ 0 → k = 0 ∧ Is r (sg neg (val xs)) (val ys)

theorem MakeOut.one {neg : Bool} {xs ys : List Int} {r s : RatL} {k l : Int} (h : MakeOut neg xs ys r k) (h' : MakeOut neg xs ys s l) : r = s ∧ k = l := by
  by_cases o : May xs ∧ May ys
  · by_cases b : val ys = 0
    · exact ⟨(h.zero o b).2.trans (h'.zero o b).2.symm, (h.zero o b).1.trans (h'.zero o b).1.symm⟩
    · exact ⟨(h.fine o b).2.one (h'.fine o b).2 rfl, (h.fine o b).1.trans (h'.fine o b).1.symm⟩
  · exact ⟨(h.arg o).2.trans (h'.arg o).2.symm, (h.arg o).1.trans (h'.arg o).1.symm⟩

theorem Is.made {neg : Bool} {xs ys p q : List Int} (lx : Limbs xs) (ly : Limbs ys) (mx : May xs) (my : May ys) (hy : val ys ≠ 0) (hp : Num p (val xs / gcdI (val xs) (val ys))) (hq : Num q (val ys / gcdI (val xs) (val ys))) :
    Is ⟨neg && decide (0 < p.length), p, q⟩ (sg neg (val xs)) (val ys) := by
  have vx := (val_bd lx).1
  have vy := (val_bd ly).1
  have y0 : 0 < val ys := by omega
  obtain ⟨P, Q, hP, hQ, e1, e2, e3⟩ := gcdI_dvd (a := val ys) (b := val xs) y0 vx
  have hG := gcdI_pos (b := val xs) y0
  rw [gcdI_comm (val xs)] at hp hq
  have bx := May.lt lx mx
  have bY := May.lt ly my
  have dq : val ys / gcdI (val ys) (val xs) = P := by
    have := Int.mul_ediv_cancel_left P (show gcdI (val ys) (val xs) ≠ 0 by omega)
    rw [← e1] at this
    exact this
  have dp : val xs / gcdI (val ys) (val xs) = Q := by
    have := Int.mul_ediv_cancel_left Q (show gcdI (val ys) (val xs) ≠ 0 by omega)
    rw [← e2] at this
    exact this
  rw [dq] at hq
  rw [dp] at hp
  have hPl : P ≤ val ys := by
    have := Int.mul_le_mul_of_nonneg_right (show 1 ≤ gcdI (val ys) (val xs) by omega) (Int.le_of_lt hP)
    omega
  have hQl : Q ≤ val xs := by
    have := Int.mul_le_mul_of_nonneg_right (show 1 ≤ gcdI (val ys) (val xs) by omega) hQ
    omega
  have hlen : (0 < p.length) ↔ Q ≠ 0 := by
    have := num_len_zero hp
    omega
  refine ⟨⟨hp.may.2 (by omega), hq.may.2 (by omega), by rw [hq.val]; omega, by rw [hp.val, hq.val, gcdI_comm]; exact e3, fun h => ?_⟩, ⟨hp.limbs, hq.limbs⟩, y0, ?_⟩
  · rw [hp.val]
    simp only [Bool.and_eq_true, decide_eq_true_eq] at h
    exact hlen.1 h.2
  · show sg (neg && decide (0 < p.length)) (val p) * val ys = sg neg (val xs) * val q
    have hs : sg (neg && decide (0 < p.length)) (val p) = sg neg Q := by
      rw [hp.val]
      by_cases hz : Q = 0
      · subst hz
        unfold sg
        simp
      · rw [decide_eq_true (hlen.2 hz), Bool.and_true]
    rw [hs, hq.val, e2, Int.mul_comm (gcdI _ _) Q, sg_mul]
    have e4 : val ys = gcdI (val ys) (val xs) * P := e1
    generalize gcdI (val ys) (val xs) = G at *
    rw [e4]
    grind

theorem sg_not (neg : Bool) (v : Int) : sg (!neg) v = - sg neg v := by unfold sg; cases neg <;> simp

/-- A number with the other sign. -/
def RatL.flip (a : RatL) : RatL := ⟨if a.num.length = 0 then a.neg else !a.neg, a.num, a.den⟩
theorem MayR.zero_len {a : RatL} (h : MayR a) (l : LimR a) : a.num.length = 0 ↔ a.top = 0 := by
  rw [num_len_zero (num_self l.1 h.num)]
  exact (sg_zero a.neg).symm
theorem Is.flip {r : RatL} {N D : Int} (h : Is r N D) : Is r.flip (-N) D := by
  have hz := h.may.zero_len h.lim
  have ht : r.flip.top = - r.top := by
    show sg (if r.num.length = 0 then r.neg else !r.neg) (val r.num) = - sg r.neg (val r.num)
    by_cases h0 : r.num.length = 0
    · have h1 := hz.1 h0
      rw [if_pos h0]
      have h2 : sg r.neg (val r.num) = 0 := h1
      omega
    · rw [if_neg h0, sg_not]
  refine ⟨⟨h.may.num, h.may.den, h.may.pos, h.may.low, fun hs => ?_⟩, h.lim, h.pos, ?_⟩
  · show val r.num ≠ 0
    intro e
    have h0 : r.num.length = 0 := (num_len_zero (num_self h.lim.1 h.may.num)).2 e
    have h2 : r.flip.neg = r.neg := by show (if r.num.length = 0 then r.neg else !r.neg) = r.neg; rw [if_pos h0]
    rw [h2] at hs
    exact h.may.sign hs e
  · rw [ht, Int.neg_mul, h.eq, Int.neg_mul]
    rfl

/-- 1 by a number. -/
def RatL.inv (a : RatL) : RatL := ⟨a.neg, a.den, a.num⟩
theorem Is.inv {r : RatL} {N D : Int} (h : Is r N D) (hN : N ≠ 0) : Is r.inv (sg (decide (N < 0)) D) (N.natAbs) := by
  obtain ⟨c, c0, hD, hNc⟩ := h.parts
  have hb := h.may.bot_pos h.lim
  have hv := (val_bd h.lim.1).1
  have ht : r.top ≠ 0 := by
    intro e
    rw [e, Int.zero_mul] at hNc
    exact hN hNc
  have hnum : val r.num ≠ 0 := fun e => ht ((sg_zero r.neg).2 e)
  have hneg : decide (N < 0) = r.neg := by
    have ha := sg_abs r.neg hv
    rw [hNc]
    cases e : r.neg with
    | true =>
      have h1 : r.top = - val r.num := by unfold RatL.top sg; rw [e]; rfl
      have h2 := Int.mul_pos (show 0 < val r.num by omega) c0
      rw [h1, Int.neg_mul]
      exact decide_eq_true (by omega)
    | false =>
      have h1 : r.top = val r.num := by unfold RatL.top sg; rw [e]; rfl
      have h2 := Int.mul_pos (show 0 < val r.num by omega) c0
      rw [h1]
      exact decide_eq_false (by omega)
  refine ⟨⟨h.may.den, h.may.num, hnum, by show gcdI (val r.den) (val r.num) = 1; rw [gcdI_comm]; exact h.may.low, fun _ => h.may.pos⟩, ⟨h.lim.2, h.lim.1⟩, by omega, ?_⟩
  rw [hneg]
  show sg r.neg (val r.den) * (N.natAbs : Int) = sg r.neg D * val r.num
  have hab : (N.natAbs : Int) = val r.num * c := by
    have h1 : (r.top.natAbs : Int) = val r.num := sg_abs r.neg hv
    rw [hNc, Int.natAbs_mul, Int.natCast_mul, h1]
    congr 1
    omega
  have hD2 : D = val r.den * c := hD
  rw [hab, hD2, sg_mul]
  grind

end Go.Proofs.YtnedghhcidohnaaGreat

/-! Sums of rows as numbers: plain arithmetic, no program. -/
namespace Go.Proofs.YtnedghhcidohnaaGreat

/-- The limbs at place i of all rows, added. -/
def tot (xss : List (List Int)) (i : Int) : Int := (xss.map fun xs => lim xs i).sum
/-- The first k limbs of all rows, added. -/
def spv (xss : List (List Int)) (k : Nat) : Int := (xss.map fun xs => pv xs k).sum
/-- All rows, added. -/
def sval (xss : List (List Int)) : Int := (xss.map val).sum

theorem tot_snoc (xss : List (List Int)) (xs : List Int) (i : Int) : tot (xss ++ [xs]) i = tot xss i + lim xs i := by simp [tot]
theorem sval_snoc (xss : List (List Int)) (xs : List Int) : sval (xss ++ [xs]) = sval xss + val xs := by simp [sval]

theorem spv_zero (xss : List (List Int)) : spv xss 0 = 0 := by
  induction xss with
  | nil => rfl
  | cons x xs ih => simp only [spv, List.map_cons, List.sum_cons, pv] at ih ⊢; omega

theorem spv_succ (xss : List (List Int)) (k : Nat) : spv xss (k + 1) = spv xss k + tot xss k * BB ^ k := by
  induction xss with
  | nil => simp [spv, tot]
  | cons x xs ih =>
    simp only [spv, tot, List.map_cons, List.sum_cons, pv] at ih ⊢
    rw [ih]
    grind

theorem spv_sval (xss : List (List Int)) (k : Nat) (h : ∀ xs ∈ xss, xs.length ≤ k) : spv xss k = sval xss := by
  induction xss with
  | nil => rfl
  | cons x xs ih =>
    have h1 := ih (fun y hy => h y (List.mem_cons_of_mem _ hy))
    simp only [spv, sval, List.map_cons, List.sum_cons] at h1 ⊢
    rw [h1, pv_val x k (h x List.mem_cons_self)]

theorem tot_bd {xss : List (List Int)} (h : ∀ xs ∈ xss, Limbs xs) (i : Int) : 0 ≤ tot xss i ∧ tot xss i ≤ xss.length * (BB - 1) := by
  induction xss with
  | nil => simp [tot]
  | cons x xs ih =>
    have h1 := ih (fun y hy => h y (List.mem_cons_of_mem _ hy))
    have h2 := lim_bd (h x List.mem_cons_self) i
    simp only [tot, List.map_cons, List.sum_cons, List.length_cons] at h1 ⊢
    refine ⟨by omega, ?_⟩
    have e : ((xs.length + 1 : Nat) : Int) * (BB - 1) = xs.length * (BB - 1) + (BB - 1) := by rw [Int.natCast_add, Int.add_mul]; simp
    rw [e]
    omega

theorem sval_bd {xss : List (List Int)} (h : ∀ xs ∈ xss, Limbs xs) (L : Nat) (hL : ∀ xs ∈ xss, xs.length ≤ L) : 0 ≤ sval xss ∧ sval xss + xss.length ≤ xss.length * BB ^ L := by
  induction xss with
  | nil => simp [sval]
  | cons x xs ih =>
    have h1 := ih (fun y hy => h y (List.mem_cons_of_mem _ hy)) (fun y hy => hL y (List.mem_cons_of_mem _ hy))
    have h2 := val_bd (h x List.mem_cons_self)
    have h3 := pw_le (hL x List.mem_cons_self)
    simp only [sval, List.map_cons, List.sum_cons, List.length_cons] at h1 ⊢
    have e : ((xs.length + 1 : Nat) : Int) * BB ^ L = xs.length * BB ^ L + BB ^ L := by rw [Int.natCast_add, Int.add_mul]; simp
    rw [e]
    refine ⟨by omega, by omega⟩

theorem sum_step {v c t p P : Int} (h : v + c * P = p) : v + ((c + t) % BB) * P + ((c + t) / BB) * (P * BB) = p + t * P := by
  have h1 := Int.emod_add_mul_ediv (c + t) BB
  have h2 : ((c + t) % BB + BB * ((c + t) / BB)) * P = (c + t) * P := by rw [h1]
  grind

theorem sum_carry {c t : Int} {k : Nat} (hc0 : 0 ≤ c) (hc : c ≤ k) (ht0 : 0 ≤ t) (ht : t ≤ k * (BB - 1)) : 0 ≤ (c + t) / BB ∧ (c + t) / BB ≤ k := by
  refine ⟨Int.ediv_nonneg (by omega) (Int.le_of_lt BB_pos), ?_⟩
  have h : c + t ≤ k * BB := by rw [Int.mul_sub] at ht; omega
  have := Int.ediv_le_ediv BB_pos h
  rw [Int.mul_ediv_cancel _ (by have := BB_pos; omega)] at this
  exact this

theorem sum_end {v c s P : Int} {k : Nat} (h : v + c * (P * BB) = s) (hv : 0 ≤ v) (hP : 0 < P) (hc : 0 ≤ c) (hs : s + k ≤ k * P) (hk : (k : Int) ≤ BB) : v = s := by
  rcases Int.lt_or_eq_of_le hc with h' | h'
  · exfalso
    have h1 : P * BB ≤ c * (P * BB) := by
      have : (1 : Int) * (P * BB) ≤ c * (P * BB) := Int.mul_le_mul_of_nonneg_right h' (Int.le_of_lt (Int.mul_pos hP BB_pos))
      simpa using this
    have h2 : (k : Int) * P ≤ BB * P := Int.mul_le_mul_of_nonneg_right hk (Int.le_of_lt hP)
    rw [Int.mul_comm BB P] at h2
    have h3 : s + k ≤ P * BB := by omega
    by_cases e : k = 0
    · subst e
      simp at hs
      have := Int.mul_pos hP BB_pos
      omega
    · omega
  · subst h'; simpa using h

theorem div_of {t n s : Int} (h : t + n * BB = s) (h0 : 0 ≤ t) (h1 : t < BB) : t = s % BB ∧ n = s / BB := by
  unfold BB at *
  omega

/-- There is one number of limbs that is left. -/
theorem tl_ex (xs : List Int) : ∃ m, Tl xs m := by
  have : ∀ k, k ≤ xs.length → (∀ j, k ≤ j → xs.getD j 0 = 0) → ∃ m, Tl xs m := by
    intro k
    induction k with
    | zero => intro _ hz; exact ⟨0, Nat.zero_le _, hz, by simp⟩
    | succ k ih =>
      intro hk hz
      by_cases h : xs.getD k 0 = 0
      · refine ih (by omega) fun j hj => ?_
        by_cases e : j = k
        · rw [e]; exact h
        · exact hz j (by omega)
      · exact ⟨k + 1, hk, hz, fun _ => by simpa using h⟩
  exact this xs.length (Nat.le_refl _) (fun j hj => by simp [hj])

theorem tl_one {xs : List Int} {m n : Nat} (hm : Tl xs m) (hn : Tl xs n) : m = n := by
  rcases Nat.lt_trichotomy m n with h | h | h
  · exact absurd (hm.2.1 (n - 1) (by omega)) (hn.2.2 (by omega))
  · exact h
  · exact absurd (hn.2.1 (m - 1) (by omega)) (hm.2.2 (by omega))

end Go.Proofs.YtnedghhcidohnaaGreat

/-! Shifts of rows as numbers: plain arithmetic, no program. -/
namespace Go.Proofs.YtnedghhcidohnaaGreat

theorem BB_pow : BB = 2 ^ 64 := by unfold BB; rfl

/-- A power of 2 and what is left of a limb. -/
theorem split_BB {r : Nat} (h : r ≤ 64) : (2 : Int) ^ r * 2 ^ (64 - r) = BB := by
  rw [BB_pow, ← Int.pow_add]
  congr 1
  omega
theorem two_pos (r : Nat) : (0 : Int) < 2 ^ r := Int.pow_pos (by omega)

theorem mul_div_BB {x : Int} {r : Nat} (h : r ≤ 64) : x * 2 ^ r / BB = x / 2 ^ (64 - r) := by
  rw [← split_BB h, Int.mul_comm x, Int.mul_ediv_mul_of_pos _ _ (two_pos r)]

/-- The first k limbs of a row with p limbs of 0 below it, as a number. -/
def pvu (xs : List Int) (p : Nat) : Nat → Int
  | 0 => 0
  | k + 1 => pvu xs p k + lim xs ((k : Int) - p) * BB ^ k

theorem pvu_low (xs : List Int) (p k : Nat) (h : k ≤ p) : pvu xs p k = 0 := by
  induction k with
  | zero => rfl
  | succ k ih => rw [pvu, ih (by omega), lim_neg _ _ (by omega)]; simp

theorem pvu_high (xs : List Int) (p k : Nat) : pvu xs p (p + k) = pv xs k * BB ^ p := by
  induction k with
  | zero => rw [Nat.add_zero, pvu_low _ _ _ (Nat.le_refl _), pv]; simp
  | succ k ih =>
    rw [← Nat.add_assoc, pvu, ih, pv, show ((p + k : Nat) : Int) - p = (k : Int) by omega, Nat.add_comm p k, pw_add]
    grind

/-- One limb of a row shifted up by l limbs and r bits. -/
def upv (xs : List Int) (l r : Nat) (i : Int) : Int := lim xs (i - l) * 2 ^ r % BB + lim xs (i - l - 1) / 2 ^ (64 - r)

theorem up_step {v x y q P : Int} {r : Nat} (hr : r ≤ 64) (h : v + y / 2 ^ (64 - r) * P = 2 ^ r * q) :
    v + (x * 2 ^ r % BB + y / 2 ^ (64 - r)) * P + x / 2 ^ (64 - r) * (P * BB) = 2 ^ r * (q + x * P) := by
  have h1 := Int.emod_add_mul_ediv (x * 2 ^ r) BB
  rw [mul_div_BB hr] at h1
  have h2 : (x * 2 ^ r % BB + BB * (x / 2 ^ (64 - r))) * P = x * 2 ^ r * P := by rw [h1]
  grind

theorem upv_bd {xs : List Int} (hx : Limbs xs) (l : Nat) {r : Nat} (hr : r ≤ 63) (i : Int) : 0 ≤ upv xs l r i ∧ upv xs l r i < BB ∧ lim xs (i - l) * 2 ^ r % BB % 2 ^ r = 0 ∧ 0 ≤ lim xs (i - l - 1) / 2 ^ (64 - r) ∧ lim xs (i - l - 1) / 2 ^ (64 - r) < 2 ^ r := by
  have b2 := lim_bd hx (i - l - 1)
  have hK := two_pos (64 - r)
  have hM := two_pos r
  have hs := split_BB (show r ≤ 64 by omega)
  have a1 : 0 ≤ lim xs (i - l - 1) / 2 ^ (64 - r) := Int.ediv_nonneg b2.1 (Int.le_of_lt hK)
  have a2 : lim xs (i - l - 1) / 2 ^ (64 - r) < 2 ^ r := by
    apply Int.ediv_lt_of_lt_mul hK
    rw [hs]; exact b2.2
  have a3 : lim xs (i - l) * 2 ^ r % BB % 2 ^ r = 0 := by
    rw [Int.emod_emod_of_dvd _ ⟨2 ^ (64 - r), hs.symm⟩]
    simp
  have a4 : 0 ≤ lim xs (i - l) * 2 ^ r % BB := Int.emod_nonneg _ (by have := BB_pos; omega)
  have a5 : lim xs (i - l) * 2 ^ r % BB < BB := Int.emod_lt_of_pos _ BB_pos
  refine ⟨by unfold upv; omega, ?_, a3, a1, a2⟩
  unfold upv
  generalize lim xs (i - l) * 2 ^ r % BB = A at *
  have e : A = 2 ^ r * (A / 2 ^ r) := by have := Int.emod_add_mul_ediv A (2 ^ r); omega
  have l1 : A / 2 ^ r < 2 ^ (64 - r) := by
    apply Int.ediv_lt_of_lt_mul hM
    rw [Int.mul_comm, hs]; exact a5
  have l2 : A / 2 ^ r + 1 ≤ 2 ^ (64 - r) := l1
  have l3 := Int.mul_le_mul_of_nonneg_left l2 (Int.le_of_lt hM)
  rw [hs, Int.mul_add, Int.mul_one, ← e] at l3
  omega

/-- The limbs from l on, k of them, as a number. -/
def pvd (xs : List Int) (l : Nat) : Nat → Int
  | 0 => 0
  | k + 1 => pvd xs l k + lim xs ((k : Int) + l) * BB ^ k

theorem pvd_pv (xs : List Int) (l k : Nat) : pv xs (l + k) = pv xs l + BB ^ l * pvd xs l k := by
  induction k with
  | zero => simp [pvd]
  | succ k ih =>
    rw [← Nat.add_assoc, pv, ih, pvd, show ((l + k : Nat) : Int) = (k : Int) + l by omega, pw_add]
    grind

/-- One limb of a row shifted down by l limbs and r bits. -/
def dnv (xs : List Int) (l r : Nat) (i : Int) : Int := lim xs (i + l) / 2 ^ r + lim xs (i + l + 1) * 2 ^ (64 - r) % BB

theorem mul_mod_BB {x : Int} {r : Nat} (h : r ≤ 64) : x * 2 ^ (64 - r) % BB = x % 2 ^ r * 2 ^ (64 - r) := by
  rw [← split_BB h, Int.mul_comm x, Int.mul_comm (2 ^ r), Int.mul_emod_mul_of_pos _ _ (two_pos (64 - r)), Int.mul_comm]

theorem dn_step {v x y q P a : Int} {r : Nat} (hr : r ≤ 64) (h : 2 ^ r * v + a = q + x % 2 ^ r * P) :
    2 ^ r * (v + (x / 2 ^ r + y * 2 ^ (64 - r) % BB) * P) + a = (q + x * P) + y % 2 ^ r * (P * BB) := by
  rw [mul_mod_BB hr]
  have h1 := Int.emod_add_mul_ediv x (2 ^ r)
  have h2 : (x % 2 ^ r + 2 ^ r * (x / 2 ^ r)) * P = x * P := by rw [h1]
  have hs := split_BB hr
  have h3 : y % 2 ^ r * (P * BB) = y % 2 ^ r * (P * (2 ^ r * 2 ^ (64 - r))) := by rw [hs]
  rw [h3]
  grind

theorem dnv_bd {xs : List Int} (hx : Limbs xs) (l : Nat) {r : Nat} (hr : r ≤ 63) (i : Int) : 0 ≤ dnv xs l r i ∧ dnv xs l r i < BB ∧ lim xs (i + l + 1) * 2 ^ (64 - r) % BB % 2 ^ (64 - r) = 0 ∧ 0 ≤ lim xs (i + l) / 2 ^ r ∧ lim xs (i + l) / 2 ^ r < 2 ^ (64 - r) := by
  have b1 := lim_bd hx (i + l)
  have hK := two_pos (64 - r)
  have hM := two_pos r
  have hs := split_BB (show r ≤ 64 by omega)
  have a1 : 0 ≤ lim xs (i + l) / 2 ^ r := Int.ediv_nonneg b1.1 (Int.le_of_lt hM)
  have a2 : lim xs (i + l) / 2 ^ r < 2 ^ (64 - r) := by
    apply Int.ediv_lt_of_lt_mul hM
    rw [Int.mul_comm, hs]; exact b1.2
  have a3 : lim xs (i + l + 1) * 2 ^ (64 - r) % BB % 2 ^ (64 - r) = 0 := by
    rw [mul_mod_BB (by omega)]
    simp
  have a4 : lim xs (i + l + 1) * 2 ^ (64 - r) % BB = lim xs (i + l + 1) % 2 ^ r * 2 ^ (64 - r) := mul_mod_BB (by omega)
  have a5 : 0 ≤ lim xs (i + l + 1) % 2 ^ r := Int.emod_nonneg _ (by omega)
  have a6 : lim xs (i + l + 1) % 2 ^ r < 2 ^ r := Int.emod_lt_of_pos _ hM
  refine ⟨?_, ?_, a3, a1, a2⟩
  · unfold dnv
    rw [a4]
    have := Int.mul_nonneg a5 (Int.le_of_lt hK)
    omega
  · unfold dnv
    rw [a4]
    have l2 : lim xs (i + l + 1) % 2 ^ r + 1 ≤ 2 ^ r := a6
    have l3 := Int.mul_le_mul_of_nonneg_right l2 (Int.le_of_lt hK)
    rw [hs, Int.add_mul, Int.one_mul] at l3
    omega

theorem dn_end {v a q : Int} {r : Nat} (h : 2 ^ r * v + a = q) (h0 : 0 ≤ a) (h1 : a < 2 ^ r) : v = q / 2 ^ r := by
  rw [← h, Int.add_comm, Int.add_mul_ediv_left _ _ (by have := two_pos r; omega), Int.ediv_eq_zero_of_lt h0 h1]
  omega

theorem val_drop {xs : List Int} (hx : Limbs xs) (l k : Nat) (h : xs.length ≤ l + k) : pvd xs l k = val xs / BB ^ l := by
  have h1 := pvd_pv xs l k
  rw [pv_val xs _ h] at h1
  have b := pv_bd hx l
  rw [h1, Int.add_mul_ediv_left _ _ (by have := pw_pos l; omega), Int.ediv_eq_zero_of_lt b.1 b.2]
  omega

theorem pow_split (l r : Nat) : (2 : Int) ^ (64 * l + r) = BB ^ l * 2 ^ r := by
  rw [Int.pow_add, Int.pow_mul, ← BB_pow]

/-- v times 2^n, and by 2^-n, rounded down, as the document has it. -/
def shiftI (v n : Int) : Int := if n < -100000 then 0 else if n < 0 then v / 2 ^ (-n).toNat else v * 2 ^ (min n 1000).toNat

end Go.Proofs.YtnedghhcidohnaaGreat

/-! Digits to any base, as arithmetic: no program. -/
namespace Go.Proofs.YtnedghhcidohnaaGreat

/-- The number that digits are, the lowest one first. -/
def dval (b : Int) : List Int → Int
  | [] => 0
  | d :: ds => d + b * dval b ds

/-- Each is a digit to the base b. -/
def Digs (b : Int) (l : List Int) : Prop := ∀ d ∈ l, 0 ≤ d ∧ d < b

theorem Digs.tail {b d : Int} {l : List Int} (h : Digs b (d :: l)) : Digs b l := fun x hx => h x (List.mem_cons_of_mem _ hx)
theorem Digs.head {b d : Int} {l : List Int} (h : Digs b (d :: l)) : 0 ≤ d ∧ d < b := h d List.mem_cons_self
theorem Digs.cons {b d : Int} {l : List Int} (h0 : 0 ≤ d) (h1 : d < b) (h : Digs b l) : Digs b (d :: l) := fun x hx => by
  rcases List.mem_cons.1 hx with e | e
  · rw [e]; exact ⟨h0, h1⟩
  · exact h x e

theorem bp_pos {b : Int} (hb : 0 < b) (k : Nat) : 0 < b ^ k := Int.pow_pos hb
theorem bp_le {b : Int} (hb : 1 ≤ b) {j k : Nat} (h : j ≤ k) : b ^ j ≤ b ^ k := by
  obtain ⟨d, rfl⟩ := Nat.le.dest h
  rw [Int.pow_add]
  have h1 : (1 : Int) ≤ b ^ d := bp_pos (by omega) d
  have := Int.mul_le_mul_of_nonneg_left h1 (Int.le_of_lt (bp_pos (show 0 < b by omega) j))
  simpa using this

theorem dval_bd {b : Int} (hb : 0 < b) {l : List Int} (h : Digs b l) : 0 ≤ dval b l ∧ dval b l < b ^ l.length := by
  induction l with
  | nil => simp [dval]
  | cons d ds ih =>
    have hd := h.head
    have hi := ih h.tail
    refine ⟨?_, ?_⟩
    · simp only [dval]; have := Int.mul_nonneg (Int.le_of_lt hb) hi.1; omega
    · simp only [dval, List.length_cons, Int.pow_succ]
      have h1 : dval b ds + 1 ≤ b ^ ds.length := hi.2
      have h2 := Int.mul_le_mul_of_nonneg_left h1 (Int.le_of_lt hb)
      rw [Int.mul_add, Int.mul_one] at h2
      rw [Int.mul_comm (b ^ ds.length)]
      omega

theorem dval_append (b : Int) (l m : List Int) : dval b (l ++ m) = dval b l + b ^ l.length * dval b m := by
  induction l with
  | nil => simp [dval]
  | cons d ds ih =>
    simp only [List.cons_append, dval, ih, List.length_cons, Int.pow_succ]
    grind

theorem dval_drop (b : Int) (l : List Int) (k : Nat) (h : k < l.length) : dval b (l.drop k) = l.getD k 0 + b * dval b (l.drop (k + 1)) := by
  rw [List.drop_eq_getElem_cons h, dval]
  simp [h]

/-- What stands above a place is no more than all of it. -/
theorem dval_drop_le {b : Int} (hb : 1 ≤ b) {l : List Int} (h : Digs b l) (k : Nat) : dval b (l.drop k) ≤ dval b l := by
  have e := dval_append b (l.take k) (l.drop k)
  rw [List.take_append_drop] at e
  have h1 := (dval_bd (show 0 < b by omega) (l := l.take k) (fun d hd => h d (List.mem_of_mem_take hd))).1
  have h2 := (dval_bd (show 0 < b by omega) (l := l.drop k) (fun d hd => h d (List.mem_of_mem_drop hd))).1
  have h3 : (1 : Int) ≤ b ^ (l.take k).length := bp_pos (by omega) _
  have h4 := Int.mul_le_mul_of_nonneg_right h3 h2
  omega

/-- The digits of a number: the highest one is not 0. -/
structure Dig (b : Int) (l : List Int) (v : Int) : Prop where
  digs : Digs b l
  trim : Trim l
  val : dval b l = v

theorem Dig.nil (b : Int) : Dig b [] 0 := ⟨fun d hd => by simp at hd, by intro n hn; simp at hn, rfl⟩

theorem Dig.nonneg {b v : Int} {l : List Int} (hb : 0 < b) (h : Dig b l v) : 0 ≤ v := by rw [← h.val]; exact (dval_bd hb h.digs).1

theorem trim_cons {d : Int} {l : List Int} (h : Trim l) (hd : l = [] → d ≠ 0) : Trim (d :: l) := by
  intro n hn
  cases n with
  | zero =>
    simp at hn
    simpa using hd hn
  | succ n =>
    simp at hn
    simpa using h n hn

theorem dig_zero {b : Int} (hb : 0 < b) {l : List Int} (hd : Digs b l) (ht : Trim l) (h : dval b l = 0) : l = [] := by
  induction l with
  | nil => rfl
  | cons d ds ih =>
    have h1 := hd.head
    have h2 := (dval_bd hb hd.tail).1
    simp only [dval] at h
    have h3 := Int.mul_nonneg (Int.le_of_lt hb) h2
    have h4 : dval b ds = 0 := by
      rcases Int.lt_or_eq_of_le h2 with h' | h'
      · have := Int.mul_pos hb h'; omega
      · exact h'.symm
    have e := ih hd.tail (trim_tail ht) h4
    subst e
    have := ht 0 rfl
    simp [dval] at h this
    omega

/-- A number has one row of digits. -/
theorem Dig.one {b v : Int} (hb : 0 < b) {l m : List Int} (hl : Dig b l v) (hm : Dig b m v) : l = m := by
  obtain ⟨d1, t1, e1⟩ := hl
  obtain ⟨d2, t2, e2⟩ := hm
  subst e1
  induction l generalizing m with
  | nil => exact (dig_zero hb d2 t2 e2).symm
  | cons x xs ih =>
    cases m with
    | nil => exact dig_zero hb d1 t1 e2.symm
    | cons y ys =>
      have b1 := d1.head
      have b2 := d2.head
      simp only [dval] at e2
      have e3 : y = x := by
        have h1 : (x + b * dval b xs) % b = x := by rw [Int.add_mul_emod_self_left, Int.emod_eq_of_lt b1.1 b1.2]
        have h2 : (y + b * dval b ys) % b = y := by rw [Int.add_mul_emod_self_left, Int.emod_eq_of_lt b2.1 b2.2]
        rw [← h1, ← h2, e2]
      subst e3
      have e4 : dval b ys = dval b xs := by
        have : b * dval b ys = b * dval b xs := by omega
        exact Int.eq_of_mul_eq_mul_left (by omega) this
      rw [ih d1.tail (trim_tail t1) d2.tail (trim_tail t2) e4]

/-- One digit more, at the low end. -/
theorem Dig.cons {b d v : Int} {l : List Int} (h : Dig b l v) (h0 : 0 ≤ d) (h1 : d < b) (hp : 0 < d + b * v) : Dig b (d :: l) (d + b * v) := by
  refine ⟨h.digs.cons h0 h1, trim_cons h.trim fun e => ?_, by rw [dval, h.val]⟩
  have hv := h.val
  rw [e] at hv
  simp [dval] at hv
  rw [← hv] at hp
  simp at hp
  omega

/-- The lowest digit, and the rest of them. -/
theorem Dig.split {b v : Int} {l : List Int} (hb : 0 < b) (h : Dig b l v) (hv : 0 < v) : ∃ m, l = v % b :: m ∧ Dig b m (v / b) := by
  cases l with
  | nil => have := h.val; simp [dval] at this; omega
  | cons d m =>
    have hd := h.digs.head
    have e := h.val
    simp only [dval] at e
    have h1 : v % b = d := by rw [← e, Int.add_mul_emod_self_left, Int.emod_eq_of_lt hd.1 hd.2]
    have h2 : v / b = dval b m := by rw [← e, Int.add_mul_ediv_left _ _ (by omega), Int.ediv_eq_zero_of_lt hd.1 hd.2]; omega
    exact ⟨m, by rw [h1], h.digs.tail, trim_tail h.trim, h2.symm⟩

/-- Each number has digits. -/
theorem dig_ex {b : Int} (hb : 2 ≤ b) (n : Nat) : ∃ l, Dig b l n := by
  induction n using Nat.strongRecOn with
  | _ n ih =>
    rcases Nat.eq_zero_or_pos n with h0 | h0
    · subst h0; exact ⟨[], Dig.nil b⟩
    · obtain ⟨B, rfl⟩ := Int.eq_ofNat_of_zero_le (show 0 ≤ b by omega)
      have hlt : n / B < n := Nat.div_lt_self h0 (by omega)
      obtain ⟨l, hl⟩ := ih (n / B) hlt
      have e : ((n % B : Nat) : Int) + (B : Int) * ((n / B : Nat) : Int) = n := by
        have := Nat.mod_add_div n B
        exact_mod_cast this
      have hc := Dig.cons (d := ((n % B : Nat) : Int)) hl (by omega) (by have := Nat.mod_lt n (show 0 < B by omega); omega) (by rw [e]; omega)
      rw [e] at hc
      exact ⟨_, hc⟩

theorem dig_ge {b v : Int} (hb : 0 < b) {l : List Int} (h : Dig b l v) (n : Nat) (hn : l.length = n + 1) : b ^ n ≤ v := by
  have e := dval_append b (l.take n) (l.drop n)
  rw [List.take_append_drop, h.val] at e
  have ht : (l.take n).length = n := by simp; omega
  rw [ht, dval_drop b l n (by omega), show l.drop (n + 1) = [] by simp; omega] at e
  simp only [dval, Int.mul_zero, Int.add_zero] at e
  have h1 := (dval_bd hb (l := l.take n) (fun d hd => h.digs d (List.mem_of_mem_take hd))).1
  have h2 := h.trim n hn
  have h3 : 0 ≤ l.getD n 0 := by
    have hm : l.getD n 0 ∈ l := by
      rw [List.getD_eq_getElem?_getD, List.getElem?_eq_getElem (by omega)]
      exact List.getElem_mem _
    exact (h.digs _ hm).1
  have h4 := Int.mul_le_mul_of_nonneg_left (show 1 ≤ l.getD n 0 by omega) (Int.le_of_lt (bp_pos hb n))
  rw [Int.mul_one] at h4
  omega

/-- How many digits there are at most. -/
theorem dig_few {b v : Int} (hb : 1 < b) {l : List Int} (h : Dig b l v) {k : Nat} (hv : v < b ^ k) : l.length ≤ k := by
  rcases Nat.lt_or_ge k l.length with hg | hg
  · obtain ⟨j, hj⟩ : ∃ j, l.length = j + 1 := ⟨l.length - 1, by omega⟩
    have h1 := dig_ge (by omega) h j hj
    have h2 := bp_le (show 1 ≤ b by omega) (show k ≤ j by omega)
    omega
  · exact hg

theorem dig_len_le {b v w : Int} (hb : 1 < b) {l m : List Int} (hl : Dig b l v) (hm : Dig b m w) (h : v ≤ w) : l.length ≤ m.length := by
  have h1 := (dval_bd (show 0 < b by omega) hm.digs).2
  rw [hm.val] at h1
  exact dig_few hb hl (by omega)

/-- Of as many digits: which number is below is told by the highest place at which they differ. -/
theorem dig_less {b : Int} (hb : 0 < b) {l m : List Int} (hl : Digs b l) (hm : Digs b m) (hlen : l.length = m.length) (k : Nat) (hk : k < l.length) (habove : l.drop (k + 1) = m.drop (k + 1)) (hlt : l.getD k 0 < m.getD k 0) : dval b l < dval b m := by
  have e1 := dval_append b (l.take k) (l.drop k)
  have e2 := dval_append b (m.take k) (m.drop k)
  rw [List.take_append_drop] at e1 e2
  have t1 : (l.take k).length = k := by simp; omega
  have t2 : (m.take k).length = k := by simp; omega
  rw [t1, dval_drop b l k hk] at e1
  rw [t2, dval_drop b m k (by omega), ← habove] at e2
  have h1 := (dval_bd hb (l := l.take k) (fun d hd => hl d (List.mem_of_mem_take hd))).2
  have h2 := (dval_bd hb (l := m.take k) (fun d hd => hm d (List.mem_of_mem_take hd))).1
  rw [t1] at h1
  have h3 := Int.mul_le_mul_of_nonneg_left (show l.getD k 0 + b * dval b (l.drop (k + 1)) + 1 ≤ m.getD k 0 + b * dval b (l.drop (k + 1)) by omega) (Int.le_of_lt (bp_pos hb k))
  rw [Int.mul_add, Int.mul_one] at h3
  omega

/-- 10^155 is above what may be. -/
theorem ten155 : Big ≤ (10 : Int) ^ 155 := by
  unfold Big BB
  decide

theorem Dig.few10 {v : Int} {l : List Int} (h : Dig 10 l v) (hv : v < Big) : l.length ≤ 155 := dig_few (by omega) h (by have := ten155; omega)

end Go.Proofs.YtnedghhcidohnaaGreat
