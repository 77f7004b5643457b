/-
  Naturals: which rows may be, and what a call of layer 2 may tell. Plain arithmetic, no program.
-/
import Derived.Test.YtnkjfandknndkaaMath
namespace Go.Proofs.Ytnkjfandknndkaa

/-- The least number that has more limbs than may be. -/
def Big : Int := BB ^ 8
theorem Big_pos : 0 < Big := pw_pos 8
theorem Big_one : 1 < Big := by
  have h := pw_le (show 1 ≤ 8 by omega)
  have h1 : BB ^ 1 = BB := by rw [Int.pow_succ, Int.pow_zero, Int.one_mul]
  have := BB_two
  unfold Big
  omega
theorem Big_BB : BB < Big := by
  have h := pw_le (show 2 ≤ 8 by omega)
  have h1 : BB ^ 2 = BB * BB := by rw [Int.pow_succ, Int.pow_succ, Int.pow_zero, Int.one_mul]
  have h2 := Int.mul_le_mul_of_nonneg_left BB_two (Int.le_of_lt BB_pos)
  have := BB_pos
  unfold Big
  omega

/-- A natural that may be. -/
def May (xs : List Int) : Prop := xs.length ≤ 8 ∧ Trim xs

theorem val_ge {xs : List Int} (hl : Limbs xs) (ht : Trim xs) (n : Nat) (h : xs.length = n + 1) : BB ^ n ≤ val xs := by
  have hv := pv_val xs (n + 1) (by omega)
  rw [pv] at hv
  have h1 := (pv_bd hl n).1
  have h2 : lim xs n ≠ 0 := by rw [lim_nat]; exact ht n h
  have h3 := (lim_bd hl n).1
  have h4 : 1 ≤ lim xs n := by omega
  have h5 := Int.mul_le_mul_of_nonneg_right h4 (Int.le_of_lt (pw_pos n))
  rw [Int.one_mul] at h5
  omega

theorem Num.le8 {r : List Int} {v : Int} (h : Num r v) : r.length ≤ 8 ↔ v < Big := by
  constructor
  · intro hl
    have := (val_bd h.limbs).2
    rw [h.val] at this
    exact Int.lt_of_lt_of_le this (pw_le hl)
  · intro hv
    rcases Nat.lt_or_ge 8 r.length with h1 | h1
    · obtain ⟨n, hn⟩ : ∃ n, r.length = n + 1 := ⟨r.length - 1, by omega⟩
      have h2 := val_ge h.limbs h.trim n hn
      have h3 := pw_le (show 8 ≤ n by omega)
      rw [h.val] at h2
      unfold Big at hv
      omega
    · exact h1

theorem Num.may {r : List Int} {v : Int} (h : Num r v) : May r ↔ v < Big := by
  rw [← h.le8]
  exact ⟨fun h => h.1, fun h' => ⟨h', h.trim⟩⟩

theorem num_self {xs : List Int} (hl : Limbs xs) (hm : May xs) : Num xs (val xs) := ⟨hl, hm.2, rfl⟩

theorem Num.nonneg {r : List Int} {v : Int} (h : Num r v) : 0 ≤ v := by rw [← h.val]; exact (val_bd h.limbs).1

theorem May.lt {xs : List Int} (hl : Limbs xs) (hm : May xs) : val xs < Big := (num_self hl hm).may.1 hm

theorem May.nil : May [] := ⟨by simp, by intro n hn; simp at hn⟩

theorem may_ex (xs : List Int) : ∃ b : Bool, (b = true ↔ May xs) := by
  by_cases h : May xs
  · exact ⟨true, ⟨fun _ => h, fun _ => rfl⟩⟩
  · exact ⟨false, ⟨fun e => absurd e (by decide), fun e => absurd e h⟩⟩

theorem yes_iff {p : Prop} (h : p) : true = true ↔ p := ⟨fun _ => h, fun _ => rfl⟩
theorem no_iff {p : Prop} (h : ¬ p) : false = true ↔ p := ⟨fun e => absurd e (by decide), fun e => absurd e h⟩

/-- What a call tells: the row, and the error's number. -/
structure Out (ok neg : Prop) (v : Int) (r : List Int) (k : Int) : Prop where
  is_arg' : ¬ ok → k = 1 ∧ r = []
  is_minus' : ok → neg → k = 20 ∧ r = []
  is_big' : ok → ¬ neg → Big ≤ v → k = 21 ∧ r = []
  is_fine' : ok → ¬ neg → v < Big → k = 0 ∧ Num r v

theorem Out.arg {ok neg : Prop} {v : Int} (h : ¬ ok) : Out ok neg v [] 1 := ⟨fun _ => ⟨rfl, rfl⟩, fun o => absurd o h, fun o => absurd o h, fun o => absurd o h⟩
theorem Out.minus {ok neg : Prop} {v : Int} (h : ok) (n : neg) : Out ok neg v [] 20 := ⟨fun o => absurd h o, fun _ _ => ⟨rfl, rfl⟩, fun _ m => absurd n m, fun _ m => absurd n m⟩
theorem Out.big {ok neg : Prop} {v : Int} (h : ok) (n : ¬ neg) (g : Big ≤ v) : Out ok neg v [] 21 := ⟨fun o => absurd h o, fun _ m => absurd m n, fun _ _ _ => ⟨rfl, rfl⟩, fun _ _ l => absurd g (Int.not_le.2 l)⟩
theorem Out.fine {ok neg : Prop} {v : Int} (r : List Int) (h : ok) (n : ¬ neg) (l : v < Big) (u : Num r v) : Out ok neg v r 0 := ⟨fun o => absurd h o, fun _ m => absurd m n, fun _ _ g => absurd g (Int.not_le.2 l), fun _ _ _ => ⟨rfl, u⟩⟩

theorem Out.is_arg {ok neg : Prop} {v : Int} {r : List Int} {k : Int} (h : Out ok neg v r k) (o : ¬ ok) : k = 1 ∧ r = [] := h.is_arg' o
theorem Out.is_minus {ok neg : Prop} {v : Int} {r : List Int} {k : Int} (h : Out ok neg v r k) (o : ok) (n : neg) : k = 20 ∧ r = [] := h.is_minus' o n
theorem Out.is_big {ok neg : Prop} {v : Int} {r : List Int} {k : Int} (h : Out ok neg v r k) (o : ok) (n : ¬ neg) (g : Big ≤ v) : k = 21 ∧ r = [] := h.is_big' o n g
theorem Out.ok_num {ok neg : Prop} {v : Int} {r : List Int} {k : Int} (h : Out ok neg v r k) (o : ok) (n : ¬ neg) (g : v < Big) : k = 0 ∧ Num r v := h.is_fine' o n g

theorem Out.one {ok neg : Prop} {v : Int} {r s : List Int} {k l : Int} (h : Out ok neg v r k) (h' : Out ok neg v s l) : r = s ∧ k = l := by
  by_cases o : ok
  · by_cases n : neg
    · have a := h.is_minus o n
      have b := h'.is_minus o n
      exact ⟨a.2.trans b.2.symm, a.1.trans b.1.symm⟩
    · rcases Int.lt_or_le v Big with g | g
      · have a := h.ok_num o n g
        have b := h'.ok_num o n g
        exact ⟨a.2.one b.2, a.1.trans b.1.symm⟩
      · have a := h.is_big o n g
        have b := h'.is_big o n g
        exact ⟨a.2.trans b.2.symm, a.1.trans b.1.symm⟩
  · have a := h.is_arg o
    have b := h'.is_arg o
    exact ⟨a.2.trans b.2.symm, a.1.trans b.1.symm⟩

/-- What is told may be. -/
theorem Out.may {ok neg : Prop} {v : Int} {r : List Int} {k : Int} (h : Out ok neg v r k) : May r := by
  by_cases o : ok
  · by_cases n : neg
    · rw [(h.is_minus o n).2]; exact May.nil
    · rcases Int.lt_or_le v Big with g | g
      · exact (h.ok_num o n g).2.may.2 g
      · rw [(h.is_big o n g).2]; exact May.nil
  · rw [(h.is_arg o).2]; exact May.nil

end Go.Proofs.Ytnkjfandknndkaa
