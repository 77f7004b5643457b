/-
  Texts of numbers, as arithmetic: no program.
-/
import Derived.Lib.ItoaNum
import Derived.Lib.Repeat
import Derived.Lib.Join
import Derived.Lib.TrimByte
import Derived.Test.YtnedghhcidohnaaGreatJA1
namespace Go.Proofs.YtnedghhcidohnaaGreat

/-- A digit's byte. -/
def dch (d : Int) : UInt8 := UInt8.ofNat (48 + d.toNat)
/-- The text of digits, the highest one first. -/
def dtext (l : List Int) : List UInt8 := l.reverse.map dch
/-- The text of a number's digits: of none it is one digit 0. -/
def txt (l : List Int) : List UInt8 := if l = [] then [48] else dtext l
/-- s is the text of v. -/
def Txt (s : List UInt8) (v : Int) : Prop := ∃ l, Dig 10 l v ∧ s = txt l

theorem Txt.one {s t : List UInt8} {v : Int} (h : Txt s v) (k : Txt t v) : s = t := by
  obtain ⟨l, hl, rfl⟩ := h
  obtain ⟨m, hm, rfl⟩ := k
  rw [hl.one (by decide) hm]

theorem dch_nat {d : Int} (h0 : 0 ≤ d) (h1 : d < 10) : (dch d).toNat = 48 + d.toNat := by
  unfold dch
  rw [UInt8.toNat_ofNat']
  omega

theorem dtext_append (l m : List Int) : dtext (l ++ m) = dtext m ++ dtext l := by simp [dtext]
theorem dtext_length (l : List Int) : (dtext l).length = l.length := by simp [dtext]
theorem dtext_cons (d : Int) (l : List Int) : dtext (d :: l) = dtext l ++ [dch d] := by simp [dtext]
theorem dtext_snoc (d : Int) (l : List Int) : dtext (l ++ [d]) = dch d :: dtext l := by simp [dtext]

/-- The k lowest digits of u. -/
def digs : Nat → Nat → List Int
  | 0, _ => []
  | k + 1, u => ((u % 10 : Nat) : Int) :: digs k (u / 10)

theorem digs_length (k u : Nat) : (digs k u).length = k := by
  induction k generalizing u with
  | zero => rfl
  | succ k ih => simp [digs, ih]

theorem digs_digs (k u : Nat) : Digs 10 (digs k u) := by
  induction k generalizing u with
  | zero => intro d hd; simp [digs] at hd
  | succ k ih =>
    refine Digs.cons (by omega) ?_ (ih _)
    have := Nat.mod_lt u (show 0 < 10 by decide)
    omega

theorem dval_digs (k u : Nat) (h : u < 10 ^ k) : dval 10 (digs k u) = u := by
  induction k generalizing u with
  | zero => simp at h; subst h; rfl
  | succ k ih =>
    rw [Nat.pow_succ] at h
    simp only [digs, dval]
    rw [ih (u / 10) (by omega)]
    omega

theorem digs_add (n m u : Nat) : digs (n + m) u = digs n u ++ digs m (u / 10 ^ n) := by
  induction n generalizing u with
  | zero => simp [digs]
  | succ n ih =>
    rw [show n + 1 + m = (n + m) + 1 by omega]
    simp only [digs, List.cons_append]
    rw [ih, Nat.div_div_eq_div_mul, Nat.pow_succ, Nat.mul_comm 10]

theorem digs_zero (m : Nat) : digs m 0 = List.replicate m 0 := by
  induction m with
  | zero => rfl
  | succ m ih => simp [digs, ih, List.replicate_succ]

theorem dtext_digs (u : Nat) : dtext (digs (Lib.nDigits u) u) = Lib.decDigits u := by
  induction u using Nat.strongRecOn with
  | _ u ih =>
    by_cases h : u < 10
    · rw [Lib.nDigits_small h, Lib.decDigits_one h]
      simp [digs, dtext, dch, Nat.mod_eq_of_lt h]
    · rw [Lib.nDigits_big h, Lib.decDigits, dif_neg h, digs, dtext_cons, ih (u / 10) (by omega)]
      congr 1

theorem nDigits_le (k u : Nat) (h : u < 10 ^ (k + 1)) : Lib.nDigits u ≤ k + 1 := by
  induction k generalizing u with
  | zero => rw [Lib.nDigits_small (by simpa using h)]; omega
  | succ k ih =>
    by_cases h10 : u < 10
    · rw [Lib.nDigits_small h10]; omega
    · rw [Lib.nDigits_big h10]
      have := ih (u / 10) (by rw [Nat.pow_succ] at h; omega)
      omega

theorem repeatL_48 (c : Nat) : Lib.repeatL [48] c = dtext (List.replicate c 0) := by
  induction c with
  | zero => rfl
  | succ c ih =>
    rw [Lib.repeatL, ih, List.replicate_succ', dtext_snoc]
    rfl

/-- A part's text: all of its digits. -/
theorem part_text (u : Nat) (h : u < 10 ^ 19) : Lib.repeatL [48] (19 - Lib.nDigits u) ++ Lib.decDigits u = dtext (digs 19 u) := by
  have h1 := nDigits_le 18 u h
  obtain ⟨m, hm⟩ : ∃ m, 19 = Lib.nDigits u + m := ⟨19 - Lib.nDigits u, by omega⟩
  rw [show 19 - Lib.nDigits u = m by omega, hm, digs_add, dtext_append, dtext_digs, Nat.div_eq_of_lt (Lib.lt_pow_nDigits u), digs_zero, repeatL_48]

/-- All digits of parts. -/
def flat (ds : List Int) : List Int := (ds.map fun d => digs 19 d.toNat).flatten

theorem flat_digs (ds : List Int) : Digs 10 (flat ds) := by
  intro d hd
  simp only [flat, List.mem_flatten, List.mem_map] at hd
  obtain ⟨l, ⟨a, _, rfl⟩, hl⟩ := hd
  exact digs_digs _ _ d hl

theorem dval_flat (ds : List Int) (h : Digs (10 ^ 19) ds) : dval 10 (flat ds) = dval (10 ^ 19) ds := by
  induction ds with
  | nil => rfl
  | cons d ds ih =>
    have hd := h.head
    have e : flat (d :: ds) = digs 19 d.toNat ++ flat ds := by simp [flat]
    rw [e, dval_append, digs_length, ih h.tail, dval_digs 19 d.toNat (by omega), dval]
    omega

/-- What is put together of the parts' texts, the highest one first. -/
theorem join_parts (ds : List Int) : Lib.join ((ds.map fun d => dtext (digs 19 d.toNat)).reverse) [] = dtext (flat ds) := by
  have hj : ∀ xs : List (List UInt8), Lib.join xs [] = xs.flatten := by
    intro xs
    cases xs with
    | nil => rfl
    | cons x r => rw [Lib.join_cons]; simp [Lib.joinTail]
  rw [hj]
  induction ds with
  | nil => rfl
  | cons d ds ih =>
    have e : flat (d :: ds) = digs 19 d.toNat ++ flat ds := by simp [flat]
    rw [e, dtext_append, List.map_cons, List.reverse_cons, List.flatten_append, ih]
    simp

/-- Without the digits 0 ahead it is the text of the number. -/
theorem trimmed (l : List Int) (h : Digs 10 l) : ∃ t, Dig 10 t (dval 10 l) ∧ Lib.trimLeftB (dtext l) 48 = dtext t := by
  obtain ⟨n, hn⟩ : ∃ n, l.length = n := ⟨_, rfl⟩
  induction n generalizing l with
  | zero =>
    rw [List.length_eq_zero_iff.1 hn]
    exact ⟨[], Dig.nil 10, rfl⟩
  | succ n ih =>
    obtain ⟨c, d, rfl⟩ : ∃ c d, l = c ++ [d] := ⟨l.dropLast, l.getLast (by intro e; rw [e] at hn; simp at hn), (List.dropLast_concat_getLast _).symm⟩
    have hd := h d (by simp)
    have hc : Digs 10 c := fun x hx => h x (by simp [hx])
    rw [dtext_snoc]
    by_cases h0 : d = 0
    · subst h0
      obtain ⟨t, h1, h2⟩ := ih c hc (by simpa using hn)
      refine ⟨t, ?_, ?_⟩
      · rw [dval_append]
        simpa [dval] using h1
      · rw [← h2]
        rfl
    · refine ⟨c ++ [d], ⟨h, ?_, rfl⟩, ?_⟩
      · intro k hk
        simp at hk
        subst hk
        simp
        exact h0
      · rw [dtext_snoc]
        have hne : (dch d == 48) = false := by
          rw [beq_eq_false_iff_ne]
          intro e
          have := congrArg UInt8.toNat e
          rw [dch_nat hd.1 hd.2] at this
          simp at this
          omega
        simp [Lib.trimLeftB, hne]

/-- Print's text. -/
theorem print_txt (ds : List Int) (v : Int) (h : Digs (10 ^ 19) ds) (hv : dval (10 ^ 19) ds = v) : ∃ s, Lib.trimLeftB (Lib.join ((ds.map fun d => dtext (digs 19 d.toNat)).reverse) []) 48 = s ∧ (s = [] → Txt [48] v) ∧ (s ≠ [] → Txt s v) := by
  rw [join_parts]
  obtain ⟨t, h1, h2⟩ := trimmed (flat ds) (flat_digs ds)
  rw [dval_flat ds h, hv] at h1
  refine ⟨_, h2, fun e => ⟨t, h1, ?_⟩, fun e => ⟨t, h1, ?_⟩⟩
  · have : t = [] := by
      have := congrArg List.length e
      rw [dtext_length] at this
      exact List.length_eq_zero_iff.1 this
    simp [txt, this]
  · have : t ≠ [] := fun e' => e (by rw [e']; rfl)
    simp [txt, this]

/-! Texts that come in. -/

/-- The digits of a text, the lowest one first. -/
def dlist (s : List UInt8) : List Int := s.reverse.map fun c => (c.toNat : Int) - 48
/-- All bytes are digits. -/
def AllDig (s : List UInt8) : Prop := ∀ c ∈ s, 48 ≤ c.toNat ∧ c.toNat ≤ 57
/-- It is the one text of a number. -/
def IsNum (s : List UInt8) : Prop := AllDig s ∧ (s.length = 1 ∨ (1 < s.length ∧ s.getD 0 0 ≠ 48))
/-- The number of a text. -/
def nv (s : List UInt8) : Int := dval 10 (dlist s)

theorem dlist_length (s : List UInt8) : (dlist s).length = s.length := by simp [dlist]
theorem dlist_digs {s : List UInt8} (h : AllDig s) : Digs 10 (dlist s) := by
  intro d hd
  simp only [dlist, List.mem_map, List.mem_reverse] at hd
  obtain ⟨c, hc, rfl⟩ := hd
  have := h c hc
  omega
theorem dlist_snoc (s : List UInt8) (c : UInt8) : dlist (s ++ [c]) = ((c.toNat : Int) - 48) :: dlist s := by simp [dlist]
theorem dlist_cons (s : List UInt8) (c : UInt8) : dlist (c :: s) = dlist s ++ [(c.toNat : Int) - 48] := by simp [dlist]

theorem dch_back {c : UInt8} (h : 48 ≤ c.toNat) : dch ((c.toNat : Int) - 48) = c := by
  unfold dch
  rw [show 48 + ((c.toNat : Int) - 48).toNat = c.toNat by omega]
  exact UInt8.ofNat_toNat

theorem dtext_dlist {s : List UInt8} (h : AllDig s) : dtext (dlist s) = s := by
  induction s with
  | nil => rfl
  | cons c s ih =>
    rw [dlist_cons, dtext_snoc, ih fun x hx => h x (List.mem_cons_of_mem _ hx), dch_back (h c List.mem_cons_self).1]

theorem dlist_dtext {l : List Int} (h : Digs 10 l) : dlist (dtext l) = l := by
  induction l with
  | nil => rfl
  | cons d l ih =>
    rw [dtext_cons, dlist_snoc, ih h.tail, dch_nat h.head.1 h.head.2]
    have := h.head
    congr 1
    omega

theorem dtext_all {l : List Int} (h : Digs 10 l) : AllDig (dtext l) := by
  intro c hc
  simp only [dtext, List.mem_map, List.mem_reverse] at hc
  obtain ⟨d, hd, rfl⟩ := hc
  have := h d hd
  rw [dch_nat this.1 this.2]
  omega

theorem dtext_head {l : List Int} (h : Digs 10 l) (t : Trim l) (hne : l ≠ []) : (dtext l).getD 0 0 ≠ 48 := by
  obtain ⟨c, d, rfl⟩ : ∃ c d, l = c ++ [d] := ⟨l.dropLast, l.getLast hne, (List.dropLast_concat_getLast _).symm⟩
  have hd := h d (by simp)
  have ht := t c.length (by simp)
  simp at ht
  rw [dtext_snoc]
  intro e
  have := congrArg UInt8.toNat e
  simp only [List.getD_cons_zero] at this
  rw [dch_nat hd.1 hd.2] at this
  simp at this
  omega

theorem Txt.isNum {s : List UInt8} {v : Int} (h : Txt s v) : IsNum s := by
  obtain ⟨l, hl, rfl⟩ := h
  by_cases e : l = []
  · subst e
    refine ⟨?_, .inl rfl⟩
    intro c hc
    simp [txt] at hc
    subst hc
    decide
  · rw [txt, if_neg e]
    refine ⟨dtext_all hl.digs, ?_⟩
    have hlen := dtext_length l
    have hpos : 0 < l.length := List.length_pos_iff.2 e
    by_cases h1 : l.length = 1
    · exact .inl (hlen.trans h1)
    · exact .inr ⟨by omega, dtext_head hl.digs hl.trim e⟩

theorem Txt.nv {s : List UInt8} {v : Int} (h : Txt s v) : nv s = v := by
  obtain ⟨l, hl, rfl⟩ := h
  by_cases e : l = []
  · subst e
    rw [← hl.val]
    rfl
  · rw [txt, if_neg e, Proofs.YtnedghhcidohnaaGreat.nv, dlist_dtext hl.digs, hl.val]

theorem IsNum.txt {s : List UInt8} (h : IsNum s) : Txt s (nv s) := by
  obtain ⟨ha, hh⟩ := h
  cases s with
  | nil => simp at hh
  | cons c r =>
    by_cases hz : c = 48
    · subst hz
      have hr : r = [] := by
        rcases hh with h1 | ⟨_, h2⟩
        · simpa using h1
        · simp at h2
      subst hr
      exact ⟨[], ⟨fun d hd => by simp at hd, fun n hn => by simp at hn, by decide⟩, rfl⟩
    · refine ⟨dlist (c :: r), ⟨dlist_digs ha, ?_, rfl⟩, ?_⟩
      · intro k hk
        rw [dlist_cons] at hk ⊢
        have hk' : (dlist r).length = k := by simpa using hk
        subst hk'
        simp
        have := ha c List.mem_cons_self
        intro e
        apply hz
        rw [← UInt8.toNat_inj]
        simp
        omega
      · rw [Proofs.YtnedghhcidohnaaGreat.txt, if_neg (by rw [dlist_cons]; simp), dtext_dlist ha]

/-- A text of so many bytes is of no number that may be. -/
theorem IsNum.long {s : List UInt8} (h : IsNum s) (hl : 200 < s.length) : Big ≤ nv s := by
  obtain ⟨l, hd, e⟩ := h.txt
  have hne : l ≠ [] := by
    intro e'
    rw [e'] at e
    rw [e] at hl
    simp [Proofs.YtnedghhcidohnaaGreat.txt] at hl
  rw [Proofs.YtnedghhcidohnaaGreat.txt, if_neg hne] at e
  have hlen : l.length = s.length := by rw [e, dtext_length]
  have h1 := dig_ge (by decide) hd (l.length - 1) (by omega)
  have h2 := bp_le (b := 10) (by decide) (show 155 ≤ l.length - 1 by omega)
  have h3 := ten155
  omega

/-- The part that ends at e. -/
theorem dlist_part (s : List UInt8) (e : Nat) (he : e ≤ s.length) : dlist ((s.take e).drop (e - 19)) = ((dlist s).drop (s.length - e)).take 19 := by
  unfold dlist
  rw [← List.map_drop, ← List.map_take]
  congr 1
  rw [List.reverse_drop, List.length_take, Nat.min_eq_left he, List.reverse_take]
  by_cases h : 19 ≤ e
  · rw [show e - (e - 19) = 19 by omega]
  · rw [show e - (e - 19) = e by omega, List.take_of_length_le (by simp; omega), List.take_of_length_le (by simp; omega)]

/-- The i-th part, the lowest one first. -/
def chunk (l : List Int) (i : Nat) : Int := dval 10 ((l.drop (19 * i)).take 19)
def chunks (l : List Int) (m : Nat) : List Int := (List.range m).map (chunk l)

theorem chunks_length (l : List Int) (m : Nat) : (chunks l m).length = m := by simp [chunks]
theorem chunks_succ (l : List Int) (m : Nat) : chunks l (m + 1) = chunks l m ++ [chunk l m] := by simp [chunks, List.range_succ]

theorem chunk_bd {l : List Int} (h : Digs 10 l) (i : Nat) : 0 ≤ chunk l i ∧ chunk l i < 10 ^ 19 := by
  have h1 := dval_bd (b := 10) (by decide) (l := (l.drop (19 * i)).take 19) fun d hd => h d (List.mem_of_mem_drop (List.mem_of_mem_take hd))
  refine ⟨h1.1, Int.lt_of_lt_of_le h1.2 ?_⟩
  exact bp_le (by decide) (by simp; omega)

theorem chunks_digs {l : List Int} (h : Digs 10 l) (m : Nat) : Digs (10 ^ 19) (chunks l m) := by
  intro d hd
  simp only [chunks, List.mem_map] at hd
  obtain ⟨i, _, rfl⟩ := hd
  exact chunk_bd h i

theorem dval_chunks (l : List Int) (m : Nat) (h : l.length ≤ 19 * m) : dval (10 ^ 19) (chunks l m) = dval 10 l := by
  induction m generalizing l with
  | zero =>
    have : l = [] := List.length_eq_zero_iff.1 (by omega)
    subst this
    rfl
  | succ m ih =>
    have e : chunks l (m + 1) = chunk l 0 :: chunks (l.drop 19) m := by
      simp only [chunks, List.range_succ_eq_map, List.map_cons, List.map_map]
      congr 1
      refine List.map_congr_left fun i _ => ?_
      simp only [Function.comp, chunk, List.drop_drop]
      rw [show 19 * (i + 1) = 19 + 19 * i by omega]
    rw [e, dval, ih (l.drop 19) (by simp; omega)]
    have e2 := dval_append 10 (l.take 19) (l.drop 19)
    rw [List.take_append_drop] at e2
    rw [e2]
    simp only [chunk, Nat.mul_zero, List.drop_zero]
    by_cases h19 : 19 ≤ l.length
    · rw [show (l.take 19).length = 19 by simp; omega]
    · rw [List.drop_of_length_le (by omega : l.length ≤ 19)]
      simp [dval]

/-- What Parse tells of a text. -/
structure ParseOut (s : List UInt8) (r : List Int) (k : Int) : Prop where
  none : ¬ IsNum s → k = 40 ∧ r = []
  big : IsNum s → Big ≤ nv s → k = 21 ∧ r = []
  fine : IsNum s → nv s < Big → k = 0 ∧ Num r (nv s)

theorem ParseOut.one {s : List UInt8} {r r' : List Int} {k k' : Int} (h : ParseOut s r k) (h' : ParseOut s r' k') : r = r' ∧ k = k' := by
  by_cases hn : IsNum s
  · by_cases hb : Big ≤ Proofs.YtnedghhcidohnaaGreat.nv s
    · have a := h.big hn hb
      have b := h'.big hn hb
      exact ⟨a.2.trans b.2.symm, a.1.trans b.1.symm⟩
    · have a := h.fine hn (by omega)
      have b := h'.fine hn (by omega)
      exact ⟨a.2.one b.2, a.1.trans b.1.symm⟩
  · have a := h.none hn
    have b := h'.none hn
    exact ⟨a.2.trans b.2.symm, a.1.trans b.1.symm⟩

/-- What Base tells. -/
structure BaseOut (xs : List Int) (b : Int) (l : List Int) : Prop where
  none : ¬ (May xs ∧ 2 ≤ b) → l = []
  fine : May xs → 2 ≤ b → Dig b l (val xs)

theorem BaseOut.one {xs : List Int} {b : Int} {l m : List Int} (h : BaseOut xs b l) (k : BaseOut xs b m) : l = m := by
  by_cases hh : May xs ∧ 2 ≤ b
  · exact (h.fine hh.1 hh.2).one (by omega) (k.fine hh.1 hh.2)
  · rw [h.none hh, k.none hh]

/-- What Print tells. -/
structure PrintOut (xs : List Int) (s : List UInt8) : Prop where
  none : ¬ May xs → s = []
  fine : May xs → Txt s (val xs)

theorem PrintOut.one {xs : List Int} {s t : List UInt8} (h : PrintOut xs s) (k : PrintOut xs t) : s = t := by
  by_cases hh : May xs
  · exact (h.fine hh).one (k.fine hh)
  · rw [h.none hh, k.none hh]

end Go.Proofs.YtnedghhcidohnaaGreat
