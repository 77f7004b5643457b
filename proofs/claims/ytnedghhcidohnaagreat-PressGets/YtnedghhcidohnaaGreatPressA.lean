/-
  Polynomials as bytes, as arithmetic: no program.
-/
import Derived.Test.YtnedghhcidohnaaGreatPolyMath
import Derived.Test.YtnedghhcidohnaaGreatJW1
import Derived.Test.YtnedghhcidohnaaGreatJN1
namespace Go.Proofs.YtnedghhcidohnaaGreat
open Go.RowKit

/-- An exponent's byte. -/
def eb (a : Int) : UInt8 := UInt8.ofNat a.toNat
/-- A term as bytes. -/
def putTm (t : TL) : List UInt8 := putR t.c ++ [eb t.m.a, eb t.m.b, eb t.m.c, eb t.m.d]
/-- A polynomial as bytes. -/
def putPs (p : List TL) : List UInt8 := putL p.length ++ p.flatMap putTm
/-- It may be by some order. -/
def MayA (p : List TL) : Prop := MayP 0 p ∨ MayP 1 p ∨ MayP 2 p
/-- What Put tells. -/
def PuIs (p : List TL) (S : List UInt8) (k : Int) : Prop := (MayA p ∧ S = putPs p ∧ k = 0) ∨ (¬ MayA p ∧ S = [] ∧ k = 1)
theorem PuIs.ex (p : List TL) : ∃ S k, PuIs p S k := by
  rcases Classical.em (MayA p) with h | h
  · exact ⟨_, _, .inl ⟨h, rfl, rfl⟩⟩
  · exact ⟨_, _, .inr ⟨h, rfl, rfl⟩⟩
/-- What PutList tells. -/
def PutLs (l : List (List TL)) (S : List UInt8) (k : Int) : Prop :=
  ((l.length ≤ 24 ∧ ∀ p ∈ l, MayA p) ∧ S = putL l.length ++ l.flatMap putPs ∧ k = 0) ∨ (¬ (l.length ≤ 24 ∧ ∀ p ∈ l, MayA p) ∧ S = [] ∧ k = 1)
theorem PutLs.ex (l : List (List TL)) : ∃ S k, PutLs l S k := by
  rcases Classical.em (l.length ≤ 24 ∧ ∀ p ∈ l, MayA p) with h | h
  · exact ⟨_, _, .inl ⟨h, rfl, rfl⟩⟩
  · exact ⟨_, _, .inr ⟨h, rfl, rfl⟩⟩

theorem MayA.len {p : List TL} (h : MayA p) : p.length ≤ 60 := by
  rcases h with h | h | h <;> exact h.len
theorem MayA.may {p : List TL} (h : MayA p) : ∀ t ∈ p, MayT t := by
  rcases h with h | h | h <;> exact h.may
theorem MayA.nz {p : List TL} (h : MayA p) : ∀ t ∈ p, t.c.top ≠ 0 := by
  rcases h with h | h | h <;> exact h.nz

theorem putTm_len {t : TL} (h : MayT t) : (putTm t).length ≤ 304 := by
  have := putR_small h.c
  simp [putTm]
  omega
theorem flatMap_len {A : Type} (f : A → List UInt8) (K : Nat) : ∀ l : List A, (∀ t ∈ l, (f t).length ≤ K) → (l.flatMap f).length ≤ K * l.length
  | [], _ => by simp
  | t :: l, h => by
    have h1 := h t (.head _)
    have h2 := flatMap_len f K l (fun s hs => h s (.tail _ hs))
    rw [List.flatMap_cons, List.length_append, List.length_cons, Nat.mul_add]
    omega
theorem putL_few (n : Nat) (h : n ≤ 60) : (putL n).length ≤ 9 := putL_small n (by omega)
theorem putPs_len {p : List TL} (h : MayA p) : (putPs p).length ≤ 18249 := by
  have h1 := flatMap_len putTm 304 p (fun t ht => putTm_len (h.may t ht))
  have h2 := putL_few p.length h.len
  have h3 := h.len
  simp only [putPs, List.length_append]
  have : 304 * p.length ≤ 304 * 60 := Nat.mul_le_mul_left _ h3
  omega
theorem PuIs.len {p : List TL} {S : List UInt8} {k : Int} (h : PuIs p S k) : S.length ≤ 18249 := by
  rcases h with ⟨h, rfl, _⟩ | ⟨_, rfl, _⟩
  · exact putPs_len h
  · simp
theorem PutLs.len {l : List (List TL)} {S : List UInt8} {k : Int} (h : PutLs l S k) : S.length ≤ 438000 := by
  rcases h with ⟨h, rfl, _⟩ | ⟨_, rfl, _⟩
  · have h1 := flatMap_len putPs 18249 l (fun p hp => putPs_len (h.2 p hp))
    have h2 := putL_few l.length (by omega)
    have : 18249 * l.length ≤ 18249 * 24 := Nat.mul_le_mul_left _ h.1
    rw [List.length_append]
    omega
  · simp

/-! ### What bytes begin by -/

/-- What stands behind a coefficient. -/
def TmAft (r : Except Int (RatL × List UInt8)) (res : Except Int (TL × List UInt8)) : Prop :=
  match r with
  | .error e => res = .error e
  | .ok (q, b) => if b.length < 4 then res = .error 60 else res = .ok (⟨q, ⟨((b.getD 0 0).toNat : Int), ((b.getD 1 0).toNat : Int), ((b.getD 2 0).toNat : Int), ((b.getD 3 0).toNat : Int)⟩⟩, b.drop 4)
/-- A term. -/
def TmIs (s : List UInt8) (res : Except Int (TL × List UInt8)) : Prop := ∃ r, RatIs s r ∧ TmAft r res
theorem TmIs.ex (s : List UInt8) : ∃ res, TmIs s res := by
  obtain ⟨r, hr⟩ := RatIs.ex s
  rcases r with e | ⟨q, b⟩
  · exact ⟨_, _, hr, rfl⟩
  · by_cases h : b.length < 4
    · exact ⟨.error 60, _, hr, by unfold TmAft; dsimp only; rw [if_pos h]⟩
    · exact ⟨.ok _, _, hr, by unfold TmAft; dsimp only; rw [if_neg h]⟩

/-- So many things, each told by one. -/
def EachIs {A : Type} (one : List UInt8 → Except Int (A × List UInt8) → Prop) : Nat → List UInt8 → Except Int (List A × List UInt8) → Prop
  | 0, s, res => res = .ok ([], s)
  | n + 1, s, res => ∃ r, one s r ∧ match r with
      | .error e => res = .error e
      | .ok (x, b) => ∃ r2, EachIs one n b r2 ∧ match r2 with
          | .error e => res = .error e
          | .ok (l, c) => res = .ok (x :: l, c)
theorem EachIs.ex {A : Type} {one : List UInt8 → Except Int (A × List UInt8) → Prop} (h : ∀ s, ∃ r, one s r) : ∀ n s, ∃ res, EachIs one n s res
  | 0, s => ⟨_, rfl⟩
  | n + 1, s => by
    obtain ⟨r, hr⟩ := h s
    rcases r with e | ⟨x, b⟩
    · exact ⟨_, _, hr, rfl⟩
    · obtain ⟨r2, h2⟩ := EachIs.ex h n b
      rcases r2 with e | ⟨l, c⟩
      · exact ⟨_, _, hr, _, h2, rfl⟩
      · exact ⟨_, _, hr, _, h2, rfl⟩

/-- How many, and so many things. -/
def ManyIs {A : Type} (one : List UInt8 → Except Int (A × List UInt8) → Prop) (most : Nat) (s : List UInt8) (res : Except Int (List A × List UInt8)) : Prop :=
  match numL s with
  | .error e => res = .error e
  | .ok (n, b) => if most < n then res = .error 62 else EachIs one n b res
theorem ManyIs.ex {A : Type} {one : List UInt8 → Except Int (A × List UInt8) → Prop} (h : ∀ s, ∃ r, one s r) (most : Nat) (s : List UInt8) : ∃ res, ManyIs one most s res := by
  unfold ManyIs
  rcases numL s with e | ⟨n, b⟩
  · exact ⟨_, rfl⟩
  · by_cases hn : most < n
    · exact ⟨.error 62, by dsimp only; rw [if_pos hn]⟩
    · obtain ⟨r, hr⟩ := EachIs.ex h n b
      exact ⟨r, by dsimp only; rw [if_neg hn]; exact hr⟩

/-- Whether the terms may be is asked at last. -/
def GetAft (o : Int) (r res : Except Int (List TL × List UInt8)) : Prop :=
  match r with
  | .error e => res = .error e
  | .ok (l, c) => (MayP o l → res = .ok (l, c)) ∧ (¬ MayP o l → res = .error 62)
/-- A polynomial, by an order. -/
def GetIs (o : Int) (s : List UInt8) (res : Except Int (List TL × List UInt8)) : Prop := ∃ r, ManyIs TmIs 60 s r ∧ GetAft o r res
theorem GetIs.ex (o : Int) (s : List UInt8) : ∃ res, GetIs o s res := by
  obtain ⟨r, hr⟩ := ManyIs.ex TmIs.ex 60 s
  rcases r with e | ⟨l, c⟩
  · exact ⟨_, _, hr, rfl⟩
  · rcases Classical.em (MayP o l) with h | h
    · exact ⟨.ok (l, c), _, hr, fun _ => rfl, fun g => absurd h g⟩
    · exact ⟨.error 62, _, hr, fun g => absurd g h, fun _ => rfl⟩
/-- Polynomials. -/
def GetLs (o : Int) (s : List UInt8) (res : Except Int (List (List TL) × List UInt8)) : Prop := ManyIs (GetIs o) 24 s res
theorem GetLs.ex (o : Int) (s : List UInt8) : ∃ res, GetLs o s res := ManyIs.ex (GetIs.ex o) 24 s

/-- What a call answers. -/
def Told {A : Type} (r : Except Int (List A × List UInt8)) (p : List A) (R : List UInt8) (k : Int) : Prop :=
  match r with
  | .error e => p = [] ∧ R = [] ∧ k = e
  | .ok (x, b) => p = x ∧ R = b ∧ k = 0
theorem Told.ex {A : Type} (r : Except Int (List A × List UInt8)) : ∃ p R k, Told r p R k := by
  rcases r with e | ⟨x, b⟩
  · exact ⟨_, _, _, rfl, rfl, rfl⟩
  · exact ⟨_, _, _, rfl, rfl, rfl⟩
theorem Told.one {A : Type} {r : Except Int (List A × List UInt8)} {p q : List A} {R S : List UInt8} {k j : Int} (h : Told r p R k) (g : Told r q S j) : p = q ∧ R = S ∧ k = j := by
  rcases r with e | ⟨x, b⟩
  · obtain ⟨rfl, rfl, rfl⟩ := h; obtain ⟨rfl, rfl, rfl⟩ := g; exact ⟨rfl, rfl, rfl⟩
  · obtain ⟨rfl, rfl, rfl⟩ := h; obtain ⟨rfl, rfl, rfl⟩ := g; exact ⟨rfl, rfl, rfl⟩

/-- What was told first stands ahead of the rest. -/
def pre {A : Type} (acc : List A) : Except Int (List A × List UInt8) → Except Int (List A × List UInt8)
  | .error e => .error e
  | .ok (l, c) => .ok (acc ++ l, c)
theorem pre_pre {A : Type} (a b : List A) (r : Except Int (List A × List UInt8)) : pre a (pre b r) = pre (a ++ b) r := by
  rcases r with e | ⟨l, c⟩ <;> simp [pre]
theorem pre_nil {A : Type} (r : Except Int (List A × List UInt8)) : pre [] r = r := by
  rcases r with e | ⟨l, c⟩ <;> simp [pre]
/-- A walk's state: j things told, the bytes that are left. -/
def Upto {A : Type} (one : List UInt8 → Except Int (A × List UInt8) → Prop) (n : Nat) (res : Except Int (List A × List UInt8)) (j : Nat) (acc : List A) (b : List UInt8) : Prop :=
  ∃ r2, EachIs one (n - j) b r2 ∧ res = pre acc r2
theorem Upto.start {A : Type} {one : List UInt8 → Except Int (A × List UInt8) → Prop} {n : Nat} {s : List UInt8} {res : Except Int (List A × List UInt8)} (h : EachIs one n s res) : Upto one n res 0 [] s := ⟨res, h, (pre_nil res).symm⟩
theorem Upto.last {A : Type} {one : List UInt8 → Except Int (A × List UInt8) → Prop} {n : Nat} {b : List UInt8} {acc : List A} {res : Except Int (List A × List UInt8)} (h : Upto one n res n acc b) : res = .ok (acc, b) := by
  obtain ⟨r2, h1, h2⟩ := h
  rw [Nat.sub_self] at h1
  rw [h2, show r2 = _ from h1]
  simp [pre]
theorem Upto.step {A : Type} {one : List UInt8 → Except Int (A × List UInt8) → Prop} {n j : Nat} {b : List UInt8} {acc : List A} {res : Except Int (List A × List UInt8)} (h : Upto one n res j acc b) (hj : j < n) :
    ∃ r, one b r ∧ (∀ e, r = .error e → res = .error e) ∧ (∀ x c, r = .ok (x, c) → Upto one n res (j + 1) (acc ++ [x]) c) := by
  obtain ⟨r2, h1, h2⟩ := h
  rw [show n - j = (n - (j + 1)) + 1 by omega] at h1
  obtain ⟨r, h3, h4⟩ := h1
  refine ⟨r, h3, ?_, ?_⟩
  · rintro e rfl
    rw [h2, show r2 = _ from h4]
    rfl
  · rintro x c rfl
    obtain ⟨r3, h5, h6⟩ := h4
    refine ⟨r3, h5, ?_⟩
    rw [h2]
    rcases r3 with e | ⟨l, d⟩
    · rw [show r2 = _ from h6]; rfl
    · rw [show r2 = _ from h6]; simp [pre]
end Go.Proofs.YtnedghhcidohnaaGreat
