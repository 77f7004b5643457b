/-
  Joined: PressJ · PressK · PressL · PressM · PressN · PressO · PressT · PressP.
-/
import Derived.Test.YtnedghhcidohnaaGreatJQ1
import Derived.Test.YtnedghhcidohnaaGreatJW1
import Derived.Test.YtnedghhcidohnaaGreatRParse
import Derived.BigQuiet
import Derived.Deep.QuietTactic
import Derived.Deep.RegionWith
import Derived.Deep.RegionHeld3
import Derived.Test.YtnedghhcidohnaaGreatJN1
import Derived.Test.YtnedghhcidohnaaGreatOwnS

/-! The reference's reader of texts: blanks, the next byte, a byte that is eaten. -/
namespace Go.Proofs.YtnedghhcidohnaaGreat
open Go.RowKit

/-- The reader's variable. -/
def TxB (W : World) (B : Nat) (s : List UInt8) (i : Nat) (bad : Bool) : Prop := W.heap[B]? = some (.cells #[.string (str s), .int .i64 i, .bool bad] 76 (0, 0))
theorem TxB.lt {W : World} {B : Nat} {s : List UInt8} {i : Nat} {bad : Bool} (h : TxB W B s i bad) : B < W.heap.size := (Array.getElem?_eq_some_iff.1 h).1
theorem TxB.el {W : World} {B : Nat} {s : List UInt8} {i : Nat} {bad : Bool} (h : TxB W B s i bad) : W.cell? ⟨B, 0, none⟩ = some (.string (str s)) ∧ W.cell? ⟨B, 1, none⟩ = some (.int .i64 i) ∧ W.cell? ⟨B, 2, none⟩ = some (.bool bad) := by
  refine ⟨?_, ?_, ?_⟩ <;> simp [World.cell?, show W.heap[B]? = _ from h]
theorem TxB.f {W : World} {B : Nat} {s : List UInt8} {i : Nat} {bad : Bool} (h : TxB W B s i bad) (k : Nat) : W.frozen? ⟨B, k, none⟩ = false := by simp [World.frozen?, show W.heap[B]? = _ from h]
theorem TxB.below {W W' : World} {B : Nat} {s : List UInt8} {i : Nat} {bad : Bool} (h : TxB W B s i bad) (hb : Below W.heap.size W W') : TxB W' B s i bad := (hb.block B h.lt).trans h
theorem TxB.drew {W : World} {B : Nat} {s : List UInt8} {i : Nat} {bad : Bool} (h : TxB W B s i bad) : TxB W.drew B s i bad := h
theorem TxB.s1 {W : World} {B : Nat} {s : List UInt8} {i : Nat} {bad : Bool} (h : TxB W B s i bad) (j : Nat) : TxB (W.setCell ⟨B, 1, none⟩ (.int .i64 j)) B s j bad := set_cells h 1 (.int .i64 j)
theorem TxB.s2 {W : World} {B : Nat} {s : List UInt8} {i : Nat} {bad : Bool} (h : TxB W B s i bad) (c : Bool) : TxB (W.setCell ⟨B, 2, none⟩ (.bool c)) B s i c := set_cells h 2 (.bool c)
theorem grown_setk (W : World) (B k : Nat) (v : Value) : W.grownBy (W.setCell ⟨B, k, none⟩ v) (some B) :=
  ⟨rfl, rfl, rfl, by simp [World.setCell], fun j hj hne => Below.heap_setCell W ⟨B, k, none⟩ v j (fun e => hne (by rw [e]))⟩
theorem grown_drew {W W' : World} {row : Option Nat} (h : W.grownBy W' row) : W.grownBy W'.drew row := ⟨h.os, h.tape, h.output, h.size, fun k hk hn => h.block k hk hn⟩

/-- Behind the blanks. -/
def skp (s : List UInt8) (i : Nat) : Nat := i + ((s.drop i).takeWhile (· == 32)).length
theorem drop_cons {s : List UInt8} {i : Nat} (h : i < s.length) : s.drop i = s[i] :: s.drop (i + 1) := List.drop_eq_getElem_cons h
theorem skp_next {s : List UInt8} {i : Nat} (h : i < s.length) (hc : s[i] = 32) : skp s i = skp s (i + 1) := by
  unfold skp
  rw [drop_cons h, List.takeWhile_cons_of_pos (by simp [hc])]
  simp
  omega
theorem skp_here {s : List UInt8} {i : Nat} (h : i < s.length) (hc : s[i] ≠ 32) : skp s i = i := by
  unfold skp
  rw [drop_cons h, List.takeWhile_cons_of_neg (by simp [hc])]
  simp
theorem skp_end {s : List UInt8} {i : Nat} (h : s.length ≤ i) : skp s i = i := by
  unfold skp
  rw [List.drop_of_length_le h]
  simp
theorem skp_le {s : List UInt8} {i : Nat} (h : i ≤ s.length) : skp s i ≤ s.length := by
  unfold skp
  have := (List.takeWhile_sublist (p := (· == 32)) (l := s.drop i)).length_le
  rw [List.length_drop] at this
  omega

set_option maxRecDepth 100000 in
set_option maxHeartbeats 2000000 in
theorem skip_b (B : Nat) (s : List UInt8) (i : Nat) (bad : Bool) (w : World) (h : TxB w B s i bad) (hi : i ≤ s.length) (hs : s.length ≤ 100000) :
    Calls Tryz.prog 89 #[.pointer (some ⟨B, 0, none⟩)] w fun e w' => e = .returned (.tuple #[]) ∧ TxB w' B s (skp s i) bad ∧ w.grownBy w' (some B) := by
  obtain ⟨T, hT⟩ : ∃ T, T = str s := ⟨_, rfl⟩
  obtain ⟨L, hL⟩ : ∃ L, L = s.length := ⟨_, rfl⟩
  have hsz : T.size = L := by rw [hT, str_size, hL]
  have hL' : (L : Int) ≤ 100000 := by omega
  have H : Hid (TxB w B s i bad ∧ i ≤ s.length ∧ T = str s ∧ L = s.length) := ⟨h, hi, hT, hL⟩
  clear h hi hs hT hL
  go_enter Tryz.func89, Tryz.ntmps89
  go_wp2
  go_loopg [] L (fun m wr => ∃ j : Nat, j ≤ L ∧ L - j ≤ m ∧ Hid (TxB wr B s j bad ∧ skp s i = skp s j ∧ w.grownBy wr (some B)))
  case atStart => exact ⟨i, by have := H.out.2.1; have := H.out.2.2.2; omega, by have := H.out.2.1; have := H.out.2.2.2; omega, H.out.1, rfl, grown_refl _ _⟩
  case round =>
    obtain ⟨j, hj, hjr, hO⟩ := hrel
    obtain ⟨c0, c1, _⟩ := hO.out.1.el
    have f1 := hO.out.1.f 1
    rw [← H.out.2.2.1] at c0
    have HJ : Hid (j ≤ L ∧ L - j ≤ _) := ⟨hj, hjr⟩
    by_cases hlt : j < L
    · have hlt' : (j : Int) < (L : Int) := by omega
      have hjs : j < s.length := by have := H.out.2.2.2; omega
      have hjt : j < T.size := by omega
      obtain ⟨b, hb⟩ : ∃ b : Nat, b = (s[j]).toNat := ⟨_, rfl⟩
      have hg : (T[j]'hjt).toNat = b := by rw [hb]; have := H.out.2.2.1; subst this; rfl
      by_cases h32 : s[j] = 32
      · have hb32 : ((b : Int) == 32) = true := by rw [hb, h32]; rfl
        have hst : (j : Int) + 1 ≤ 100001 := by omega
        clear hj hjr hb
        go_wp2_with fail
        go_quiet (fail)
        have bq : Below wr.heap.size wr (wr.drewN nq) := below_drewN (Below.refl _ _) nq
        have HN : Hid (TxB ((wr.drewN nq).setCell ⟨B, 1, none⟩ (.int .i64 ((j + 1 : Nat) : Int))) B s (j + 1) bad ∧ skp s i = skp s (j + 1) ∧ w.grownBy ((wr.drewN nq).setCell ⟨B, 1, none⟩ (.int .i64 ((j + 1 : Nat) : Int))) (some B)) := ⟨(hO.out.1.below bq).s1 _, hO.out.2.1.trans (skp_next hjs h32), grown2 (grown2 hO.out.2.2 (grown_below bq _)) (grown_setk _ _ _ _)⟩
        clear bq h32
        have ej : (((j + 1 : Nat) : Int)) = (j : Int) + 1 := by omega
        rw [ej] at HN
        go_wp2_with fail
        go_roundg (L - (j + 1))
        case measure => have := HJ.out.2; omega
        case rel => exact ⟨j + 1, by omega, Nat.le_refl _, HN.out⟩
      · have hb32 : ((b : Int) == 32) = false := by
          rw [beq_eq_false_iff_ne]
          intro e
          apply h32
          rw [← UInt8.toNat_inj]
          have : (32 : UInt8).toNat = 32 := rfl
          omega
        have HN : Hid (TxB wr B s (skp s i) bad ∧ w.grownBy wr (some B)) := ⟨by rw [hO.out.2.1, skp_here hjs h32]; exact hO.out.1, hO.out.2.2⟩
        clear hj hjr hb h32 hO HJ
        go_wp2_with fail
        go_quiet (fail)
        have bq : Below wr.heap.size wr (wr.drewN nq) := below_drewN (Below.refl _ _) nq
        have HF : Hid (TxB (wr.drewN nq) B s (skp s i) bad ∧ w.grownBy (wr.drewN nq) (some B)) := ⟨HN.out.1.below bq, grown2 HN.out.2 (grown_below bq _)⟩
        clear bq HN
        go_wp2_with fail
        go_end0
        exact ⟨rfl, HF.out⟩
    · have hlt' : j = L := by omega
      subst hlt'
      have hdec : decide ((j : Int) < (j : Int)) = false := by simp
      have HN : Hid (TxB wr B s (skp s i) bad ∧ w.grownBy wr (some B)) := ⟨by rw [hO.out.2.1, skp_end (by have := H.out.2.2.2; omega)]; exact hO.out.1, hO.out.2.2⟩
      clear hj hjr hO HJ hlt
      go_wp2_with fail
      go_quiet (fail)
      have bq : Below wr.heap.size wr (wr.drewN nq) := below_drewN (Below.refl _ _) nq
      have HF : Hid (TxB (wr.drewN nq) B s (skp s i) bad ∧ w.grownBy (wr.drewN nq) (some B)) := ⟨HN.out.1.below bq, grown2 HN.out.2 (grown_below bq _)⟩
      clear bq HN
      go_wp2_with fail
      go_end0
      exact ⟨rfl, HF.out⟩
end Go.Proofs.YtnedghhcidohnaaGreat

/-! The reference's reader of texts: the next byte, a byte that is eaten, digits and letters. -/
namespace Go.Proofs.YtnedghhcidohnaaGreat
open Go.RowKit

/-- The next byte that is no blank; 0: none. -/
def nxt (s : List UInt8) (i : Nat) : UInt8 := s.getD (skp s i) 0
theorem getD_at {s : List UInt8} {j : Nat} (h : j < s.length) : s.getD j 0 = s[j] := by simp [h]

set_option maxRecDepth 100000 in
set_option maxHeartbeats 2000000 in
theorem next_b (B : Nat) (s : List UInt8) (i : Nat) (bad : Bool) (w : World) (h : TxB w B s i bad) (hi : i ≤ s.length) (hs : s.length ≤ 100000) :
    Calls Tryz.prog 66 #[.pointer (some ⟨B, 0, none⟩)] w fun e w' => e = .returned (.int .u8 ((nxt s i).toNat : Int)) ∧ TxB w' B s (skp s i) bad ∧ w.grownBy w' (some B) := by
  obtain ⟨T, hT⟩ : ∃ T, T = str s := ⟨_, rfl⟩
  obtain ⟨L, hL⟩ : ∃ L, L = s.length := ⟨_, rfl⟩
  have hsz : T.size = L := by rw [hT, str_size, hL]
  have hL' : (L : Int) ≤ 100000 := by omega
  obtain ⟨j, hj⟩ : ∃ j, j = skp s i := ⟨_, rfl⟩
  have hjL : j ≤ L := by rw [hj, hL]; exact skp_le hi
  obtain ⟨b, hb⟩ : ∃ b : Nat, (nxt s i).toNat = b := ⟨_, rfl⟩
  rw [hb, ← hj]
  have H : Hid (TxB w B s i bad ∧ i ≤ s.length ∧ T = str s ∧ L = s.length ∧ j = skp s i ∧ s.length ≤ 100000 ∧ (nxt s i).toNat = b) := ⟨h, hi, hT, hL, hj, hs, hb⟩
  clear h hi hs hT hL hj hb
  go_enter Tryz.func66, Tryz.ntmps66
  go_wp2_with fail
  refine (skip_b B s i bad _ H.out.1 H.out.2.1 H.out.2.2.2.2.2.1).mono ?_
  rw [← H.out.2.2.2.2.1]
  rintro e w1 ⟨rfl, q1, q2⟩
  obtain ⟨c0, c1, _⟩ := q1.el
  rw [← H.out.2.2.1] at c0
  have H1 : Hid (TxB w1 B s j bad ∧ w.grownBy w1 (some B)) := ⟨q1, q2⟩
  clear q1 q2
  by_cases hlt : j < L
  · have hlt' : (j : Int) < (L : Int) := by omega
    have hjs : j < s.length := by have := H.out.2.2.2.1; omega
    have hjt : j < T.size := by omega
    have hg : (T[j]'hjt).toNat = b := by
      rw [← H.out.2.2.2.2.2.2, nxt, ← H.out.2.2.2.2.1, getD_at hjs]
      have := H.out.2.2.1
      subst this
      rfl
    go_wp2_with fail
    go_quiet (fail)
    have HA : Hid (TxB (w1.drewN nq) B s j bad ∧ w.grownBy (w1.drewN nq) (some B)) := ⟨H1.out.1.below (below_drewN (Below.refl w1.heap.size w1) nq), grown2 H1.out.2 (grown_below (below_drewN (Below.refl w1.heap.size w1) nq) _)⟩
    clear c0 c1
    generalize w1.drewN nq = W1 at HA ⊢
    obtain ⟨c0, c1, _⟩ := HA.out.1.el
    rw [← H.out.2.2.1] at c0
    go_wp2_with fail
    go_quiet (fail)
    have HF : Hid (TxB (W1.drewN nq) B s j bad ∧ w.grownBy (W1.drewN nq) (some B)) := ⟨HA.out.1.below (below_drewN (Below.refl W1.heap.size W1) nq), grown2 HA.out.2 (grown_below (below_drewN (Below.refl W1.heap.size W1) nq) _)⟩
    clear c0 c1
    go_wp2_with fail
    go_ret
    exact ⟨rfl, HF.out⟩
  · have hjL' : j = L := by omega
    subst hjL'
    have hn : b = 0 := by
      rw [← H.out.2.2.2.2.2.2, nxt, ← H.out.2.2.2.2.1, H.out.2.2.2.1]
      simp
    subst hn
    have hdec : decide ((j : Int) < (j : Int)) = false := by simp
    go_wp2_with fail
    go_quiet (fail)
    have HF : Hid (TxB (w1.drewN nq) B s j bad ∧ w.grownBy (w1.drewN nq) (some B)) := ⟨H1.out.1.below (below_drewN (Below.refl w1.heap.size w1) nq), grown2 H1.out.2 (grown_below (below_drewN (Below.refl w1.heap.size w1) nq) _)⟩
    clear c0 c1
    go_wp2_with fail
    go_ret
    exact ⟨rfl, HF.out⟩
end Go.Proofs.YtnedghhcidohnaaGreat

/-! The reference's reader of texts: a byte that is eaten; digits; letters. -/
namespace Go.Proofs.YtnedghhcidohnaaGreat
open Go.RowKit

/-- The reader stands there, but for blanks. -/
def TxP (W : World) (B : Nat) (s : List UInt8) (i : Nat) (bad : Bool) : Prop := ∃ j, TxB W B s j bad ∧ skp s j = skp s i ∧ j ≤ s.length
theorem TxB.p {W : World} {B : Nat} {s : List UInt8} {i : Nat} {bad : Bool} (h : TxB W B s i bad) (hi : i ≤ s.length) : TxP W B s i bad := ⟨i, h, rfl, hi⟩
theorem TxP.drew {W : World} {B : Nat} {s : List UInt8} {i : Nat} {bad : Bool} (h : TxP W B s i bad) : TxP W.drew B s i bad := h
theorem TxP.below {W W' : World} {B : Nat} {s : List UInt8} {i : Nat} {bad : Bool} (h : TxP W B s i bad) (hb : Below W.heap.size W W') : TxP W' B s i bad :=
  let ⟨j, h1, h2⟩ := h; ⟨j, h1.below hb, h2⟩
theorem skp_skp {s : List UInt8} {i : Nat} : skp s (skp s i) = skp s i := by
  by_cases h : skp s i < s.length
  · refine skp_here h ?_
    have : ∀ (l : List UInt8) (k : Nat), k = (l.takeWhile (· == 32)).length → ∀ (hk : k < l.length), l[k] ≠ 32 := by
      intro l
      induction l with
      | nil => intro k _ hk; simp at hk
      | cons c l ih =>
        intro k hk hl
        by_cases hc : c = 32
        · rw [List.takeWhile_cons_of_pos (by simp [hc])] at hk
          simp at hk
          subst hk
          simp only [List.getElem_cons_succ]
          exact ih _ rfl _
        · rw [List.takeWhile_cons_of_neg (by simp [hc])] at hk
          simp at hk
          subst hk
          simpa using hc
    have h2 := this (s.drop i) _ rfl (by rw [List.length_drop]; unfold skp at h; omega)
    rw [List.getElem_drop] at h2
    exact h2
  · exact skp_end (by omega)
theorem skip_p (B : Nat) (s : List UInt8) (i : Nat) (bad : Bool) (w : World) (h : TxP w B s i bad) (hs : s.length ≤ 100000) :
    Calls Tryz.prog 89 #[.pointer (some ⟨B, 0, none⟩)] w fun e w' => e = .returned (.tuple #[]) ∧ TxB w' B s (skp s i) bad ∧ w.grownBy w' (some B) := by
  obtain ⟨j, h1, h2, h3⟩ := h
  have := skip_b B s j bad w h1 h3 hs
  rwa [h2] at this
theorem next_p (B : Nat) (s : List UInt8) (i : Nat) (bad : Bool) (w : World) (h : TxP w B s i bad) (hs : s.length ≤ 100000) :
    Calls Tryz.prog 66 #[.pointer (some ⟨B, 0, none⟩)] w fun e w' => e = .returned (.int .u8 ((nxt s i).toNat : Int)) ∧ TxB w' B s (skp s i) bad ∧ w.grownBy w' (some B) := by
  obtain ⟨j, h1, h2, h3⟩ := h
  have := next_b B s j bad w h1 h3 hs
  unfold nxt at this ⊢
  rwa [h2] at this
theorem TxP.len {W : World} {B : Nat} {s : List UInt8} {i : Nat} {bad : Bool} (h : TxP W B s i bad) : skp s i ≤ s.length := by
  obtain ⟨j, _, h2, h3⟩ := h
  rw [← h2]
  exact skp_le h3
theorem TxB.back {W : World} {B : Nat} {s : List UInt8} {i : Nat} {bad : Bool} (h : TxB W B s (skp s i) bad) (hi : skp s i ≤ s.length) : TxP W B s i bad := ⟨_, h, skp_skp, hi⟩

/-- Worlds that differ in where the reader stands, but for blanks, alone. -/
structure TxN (w : World) (B : Nat) (s : List UInt8) (i : Nat) (bad : Bool) where
  v : World
  h : w.grownBy v (some B)
  t : TxP v B s i bad
theorem region_tx {P : Program} {id : Nat} {Q : Exit → Act → World → Prop} {a : Act} {w : World} {l : List Oper} {B : Nat} {s : List UInt8} {i : Nat} {bad : Bool} (ht : TxP w B s i bad) (hm : P.follows .mixedOrders = true) (hB : Region.lexB .any l.toArray = true)
    (h : wpQuiet P l.toArray (fun w' => ∃ n : TxN w B s i bad, w' = n.v) (fun a' => ∀ w', (∃ n : TxN w B s i bad, w' = n.v) → Q .normal a' w') l a) : (Code.region id l.toArray true).wp P Q a w :=
  wp_region_quiet (C := fun w' => ∃ n : TxN w B s i bad, w' = n.v) hm hB ⟨⟨_, grown_drew (grown_refl _ _), ht.drew⟩, rfl⟩ (by simpa using h)
theorem next_n {w : World} {B : Nat} {s : List UInt8} {i : Nat} {bad : Bool} (hs : s.length ≤ 100000) (n : TxN w B s i bad) (b : Nat) (hb : (nxt s i).toNat = b) :
    Calls Tryz.prog 66 #[.pointer (some ⟨B, 0, none⟩)] n.v fun e w' => e = .returned (.int .u8 (b : Int)) ∧ ∃ m : TxN w B s i bad, w' = m.v := by
  subst hb
  exact (next_p B s i bad _ n.t hs).mono fun e w' ⟨h1, h2, h3⟩ => ⟨h1, ⟨w', grown2 n.h h3, h2.back n.t.len⟩, rfl⟩

/-- Does the byte come next? -/
def eats (s : List UInt8) (i : Nat) (c : UInt8) : Bool := decide (skp s i < s.length) && (nxt s i == c)
def eatI (s : List UInt8) (i : Nat) (c : UInt8) : Nat := if eats s i c then skp s i + 1 else i
theorem eatI_le {s : List UInt8} {i : Nat} {c : UInt8} (h : i ≤ s.length) : eatI s i c ≤ s.length := by
  unfold eatI
  split
  · rename_i he
    simp [eats] at he
    omega
  · exact h

set_option maxRecDepth 100000 in
set_option maxHeartbeats 2000000 in
theorem eat_b (B : Nat) (s : List UInt8) (i : Nat) (bad : Bool) (c : UInt8) (n : Int) (w : World) (h : TxP w B s i bad) (hs : s.length ≤ 100000) (hc : c ≠ 0) (hn : n = (c.toNat : Int)) :
    Calls Tryz.prog 65 #[.pointer (some ⟨B, 0, none⟩), .int .u8 n] w fun e w' => e = .returned (.bool (eats s i c)) ∧ TxP w' B s (eatI s i c) bad ∧ w.grownBy w' (some B) := by
  obtain ⟨T, hT⟩ : ∃ T, T = str s := ⟨_, rfl⟩
  obtain ⟨L, hL⟩ : ∃ L, L = s.length := ⟨_, rfl⟩
  have hsz : T.size = L := by rw [hT, str_size, hL]
  have hL' : (L : Int) ≤ 100000 := by omega
  obtain ⟨j, hj⟩ : ∃ j, j = skp s i := ⟨_, rfl⟩
  have hjL : j ≤ L := by rw [hj, hL]; exact h.len
  obtain ⟨b, hb⟩ : ∃ b : Nat, (nxt s i).toNat = b := ⟨_, rfl⟩
  obtain ⟨x, hx⟩ : ∃ x, eats s i c = x := ⟨_, rfl⟩
  rw [hx]
  obtain ⟨i', hi'⟩ : ∃ i', eatI s i c = i' := ⟨_, rfl⟩
  rw [hi']
  have H : Hid (TxP w B s i bad ∧ 0 ≤ L ∧ T = str s ∧ L = s.length ∧ j = skp s i ∧ s.length ≤ 100000 ∧ (nxt s i).toNat = b) := ⟨h, Nat.zero_le _, hT, hL, hj, hs, hb⟩
  have HZ : Hid (Below w.heap.size w w.drew) := (Below.refl _ _).drew
  cases x with
  | true =>
    have hx' : j < L ∧ nxt s i = c := by
      simp [eats] at hx
      exact ⟨by rw [hj, hL]; exact hx.1, hx.2⟩
    have hi2 : i' = j + 1 := by rw [← hi']; unfold eatI; rw [if_pos hx, hj]
    have hnb : n = (b : Int) := by rw [hn, ← hb, hx'.2]
    have hne : ((b : Int) != n) = false := by rw [hnb]; simp
    have hjl : (j : Int) < (L : Int) := by omega
    have hge : ¬ (L : Int) ≤ (j : Int) := by omega
    have hb2 : (b : Int) < 256 := by rw [← hb]; have := (nxt s i).toNat_lt; omega
    subst hi2
    clear h hs hT hL hj hb hx hi' hx' hc hn
    go_enter Tryz.func65, Tryz.ntmps65
    go_wp2_with fail
    go_region_with (first
      | (go_at_call 66; refine (next_p B s i bad _ (H.out.1.below HZ.out) H.out.2.2.2.2.2.1).mono ?_; rw [H.out.2.2.2.2.2.2, ← H.out.2.2.2.2.1]; rintro e w2 ⟨rfl, q1, q2⟩; have q3 : w.grownBy w2 (some B) := grown2 (grown_below HZ.out _) q2; obtain ⟨c0, c1, _⟩ := q1.el; rw [← H.out.2.2.1] at c0; have f1 := q1.f 1; have H2 : Hid (TxB w2 B s j bad ∧ w.grownBy w2 (some B)) := ⟨q1, q3⟩; clear q1 q2 q3))
    all_goals
      have ej : (((j + 1 : Nat) : Int)) = (j : Int) + 1 := by omega
      have HN : Hid (TxB (w2.setCell ⟨B, 1, none⟩ (.int .i64 ((j + 1 : Nat) : Int))) B s (j + 1) bad ∧ w.grownBy (w2.setCell ⟨B, 1, none⟩ (.int .i64 ((j + 1 : Nat) : Int))) (some B)) := ⟨H2.out.1.s1 _, grown2 H2.out.2 (grown_setk _ _ _ _)⟩
      rw [ej] at HN
      go_wp2_with fail
      go_ret
      exact ⟨rfl, HN.out.1.p (by have := H.out.2.2.2.1; omega), HN.out.2⟩
  | false =>
    have hx' : nxt s i ≠ c := by
      intro e
      have : ¬ skp s i < s.length := by
        intro h1
        simp [eats, h1, e] at hx
      apply hc
      rw [← e, nxt, List.getD_eq_getElem?_getD, List.getElem?_eq_none (by omega)]
      rfl
    have hi2 : i' = i := by rw [← hi']; unfold eatI; rw [if_neg (by rw [hx]; simp)]
    have hne : ((b : Int) != n) = true := by
      rw [bne_iff_ne]
      intro e
      apply hx'
      rw [← UInt8.toNat_inj]
      omega
    have hb2 : (b : Int) < 256 := by rw [← hb]; have := (nxt s i).toNat_lt; omega
    rw [hi2]
    have wne : Nonempty (TxN w B s i bad) := ⟨⟨w, grown_refl _ _, h⟩⟩
    clear h hs hT hL hj hb hx hi' hi2 hx' hc hn
    go_enter Tryz.func65, Tryz.ntmps65
    go_wp2_with fail
    refine region_tx H.out.1 (by kernel_rfl) (by kernel_rfl) ?_
    repeat (go_big_quiet_step ((go_at_call 66; exact next_n H.out.2.2.2.2.2.1 _ b H.out.2.2.2.2.2.2)))
    refine wpQuiet_nil ?_
    intro _ hw
    obtain ⟨nq, hq⟩ := hw
    subst hq
    have HF : Hid (TxP nq.v B s i bad ∧ w.grownBy nq.v (some B)) := ⟨nq.t, nq.h⟩
    clear wne
    go_wp2_with fail
    go_ret
    exact ⟨rfl, HF.out⟩
end Go.Proofs.YtnedghhcidohnaaGreat

/-! The reference's reader of texts: digits, letters, numbers. -/
namespace Go.Proofs.YtnedghhcidohnaaGreat
open Go.RowKit

def isDig (c : UInt8) : Bool := decide (48 ≤ c.toNat) && decide (c.toNat ≤ 57)
set_option maxHeartbeats 1000000 in
theorem digit_b (c : UInt8) (n : Int) (w : World) (hn : n = (c.toNat : Int)) :
    Calls Tryz.prog 128 #[.int .u8 n] w fun e w' => e = .returned (.bool (isDig c)) ∧ w' = w := by
  obtain ⟨x, hx⟩ : ∃ x, isDig c = x := ⟨_, rfl⟩
  rw [hx]
  have hb : n < 256 := by rw [hn]; have := c.toNat_lt; omega
  have h0 : 0 ≤ n := by omega
  by_cases h1 : 48 ≤ n
  · by_cases h2 : n ≤ 57
    · have : x = true := by rw [← hx]; simp [isDig]; omega
      subst this
      clear hx hn
      go_enter Tryz.func128, Tryz.ntmps128
      go_wp2
      go_ret
      exact ⟨rfl, rfl⟩
    · have : x = false := by rw [← hx]; simp [isDig]; omega
      subst this
      clear hx hn
      go_enter Tryz.func128, Tryz.ntmps128
      go_wp2
      go_ret
      exact ⟨rfl, rfl⟩
  · have : x = false := by rw [← hx]; simp [isDig]; omega
    subst this
    clear hx hn
    go_enter Tryz.func128, Tryz.ntmps128
    go_wp2
    go_ret
    exact ⟨rfl, rfl⟩

/-- Which variable the letter is; -1: none. -/
def varI (c : UInt8) : Int := if c = 120 then 0 else if c = 121 then 1 else if c = 122 then 2 else if c = 119 then 3 else -1
set_option maxRecDepth 100000 in
set_option maxHeartbeats 2000000 in
theorem variable_b (c : UInt8) (n : Int) (w : World) (hn : n = (c.toNat : Int)) :
    Calls Tryz.prog 117 #[.int .u8 n] w fun e w' => e = .returned (.int .i64 (varI c)) ∧ w' = w := by
  obtain ⟨x, hx⟩ : ∃ x, varI c = x := ⟨_, rfl⟩
  rw [hx]
  have hb : n < 256 := by rw [hn]; have := c.toNat_lt; omega
  have h0 : 0 ≤ n := by omega
  have he : ∀ k : UInt8, ((k.toNat : Int) == n) = decide (c = k) := fun k => by
    by_cases e : c = k
    · subst e; simp [hn]
    · simp only [e, decide_false]
      rw [beq_eq_false_iff_ne]
      intro h
      apply e
      rw [← UInt8.toNat_inj]
      omega
  have e0 := he 120
  have e1 := he 121
  have e2 := he 122
  have e3 := he 119
  simp only [show (120 : UInt8).toNat = 120 from rfl, show (121 : UInt8).toNat = 121 from rfl, show (122 : UInt8).toNat = 122 from rfl, show (119 : UInt8).toNat = 119 from rfl] at e0 e1 e2 e3
  have g0 : (({ data := #[120, 121, 122, 119] } : ByteArray)[0]'(by decide)).toNat = 120 := rfl
  have g1 : (({ data := #[120, 121, 122, 119] } : ByteArray)[1]'(by decide)).toNat = 121 := rfl
  have g2 : (({ data := #[120, 121, 122, 119] } : ByteArray)[2]'(by decide)).toNat = 122 := rfl
  have g3 : (({ data := #[120, 121, 122, 119] } : ByteArray)[3]'(by decide)).toNat = 119 := rfl
  clear he hn
  by_cases c0 : c = 120
  · have : x = 0 := by rw [← hx, c0]; rfl
    subst this
    simp only [c0, decide_true] at e0
    clear hx c0
    go_enter Tryz.func117, Tryz.ntmps117
    go_wp2
    go_rounds 5
    go_ret
    exact ⟨rfl, rfl⟩
  · simp only [c0, decide_false] at e0
    by_cases c1 : c = 121
    · have : x = 1 := by rw [← hx, c1]; rfl
      subst this
      simp only [c1, decide_true] at e1
      clear hx c1
      go_enter Tryz.func117, Tryz.ntmps117
      go_wp2
      go_rounds 5
      go_ret
      exact ⟨rfl, rfl⟩
    · simp only [c1, decide_false] at e1
      by_cases c2 : c = 122
      · have : x = 2 := by rw [← hx, c2]; rfl
        subst this
        simp only [c2, decide_true] at e2
        clear hx c2
        go_enter Tryz.func117, Tryz.ntmps117
        go_wp2
        go_rounds 5
        go_ret
        exact ⟨rfl, rfl⟩
      · simp only [c2, decide_false] at e2
        by_cases c3 : c = 119
        · have : x = 3 := by rw [← hx, c3]; rfl
          subst this
          simp only [c3, decide_true] at e3
          clear hx c3
          go_enter Tryz.func117, Tryz.ntmps117
          go_wp2
          go_rounds 5
          go_ret
          exact ⟨rfl, rfl⟩
        · simp only [c3, decide_false] at e3
          have : x = -1 := by rw [← hx]; simp [varI, c0, c1, c2, c3]
          subst this
          clear hx c0 c1 c2 c3
          go_enter Tryz.func117, Tryz.ntmps117
          go_wp2
          go_rounds 5
          go_ret
          exact ⟨rfl, rfl⟩
end Go.Proofs.YtnedghhcidohnaaGreat

/-! The reference's reader of texts: a number. -/
namespace Go.Proofs.YtnedghhcidohnaaGreat
open Go.RowKit

/-- The digits that stand there. -/
def dgs (s : List UInt8) (j : Nat) : List UInt8 := (s.drop j).takeWhile isDig
/-- Digits that are a number. -/
def okD (l : List UInt8) : Bool := l.length == 1 || (decide (1 < l.length) && l.getD 0 0 != 48)
theorem tw_pre (l : List UInt8) : ∃ r, l = l.takeWhile isDig ++ r ∧ ∀ c t, r = c :: t → isDig c = false := by
  refine ⟨l.dropWhile isDig, (List.takeWhile_append_dropWhile ..).symm, ?_⟩
  induction l with
  | nil => intro c t h; simp at h
  | cons d l ih =>
    intro c t h
    by_cases hd : isDig d = true
    · rw [List.dropWhile_cons_of_pos hd] at h
      exact ih c t h
    · rw [List.dropWhile_cons_of_neg hd] at h
      injection h with h1 h2
      subst h1
      simpa using hd
theorem tw_all (l : List UInt8) : ∀ c ∈ l.takeWhile isDig, isDig c = true := by
  induction l with
  | nil => intro c h; simp at h
  | cons d l ih =>
    intro c h
    by_cases hd : isDig d = true
    · rw [List.takeWhile_cons_of_pos hd] at h
      rcases List.mem_cons.1 h with rfl | h
      · exact hd
      · exact ih c h
    · rw [List.takeWhile_cons_of_neg hd] at h
      simp at h
theorem dgs_le {s : List UInt8} {j : Nat} (h : j ≤ s.length) : j + (dgs s j).length ≤ s.length := by
  obtain ⟨r, hr, _⟩ := tw_pre (s.drop j)
  have := congrArg List.length hr
  rw [List.length_append, List.length_drop] at this
  unfold dgs
  omega
theorem dgs_in {s : List UInt8} {j k : Nat} (hj : j ≤ s.length) (h : k < (dgs s j).length) : ∃ h2 : j + k < s.length, isDig (s[j + k]) = true := by
  have h1 := dgs_le hj
  have h2 : j + k < s.length := by omega
  refine ⟨h2, ?_⟩
  obtain ⟨r, hr, _⟩ := tw_pre (s.drop j)
  have hw : k < ((s.drop j).takeWhile isDig).length := h
  have e : (s.drop j)[k]'(by rw [List.length_drop]; omega) = ((s.drop j).takeWhile isDig)[k]'hw := by
    have : (s.drop j)[k]? = ((s.drop j).takeWhile isDig)[k]? := by
      conv => lhs; rw [hr]
      rw [List.getElem?_append_left hw]
    rw [List.getElem?_eq_getElem (by rw [List.length_drop]; omega), List.getElem?_eq_getElem hw] at this
    injection this
  rw [List.getElem_drop] at e
  rw [e]
  exact tw_all _ _ (List.getElem_mem _)
theorem dgs_out {s : List UInt8} {j : Nat} (h : j + (dgs s j).length < s.length) : isDig (s[j + (dgs s j).length]) = false := by
  obtain ⟨r, hr, hc⟩ := tw_pre (s.drop j)
  have hl := congrArg List.length hr
  rw [List.length_append, List.length_drop] at hl
  cases r with
  | nil => simp at hl; unfold dgs at h; omega
  | cons c t =>
    have hh := hc c t rfl
    have : (s.drop j)[(dgs s j).length]? = some c := by
      conv => lhs; rw [hr]
      unfold dgs
      rw [List.getElem?_append_right (Nat.le_refl _)]
      simp
    rw [List.getElem?_drop, List.getElem?_eq_getElem h] at this
    injection this with this
    rw [this]
    exact hh
theorem dgs_text {s : List UInt8} {j : Nat} : (s.take (j + (dgs s j).length)).drop j = dgs s j := by
  obtain ⟨r, hr, _⟩ := tw_pre (s.drop j)
  rw [List.drop_take]
  conv => lhs; rw [hr]
  rw [show j + (dgs s j).length - j = ((s.drop j).takeWhile isDig).length by unfold dgs; omega, List.take_left]
  rfl
theorem dgs_all (s : List UInt8) (j : Nat) : AllDig (dgs s j) := fun c hc => by
  have := tw_all _ c hc
  simp [isDig] at this
  exact this
theorem okD_num {s : List UInt8} (h : AllDig s) : okD s = true ↔ IsNum s := by
  unfold okD IsNum
  simp [h]

set_option maxRecDepth 100000 in
set_option maxHeartbeats 4000000 in
theorem number_b (B : Nat) (s : List UInt8) (i : Nat) (bad : Bool) (w : World) (h : TxP w B s i bad) (hs : s.length ≤ 100000) :
    Calls Tryz.prog 118 #[.pointer (some ⟨B, 0, none⟩)] w fun e w' => e = .returned (.string (str (dgs s (skp s i)))) ∧ TxB w' B s (skp s i + (dgs s (skp s i)).length) (bad || !okD (dgs s (skp s i))) ∧ w.grownBy w' (some B) := by
  obtain ⟨T, hT⟩ : ∃ T, T = str s := ⟨_, rfl⟩
  obtain ⟨L, hL⟩ : ∃ L, L = s.length := ⟨_, rfl⟩
  have hsz : T.size = L := by rw [hT, str_size, hL]
  have hL' : (L : Int) ≤ 100000 := by omega
  obtain ⟨j, hj⟩ : ∃ j, j = skp s i := ⟨_, rfl⟩
  have hjL : j ≤ L := by rw [hj, hL]; exact h.len
  rw [← hj]
  obtain ⟨D, hD⟩ : ∃ D, D = dgs s j := ⟨_, rfl⟩
  obtain ⟨N, hN⟩ : ∃ N, N = D.length := ⟨_, rfl⟩
  have hjN : j + N ≤ L := by rw [hN, hD, hL]; exact dgs_le (by omega)
  have hjN' : (j : Int) + (N : Int) ≤ (L : Int) := by omega
  rw [← hD, ← hN]
  obtain ⟨x, hx⟩ : ∃ x, (bad || !okD D) = x := ⟨_, rfl⟩
  rw [hx]
  have hxt : T.extract j (j + N) = str D := by rw [hT, ext_str, hN, hD, dgs_text]
  have H : Hid (TxP w B s i bad ∧ T = str s ∧ L = s.length ∧ j = skp s i ∧ s.length ≤ 100000 ∧ D = dgs s j ∧ N = D.length ∧ (bad || !okD D) = x) := ⟨h, hT, hL, hj, hs, hD, hN, hx⟩
  clear h hs hT hL hj hD hN hx
  go_enter Tryz.func118, Tryz.ntmps118
  go_wp2_with fail
  refine (skip_p B s i bad _ H.out.1 H.out.2.2.2.2.1).mono ?_
  rw [← H.out.2.2.2.1]
  rintro e w1 ⟨rfl, q1, q2⟩
  obtain ⟨_, c1, _⟩ := q1.el
  have H1 : Hid (TxB w1 B s j bad ∧ w.grownBy w1 (some B)) := ⟨q1, q2⟩
  clear q1 q2
  go_wp2_with fail
  clear c1
  go_loopg [] N (fun m wr => ∃ p : Nat, j ≤ p ∧ p ≤ j + N ∧ j + N - p ≤ m ∧ Hid (TxB wr B s p bad ∧ w.grownBy wr (some B)))
  case atStart => exact ⟨j, Nat.le_refl _, by omega, by omega, H1.out⟩
  case round =>
    obtain ⟨p, hp, hk, hkr, hO⟩ := hrel
    obtain ⟨c0, c1, _⟩ := hO.out.1.el
    have f1 := hO.out.1.f 1
    rw [← H.out.2.1] at c0
    have HJ : Hid (p ≤ j + N ∧ j + N - p ≤ _ ∧ j ≤ p) := ⟨hk, hkr, hp⟩
    by_cases hlt : p < j + N
    · have hpl : p < L := by omega
      have hps : p < s.length := by have := H.out.2.2.1; omega
      have hd : isDig (s[p]) = true := by
        have h1 := H.out.2.2.2.2.2.1
        have h2 := H.out.2.2.2.2.2.2.1
        obtain ⟨h3, h4⟩ := dgs_in (s := s) (j := j) (k := p - j) (by have := H.out.2.2.1; omega) (by rw [← h1, ← h2]; omega)
        have e : j + (p - j) = p := by omega
        simp only [e] at h4
        exact h4
      have hlt' : (p : Int) < (L : Int) := by omega
      have hpt : p < T.size := by omega
      obtain ⟨c, hc⟩ : ∃ c, c = s[p] := ⟨_, rfl⟩
      have HC : Hid (isDig c = true) := by rw [hc]; exact hd
      have hg : T[p]'hpt = c := by rw [hc]; have := H.out.2.1; subst this; rfl
      have hst : (p : Int) + 1 ≤ 100001 := by omega
      have HL : Hid (p < j + N) := hlt
      clear hk hkr hd hc hps hp hlt hjL hjN hjN'
      go_wp2_with fail
      go_quiet ((go_at_call 128; exact (digit_b c _ _ rfl).mono fun _ _ ⟨he, hw⟩ => ⟨he.trans (by rw [HC.out]), _, hw⟩))
      have HN : Hid (TxB ((wr.drewN nq).setCell ⟨B, 1, none⟩ (.int .i64 ((p + 1 : Nat) : Int))) B s (p + 1) bad ∧ w.grownBy ((wr.drewN nq).setCell ⟨B, 1, none⟩ (.int .i64 ((p + 1 : Nat) : Int))) (some B)) := ⟨(hO.out.1.below (below_drewN (Below.refl _ _) nq)).s1 _, grown2 (grown2 hO.out.2 (grown_below (below_drewN (Below.refl _ _) nq) _)) (grown_setk _ _ _ _)⟩
      have ej : (((p + 1 : Nat) : Int)) = (p : Int) + 1 := by omega
      rw [ej] at HN
      go_wp2_with fail
      go_roundg (j + N - (p + 1))
      case measure => have := HJ.out.2.1; have := HL.out; omega
      case rel => exact ⟨p + 1, by have := HJ.out.2.2; omega, by have := HL.out; omega, Nat.le_refl _, HN.out⟩
    · have hpe : p = j + N := by omega
      have hxp : T.extract j p = str D := by rw [hpe]; exact hxt
      have hpl : p ≤ L := by omega
      have hpl' : (p : Int) ≤ (L : Int) := by omega
      have hjp : (j : Int) ≤ (p : Int) := by omega
      have HP : Hid (p = j + N) := hpe
      clear hxt hpe hk hkr HJ hlt
      have hor : (∃ (h : p < T.size) (c : UInt8), T[p]'h = c ∧ isDig c = false) ∨ p = L := by
        by_cases hl : p < L
        · left
          have h1 := H.out.2.2.2.2.2.1
          have h2 := H.out.2.2.2.2.2.2.1
          have h3 := H.out.2.2.1
          have h4 := dgs_out (s := s) (j := j) (by rw [← h1, ← h2, ← HP.out]; omega)
          refine ⟨by omega, s[p]'(by omega), ?_, ?_⟩
          · have := H.out.2.1; subst this; rfl
          · have e : j + (dgs s j).length = p := by rw [← h1, ← h2, ← HP.out]
            simp only [e] at h4
            exact h4
        · right; omega
      rcases hor with ⟨hpt, c, hg, hc⟩ | hl
      · have hlt' : (p : Int) < (L : Int) := by omega
        have HC : Hid (isDig c = false) := hc
        clear hc hp hjL hjN hjN'
        go_wp2_with fail
        go_quiet ((go_at_call 128; exact (digit_b c _ _ rfl).mono fun _ _ ⟨he, hw⟩ => ⟨he.trans (by rw [HC.out]), _, hw⟩))
        have HA : Hid (TxB (wr.drewN nq) B s p bad ∧ w.grownBy (wr.drewN nq) (some B)) := ⟨hO.out.1.below (below_drewN (Below.refl _ _) nq), grown2 hO.out.2 (grown_below (below_drewN (Below.refl _ _) nq) _)⟩
        generalize wr.drewN nq = W1 at HA ⊢
        clear c0 c1 f1
        obtain ⟨c0, c1, _⟩ := HA.out.1.el
        rw [← H.out.2.1] at c0
        go_wp2_with fail
        go_quiet (fail)
        have HB : Hid (TxB (W1.drewN nq) B s p bad ∧ w.grownBy (W1.drewN nq) (some B)) := ⟨HA.out.1.below (below_drewN (Below.refl _ _) nq), grown2 HA.out.2 (grown_below (below_drewN (Below.refl _ _) nq) _)⟩
        generalize W1.drewN nq = W2 at HB ⊢
        clear c0 c1
        go_wp2_with fail
        refine (rparse_any D W2 (by have := H.out.2.2.2.2.2.2.1; have := H.out.2.2.1; have := HP.out; omega)).mono ?_
        rintro e w3 ⟨ro, m, c', r, k, rfl, _, q2, q3⟩
        have HT := HB.out.1.below q3
        have f2 := HT.f 2
        obtain ⟨_, _, z2⟩ := HT.el
        have H3 : Hid (TxB w3 B s p bad ∧ w.grownBy w3 (some B)) := ⟨HT, grown2 HB.out.2 (grown_below q3 _)⟩
        have had : AllDig D := by rw [H.out.2.2.2.2.2.1]; exact dgs_all _ _
        by_cases hok : okD D = true
        · have hk40 : k ≠ 40 := by
            intro e
            have hn := (okD_num had).1 hok
            by_cases hbg : Big ≤ nv D
            · have := (q2.big hn hbg).1; omega
            · have := (q2.fine hn (by omega)).1; omega
          have hxb : x = bad := by rw [← H.out.2.2.2.2.2.2.2, hok]; simp
          subst hxb
          clear hok had q2 q3 HT f2 z2
          go_wp2_with fail
          go_ret
          exact ⟨rfl, by have := H3.out.1; rw [HP.out] at this; exact this, H3.out.2⟩
        · have hk40 : k = 40 := (q2.none (fun e => hok ((okD_num had).2 e))).1
          have hxb : x = true := by rw [← H.out.2.2.2.2.2.2.2]; simp [hok]
          subst hxb hk40
          have HF : Hid (TxB (w3.setCell ⟨B, 2, none⟩ (.bool true)) B s p true ∧ w.grownBy (w3.setCell ⟨B, 2, none⟩ (.bool true)) (some B)) := ⟨H3.out.1.s2 _, grown2 H3.out.2 (grown_setk _ _ _ _)⟩
          clear hok had q2 q3 HT
          go_wp2_with fail
          go_ret
          exact ⟨rfl, by have := HF.out.1; rw [HP.out] at this; exact this, HF.out.2⟩
      · obtain rfl : L = p := hl.symm
        have hdec : decide ((L : Int) < (L : Int)) = false := by simp
        clear hp hjL hjN hjN' hpl hpl'
        go_wp2_with fail
        go_quiet (fail)
        have HA : Hid (TxB (wr.drewN nq) B s L bad ∧ w.grownBy (wr.drewN nq) (some B)) := ⟨hO.out.1.below (below_drewN (Below.refl _ _) nq), grown2 hO.out.2 (grown_below (below_drewN (Below.refl _ _) nq) _)⟩
        generalize wr.drewN nq = W1 at HA ⊢
        clear c0 c1 f1
        obtain ⟨c0, c1, _⟩ := HA.out.1.el
        rw [← H.out.2.1] at c0
        go_wp2_with fail
        go_quiet (fail)
        have HB : Hid (TxB (W1.drewN nq) B s L bad ∧ w.grownBy (W1.drewN nq) (some B)) := ⟨HA.out.1.below (below_drewN (Below.refl _ _) nq), grown2 HA.out.2 (grown_below (below_drewN (Below.refl _ _) nq) _)⟩
        generalize W1.drewN nq = W2 at HB ⊢
        clear c0 c1
        go_wp2_with fail
        refine (rparse_any D W2 (by have := H.out.2.2.2.2.2.2.1; have := H.out.2.2.1; have := HP.out; omega)).mono ?_
        rintro e w3 ⟨ro, m, c', r, k, rfl, _, q2, q3⟩
        have HT := HB.out.1.below q3
        have f2 := HT.f 2
        obtain ⟨_, _, z2⟩ := HT.el
        have H3 : Hid (TxB w3 B s L bad ∧ w.grownBy w3 (some B)) := ⟨HT, grown2 HB.out.2 (grown_below q3 _)⟩
        have had : AllDig D := by rw [H.out.2.2.2.2.2.1]; exact dgs_all _ _
        by_cases hok : okD D = true
        · have hk40 : k ≠ 40 := by
            intro e
            have hn := (okD_num had).1 hok
            by_cases hbg : Big ≤ nv D
            · have := (q2.big hn hbg).1; omega
            · have := (q2.fine hn (by omega)).1; omega
          have hxb : x = bad := by rw [← H.out.2.2.2.2.2.2.2, hok]; simp
          subst hxb
          clear hok had q2 q3 HT f2 z2
          go_wp2_with fail
          go_ret
          exact ⟨rfl, by have := H3.out.1; rw [HP.out] at this; exact this, H3.out.2⟩
        · have hk40 : k = 40 := (q2.none (fun e => hok ((okD_num had).2 e))).1
          have hxb : x = true := by rw [← H.out.2.2.2.2.2.2.2]; simp [hok]
          subst hxb hk40
          have HF : Hid (TxB (w3.setCell ⟨B, 2, none⟩ (.bool true)) B s L true ∧ w.grownBy (w3.setCell ⟨B, 2, none⟩ (.bool true)) (some B)) := ⟨H3.out.1.s2 _, grown2 H3.out.2 (grown_setk _ _ _ _)⟩
          clear hok had q2 q3 HT
          go_wp2_with fail
          go_ret
          exact ⟨rfl, by have := HF.out.1; rw [HP.out] at this; exact this, HF.out.2⟩
end Go.Proofs.YtnedghhcidohnaaGreat

/-! The reference's reader of texts: a factor. -/
namespace Go.Proofs.YtnedghhcidohnaaGreat
open Go.RowKit

/-- A factor, as it was read. -/
structure Fac where
  var : Int
  up : List UInt8
  down : List UInt8
/-- The number behind a mark, or what stands for it; where the reader stands then; is the text none. -/
def behF (s : List UInt8) (i : Nat) (bad : Bool) (c : UInt8) (other : List UInt8) : List UInt8 × Nat × Bool :=
  if eats s i c then (dgs s (skp s (skp s i + 1)), skp s (skp s i + 1) + (dgs s (skp s (skp s i + 1))).length, bad || !okD (dgs s (skp s (skp s i + 1)))) else (other, i, bad)
def facF (s : List UInt8) (i : Nat) (bad : Bool) : Fac × Nat × Bool :=
  if 0 ≤ varI (nxt s i) then
    let r := behF s (skp s i + 1) bad 94 [49]
    (⟨varI (nxt s i), r.1, []⟩, r.2)
  else
    let r := behF s (skp s i + (dgs s (skp s i)).length) (bad || !okD (dgs s (skp s i))) 47 []
    (⟨-1, dgs s (skp s i), r.1⟩, r.2)

/-- A factor's variable. -/
def FBx (W : World) (A : Nat) (v : Int) (u d : ByteArray) : Prop := W.heap[A]? = some (.cells #[.int .i64 v, .string u, .string d] 112 (0, 0))
theorem FBx.new (W : World) (v : Int) (u d : ByteArray) : FBx (W.alloc (.cells #[.int .i64 v, .string u, .string d] 112)) W.heap.size v u d := heap_alloc_new W _
theorem FBx.lt {W : World} {A : Nat} {v : Int} {u d : ByteArray} (h : FBx W A v u d) : A < W.heap.size := (Array.getElem?_eq_some_iff.1 h).1
theorem FBx.grown {W W' : World} {A B : Nat} {v : Int} {u d : ByteArray} (h : FBx W A v u d) (hg : W.grownBy W' (some B)) (hne : A ≠ B) : FBx W' A v u d := (hg.block A h.lt (fun e => hne (by injection e))).trans h
theorem FBx.f {W : World} {A : Nat} {v : Int} {u d : ByteArray} (h : FBx W A v u d) (k : Nat) : W.frozen? ⟨A, k, none⟩ = false := by simp [World.frozen?, show W.heap[A]? = _ from h]
theorem FBx.el {W : World} {A : Nat} {v : Int} {u d : ByteArray} (h : FBx W A v u d) : W.cell? ⟨A, 0, none⟩ = some (.int .i64 v) ∧ W.cell? ⟨A, 1, none⟩ = some (.string u) ∧ W.cell? ⟨A, 2, none⟩ = some (.string d) := by
  refine ⟨?_, ?_, ?_⟩ <;> simp [World.cell?, show W.heap[A]? = _ from h]
theorem FBx.set {W : World} {A : Nat} {v : Int} {u d : ByteArray} (h : FBx W A v u d) (v' : Int) (u' d' : ByteArray) : FBx (((W.setCell ⟨A, 0, none⟩ (.int .i64 v')).setCell ⟨A, 1, none⟩ (.string u')).setCell ⟨A, 2, none⟩ (.string d')) A v' u' d' :=
  set_cells (set_cells (set_cells h 0 (.int .i64 v')) 1 (.string u')) 2 (.string d')
theorem load_f {w : World} {A : Nat} {v : Int} {u d : ByteArray} (h : FBx w A v u d) : (loadVar 112 ⟨A, 0, none⟩).run Tryz.prog w = .ok (.agg #[.int .i64 v, .string u, .string d]) w := by
  obtain ⟨c0, c1, c2⟩ := h.el
  simp [go_sem, c0, c1, c2]
theorem results_f {fn : Func} (hf : fn.results = #[.cell 2 112]) (tmps : Array Value) {w : World} {A : Nat} {v : Int} {u d : ByteArray} (h : FBx w A v u d) (ht : tmps[2]?.getD undef = .pointer (some ⟨A, 0, none⟩)) :
    (results fn tmps).run Tryz.prog w = .ok (.agg #[.int .i64 v, .string u, .string d]) w := by
  simp only [results, hf]
  simp [asAddr, ht, load_f h]
theorem set3_grown {w W : World} {B A : Nat} (h : w.grownBy W (some B)) (hA : w.heap.size ≤ A) (u v x : Value) : w.grownBy (((W.setCell ⟨A, 0, none⟩ u).setCell ⟨A, 1, none⟩ v).setCell ⟨A, 2, none⟩ x) (some B) := by
  refine ⟨h.os, h.tape, h.output, by simp [World.setCell]; exact h.size, fun k hk hn => ?_⟩
  have hne : k ≠ A := by omega
  rw [Below.heap_setCell _ ⟨A, 2, none⟩ x k hne, Below.heap_setCell _ ⟨A, 1, none⟩ v k hne, Below.heap_setCell _ ⟨A, 0, none⟩ u k hne]
  exact h.block k hk hn
theorem TxB.set3 {W : World} {B A : Nat} {s : List UInt8} {i : Nat} {bad : Bool} (h : TxB W B s i bad) (hne' : A ≠ B) (u v x : Value) : TxB (((W.setCell ⟨A, 0, none⟩ u).setCell ⟨A, 1, none⟩ v).setCell ⟨A, 2, none⟩ x) B s i bad := by
  have hne := Ne.symm hne'
  unfold TxB
  rw [Below.heap_setCell _ ⟨A, 2, none⟩ x B hne, Below.heap_setCell _ ⟨A, 1, none⟩ v B hne, Below.heap_setCell _ ⟨A, 0, none⟩ u B hne]
  exact h
theorem TxP.set3 {W : World} {B A : Nat} {s : List UInt8} {i : Nat} {bad : Bool} (h : TxP W B s i bad) (hne : A ≠ B) (u v x : Value) : TxP (((W.setCell ⟨A, 0, none⟩ u).setCell ⟨A, 1, none⟩ v).setCell ⟨A, 2, none⟩ x) B s i bad :=
  let ⟨j, h1, h2⟩ := h; ⟨j, h1.set3 hne u v x, h2⟩
theorem TxP.lt {W : World} {B : Nat} {s : List UInt8} {i : Nat} {bad : Bool} (h : TxP W B s i bad) : B < W.heap.size := let ⟨_, h1, _⟩ := h; h1.lt

theorem var_zero : varI 0 = -1 := by decide
theorem nxt_in {s : List UInt8} {i : Nat} (h : nxt s i ≠ 0) : skp s i < s.length := by
  by_cases hl : skp s i < s.length
  · exact hl
  · exfalso
    apply h
    rw [nxt, List.getD_eq_getElem?_getD, List.getElem?_eq_none (by omega)]
    rfl
theorem eats_nxt {s : List UInt8} {i : Nat} (h : nxt s i ≠ 0) : eats s i (nxt s i) = true := by
  simp [eats, nxt_in h]

set_option maxRecDepth 100000 in
set_option maxHeartbeats 4000000 in
theorem factor_b (B : Nat) (s : List UInt8) (i : Nat) (bad : Bool) (w : World) (h : TxP w B s i bad) (hs : s.length ≤ 100000) :
    Calls Tryz.prog 88 #[.pointer (some ⟨B, 0, none⟩)] w fun e w' => e = .returned (.agg #[.int .i64 (facF s i bad).1.var, .string (str (facF s i bad).1.up), .string (str (facF s i bad).1.down)]) ∧ TxP w' B s (facF s i bad).2.1 (facF s i bad).2.2 ∧ w.grownBy w' (some B) := by
  have hlt := h.lt
  have b1 := bel1 w (.cells #[.int .i64 0, .string { data := #[] }, .string { data := #[] }] 112)
  obtain ⟨n, hn⟩ : ∃ n : Nat, n = (nxt s i).toNat := ⟨_, rfl⟩
  have hn2 : (n : Int) < 256 := by rw [hn]; have := (nxt s i).toNat_lt; omega
  obtain ⟨F, hF⟩ : ∃ F, F = facF s i bad := ⟨_, rfl⟩
  rw [← hF]
  have H : Hid (TxP (w.alloc (.cells #[.int .i64 0, .string { data := #[] }, .string { data := #[] }] 112)) B s i bad ∧ s.length ≤ 100000 ∧ FBx (w.alloc (.cells #[.int .i64 0, .string { data := #[] }, .string { data := #[] }] 112)) w.heap.size 0 { data := #[] } { data := #[] } ∧ w.grownBy (w.alloc (.cells #[.int .i64 0, .string { data := #[] }, .string { data := #[] }] 112)) (some B) ∧ w.heap.size ≠ B ∧ n = (nxt s i).toNat) :=
    ⟨h.below b1, hs, FBx.new w 0 _ _, grown_below b1 _, by omega, hn⟩
  clear h hs b1 hn hlt
  obtain ⟨v, hv⟩ : ∃ v, v = varI (nxt s i) := ⟨_, rfl⟩
  by_cases hv0 : 0 ≤ v
  · have hnz : nxt s i ≠ 0 := by intro e; rw [e, var_zero] at hv; omega
    have HV : Hid (v = varI (nxt s i) ∧ nxt s i ≠ 0 ∧ F = (⟨v, (behF s (skp s i + 1) bad 94 [49]).1, []⟩, (behF s (skp s i + 1) bad 94 [49]).2)) := ⟨hv, hnz, by rw [hF, facF, ← hv, if_pos hv0]⟩
    clear hv hF hnz
    go_enter Tryz.func88, Tryz.ntmps88
    go_wp2_with fail
    refine (next_p B s i bad _ H.out.1 H.out.2.1).mono ?_
    rw [← H.out.2.2.2.2.2]
    rintro e w1 ⟨rfl, q1, q2⟩
    have H1 : Hid (TxP w1 B s i bad ∧ w.grownBy w1 (some B) ∧ FBx w1 w.heap.size 0 { data := #[] } { data := #[] }) := ⟨q1.back H.out.1.len, grown2 H.out.2.2.2.1 q2, H.out.2.2.1.grown q2 H.out.2.2.2.2.1⟩
    clear q1 q2
    go_wp2_with fail
    refine (variable_b (nxt s i) n _ (by rw [H.out.2.2.2.2.2])).mono ?_
    rw [← HV.out.1]
    rintro e w1' ⟨rfl, rfl⟩
    go_wp2_with fail
    refine (eat_b B s i bad (nxt s i) n _ H1.out.1 H.out.2.1 HV.out.2.1 (by rw [H.out.2.2.2.2.2])).mono ?_
    rw [eats_nxt HV.out.2.1]
    rintro e w2 ⟨rfl, q1, q2⟩
    have H2 : Hid (TxP w2 B s (skp s i + 1) bad ∧ w.grownBy w2 (some B) ∧ FBx w2 w.heap.size 0 { data := #[] } { data := #[] }) := ⟨by rw [eatI, if_pos (eats_nxt HV.out.2.1)] at q1; exact q1, grown2 H1.out.2.1 q2, H1.out.2.2.grown q2 H.out.2.2.2.2.1⟩
    clear q1 q2
    obtain ⟨x, hx⟩ : ∃ x, eats s (skp s i + 1) 94 = x := ⟨_, rfl⟩
    have HX : Hid (eats s (skp s i + 1) 94 = x) := hx
    clear hx
    go_wp2_with fail
    refine (eat_b B s (skp s i + 1) bad 94 94 _ H2.out.1 H.out.2.1 (by decide) rfl).mono ?_
    rw [HX.out]
    rintro e w3 ⟨rfl, q1, q2⟩
    have H3 : Hid (TxP w3 B s (eatI s (skp s i + 1) 94) bad ∧ w.grownBy w3 (some B) ∧ FBx w3 w.heap.size 0 { data := #[] } { data := #[] }) := ⟨q1, grown2 H2.out.2.1 q2, H2.out.2.2.grown q2 H.out.2.2.2.2.1⟩
    clear q1 q2
    cases x with
    | true =>
      go_wp2_with fail
      refine (number_b B s (skp s (skp s i + 1) + 1) bad _ (by have := H3.out.1; rw [eatI, if_pos HX.out] at this; exact this) H.out.2.1).mono ?_
      rintro e w4 ⟨rfl, q1, q2⟩
      have hnl : skp s (skp s (skp s i + 1) + 1) + (dgs s (skp s (skp s (skp s i + 1) + 1))).length ≤ s.length := dgs_le (by have := H3.out.1; rw [eatI, if_pos HX.out] at this; exact this.len)
      have FB := H3.out.2.2.grown q2 H.out.2.2.2.2.1
      have f0 := FB.f 0
      have f1 := FB.f 1
      have f2 := FB.f 2
      obtain ⟨z0, z1, z2⟩ := FB.el
      have H4 : Hid (TxP (((w4.setCell ⟨w.heap.size, 0, none⟩ (.int .i64 v)).setCell ⟨w.heap.size, 1, none⟩ (.string (str (dgs s (skp s (skp s (skp s i + 1) + 1)))))).setCell ⟨w.heap.size, 2, none⟩ (.string { data := #[] })) B s (skp s (skp s (skp s i + 1) + 1) + (dgs s (skp s (skp s (skp s i + 1) + 1))).length) (bad || !okD (dgs s (skp s (skp s (skp s i + 1) + 1)))) ∧ w.grownBy (((w4.setCell ⟨w.heap.size, 0, none⟩ (.int .i64 v)).setCell ⟨w.heap.size, 1, none⟩ (.string (str (dgs s (skp s (skp s (skp s i + 1) + 1)))))).setCell ⟨w.heap.size, 2, none⟩ (.string { data := #[] })) (some B) ∧ FBx (((w4.setCell ⟨w.heap.size, 0, none⟩ (.int .i64 v)).setCell ⟨w.heap.size, 1, none⟩ (.string (str (dgs s (skp s (skp s (skp s i + 1) + 1)))))).setCell ⟨w.heap.size, 2, none⟩ (.string { data := #[] })) w.heap.size v (str (dgs s (skp s (skp s (skp s i + 1) + 1)))) { data := #[] }) :=
        ⟨TxP.set3 (q1.p hnl) H.out.2.2.2.2.1 _ _ _, set3_grown (grown2 H3.out.2.1 q2) (Nat.le_refl _) _ _ _, FB.set _ _ _⟩
      have HFv' : F = (⟨v, dgs s (skp s (skp s (skp s i + 1) + 1)), []⟩, skp s (skp s (skp s i + 1) + 1) + (dgs s (skp s (skp s (skp s i + 1) + 1))).length, bad || !okD (dgs s (skp s (skp s (skp s i + 1) + 1)))) := by rw [HV.out.2.2, behF, if_pos HX.out]
      have HFv : Hid (F = (⟨v, dgs s (skp s (skp s (skp s i + 1) + 1)), []⟩, skp s (skp s (skp s i + 1) + 1) + (dgs s (skp s (skp s (skp s i + 1) + 1))).length, bad || !okD (dgs s (skp s (skp s (skp s i + 1) + 1))))) := HFv'
      clear FB HFv' q1 q2 hnl
      generalize dgs s (skp s (skp s (skp s i + 1) + 1)) = D at HFv H4 ⊢
      go_wp2_with fail
      refine bodyPost_ret (results_f rfl _ H4.out.2.2 rfl) rfl ?_
      rw [HFv.out]
      exact ⟨rfl, H4.out.1, H4.out.2.1⟩
    | false =>
      have FB := H3.out.2.2
      have f0 := FB.f 0
      have f1 := FB.f 1
      have f2 := FB.f 2
      obtain ⟨z0, z1, z2⟩ := FB.el
      have H4 : Hid (TxP (((w3.setCell ⟨w.heap.size, 0, none⟩ (.int .i64 v)).setCell ⟨w.heap.size, 1, none⟩ (.string { data := #[49] })).setCell ⟨w.heap.size, 2, none⟩ (.string { data := #[] })) B s (skp s i + 1) (bad) ∧ w.grownBy (((w3.setCell ⟨w.heap.size, 0, none⟩ (.int .i64 v)).setCell ⟨w.heap.size, 1, none⟩ (.string { data := #[49] })).setCell ⟨w.heap.size, 2, none⟩ (.string { data := #[] })) (some B) ∧ FBx (((w3.setCell ⟨w.heap.size, 0, none⟩ (.int .i64 v)).setCell ⟨w.heap.size, 1, none⟩ (.string { data := #[49] })).setCell ⟨w.heap.size, 2, none⟩ (.string { data := #[] })) w.heap.size v { data := #[49] } { data := #[] }) :=
        ⟨TxP.set3 (by have := H3.out.1; rw [eatI, if_neg (by rw [HX.out]; simp)] at this; exact this) H.out.2.2.2.2.1 _ _ _, set3_grown H3.out.2.1 (Nat.le_refl _) _ _ _, FB.set _ _ _⟩
      have HFv' : F = (⟨v, [49], []⟩, skp s i + 1, bad) := by rw [HV.out.2.2, behF, if_neg (by rw [HX.out]; simp)]
      have HFv : Hid (F = (⟨v, [49], []⟩, skp s i + 1, bad)) := HFv'
      clear FB HFv'
      go_wp2_with fail
      refine bodyPost_ret (results_f rfl _ H4.out.2.2 rfl) rfl ?_
      rw [HFv.out]
      exact ⟨rfl, H4.out.1, H4.out.2.1⟩
  · have HV : Hid (v = varI (nxt s i) ∧ ¬ 0 ≤ v ∧ F = (⟨-1, (dgs s (skp s i)), (behF s (skp s i + (dgs s (skp s i)).length) (bad || !okD (dgs s (skp s i))) 47 []).1⟩, (behF s (skp s i + (dgs s (skp s i)).length) (bad || !okD (dgs s (skp s i))) 47 []).2)) := ⟨hv, hv0, by rw [hF, facF, ← hv, if_neg hv0]⟩
    clear hv hF
    go_enter Tryz.func88, Tryz.ntmps88
    go_wp2_with fail
    refine (next_p B s i bad _ H.out.1 H.out.2.1).mono ?_
    rw [← H.out.2.2.2.2.2]
    rintro e w1 ⟨rfl, q1, q2⟩
    have H1 : Hid (TxP w1 B s i bad ∧ w.grownBy w1 (some B) ∧ FBx w1 w.heap.size 0 { data := #[] } { data := #[] }) := ⟨q1.back H.out.1.len, grown2 H.out.2.2.2.1 q2, H.out.2.2.1.grown q2 H.out.2.2.2.2.1⟩
    clear q1 q2
    go_wp2_with fail
    refine (variable_b (nxt s i) n _ (by rw [H.out.2.2.2.2.2])).mono ?_
    rw [← HV.out.1]
    rintro e w1' ⟨rfl, rfl⟩
    go_wp2_with fail
    refine (number_b B s i bad _ H1.out.1 H.out.2.1).mono ?_
    rintro e w2 ⟨rfl, q1, q2⟩
    have hnl : (skp s i + (dgs s (skp s i)).length) ≤ s.length := dgs_le H1.out.1.len
    have H2 : Hid (TxP w2 B s (skp s i + (dgs s (skp s i)).length) (bad || !okD (dgs s (skp s i))) ∧ w.grownBy w2 (some B) ∧ FBx w2 w.heap.size 0 { data := #[] } { data := #[] }) := ⟨q1.p hnl, grown2 H1.out.2.1 q2, H1.out.2.2.grown q2 H.out.2.2.2.2.1⟩
    clear q1 q2 hnl
    obtain ⟨E, hE⟩ : ∃ E, E = (dgs s (skp s i)) := ⟨_, rfl⟩
    rw [← hE]
    obtain ⟨i1, hi1⟩ : ∃ i1, i1 = (skp s i + (dgs s (skp s i)).length) := ⟨_, rfl⟩
    obtain ⟨b1, hb1⟩ : ∃ b1, b1 = (bad || !okD (dgs s (skp s i))) := ⟨_, rfl⟩
    rw [← hi1, ← hb1] at H2
    rw [← hi1, ← hb1, ← hE] at HV
    clear hE hi1 hb1
    obtain ⟨x, hx⟩ : ∃ x, eats s i1 47 = x := ⟨_, rfl⟩
    have HX : Hid (eats s i1 47 = x) := hx
    clear hx
    go_wp2_with fail
    refine (eat_b B s i1 b1 47 47 _ H2.out.1 H.out.2.1 (by decide) rfl).mono ?_
    rw [HX.out]
    rintro e w3 ⟨rfl, q1, q2⟩
    have H3 : Hid (TxP w3 B s (eatI s i1 47) b1 ∧ w.grownBy w3 (some B) ∧ FBx w3 w.heap.size 0 { data := #[] } { data := #[] }) := ⟨q1, grown2 H2.out.2.1 q2, H2.out.2.2.grown q2 H.out.2.2.2.2.1⟩
    clear q1 q2
    cases x with
    | true =>
      go_wp2_with fail
      refine (number_b B s (skp s i1 + 1) b1 _ (by have := H3.out.1; rw [eatI, if_pos HX.out] at this; exact this) H.out.2.1).mono ?_
      rintro e w4 ⟨rfl, q1, q2⟩
      have hnl : skp s (skp s i1 + 1) + (dgs s (skp s (skp s i1 + 1))).length ≤ s.length := dgs_le (by have := H3.out.1; rw [eatI, if_pos HX.out] at this; exact this.len)
      have FB := H3.out.2.2.grown q2 H.out.2.2.2.2.1
      have f0 := FB.f 0
      have f1 := FB.f 1
      have f2 := FB.f 2
      obtain ⟨z0, z1, z2⟩ := FB.el
      have H4 : Hid (TxP (((w4.setCell ⟨w.heap.size, 0, none⟩ (.int .i64 (-1))).setCell ⟨w.heap.size, 1, none⟩ (.string (str E))).setCell ⟨w.heap.size, 2, none⟩ (.string (str (dgs s (skp s (skp s i1 + 1)))))) B s (skp s (skp s i1 + 1) + (dgs s (skp s (skp s i1 + 1))).length) (b1 || !okD (dgs s (skp s (skp s i1 + 1)))) ∧ w.grownBy (((w4.setCell ⟨w.heap.size, 0, none⟩ (.int .i64 (-1))).setCell ⟨w.heap.size, 1, none⟩ (.string (str E))).setCell ⟨w.heap.size, 2, none⟩ (.string (str (dgs s (skp s (skp s i1 + 1)))))) (some B) ∧ FBx (((w4.setCell ⟨w.heap.size, 0, none⟩ (.int .i64 (-1))).setCell ⟨w.heap.size, 1, none⟩ (.string (str E))).setCell ⟨w.heap.size, 2, none⟩ (.string (str (dgs s (skp s (skp s i1 + 1)))))) w.heap.size (-1) (str E) (str (dgs s (skp s (skp s i1 + 1))))) :=
        ⟨TxP.set3 (q1.p hnl) H.out.2.2.2.2.1 _ _ _, set3_grown (grown2 H3.out.2.1 q2) (Nat.le_refl _) _ _ _, FB.set _ _ _⟩
      have HFv' : F = (⟨-1, E, dgs s (skp s (skp s i1 + 1))⟩, skp s (skp s i1 + 1) + (dgs s (skp s (skp s i1 + 1))).length, b1 || !okD (dgs s (skp s (skp s i1 + 1)))) := by rw [HV.out.2.2, behF, if_pos HX.out]
      have HFv : Hid (F = (⟨-1, E, dgs s (skp s (skp s i1 + 1))⟩, skp s (skp s i1 + 1) + (dgs s (skp s (skp s i1 + 1))).length, b1 || !okD (dgs s (skp s (skp s i1 + 1))))) := HFv'
      clear FB HFv' q1 q2 hnl
      generalize dgs s (skp s (skp s i1 + 1)) = D at HFv H4 ⊢
      go_wp2_with fail
      refine bodyPost_ret (results_f rfl _ H4.out.2.2 rfl) rfl ?_
      rw [HFv.out]
      exact ⟨rfl, H4.out.1, H4.out.2.1⟩
    | false =>
      have FB := H3.out.2.2
      have f0 := FB.f 0
      have f1 := FB.f 1
      have f2 := FB.f 2
      obtain ⟨z0, z1, z2⟩ := FB.el
      have H4 : Hid (TxP (((w3.setCell ⟨w.heap.size, 0, none⟩ (.int .i64 (-1))).setCell ⟨w.heap.size, 1, none⟩ (.string (str E))).setCell ⟨w.heap.size, 2, none⟩ (.string { data := #[] })) B s (i1) (b1) ∧ w.grownBy (((w3.setCell ⟨w.heap.size, 0, none⟩ (.int .i64 (-1))).setCell ⟨w.heap.size, 1, none⟩ (.string (str E))).setCell ⟨w.heap.size, 2, none⟩ (.string { data := #[] })) (some B) ∧ FBx (((w3.setCell ⟨w.heap.size, 0, none⟩ (.int .i64 (-1))).setCell ⟨w.heap.size, 1, none⟩ (.string (str E))).setCell ⟨w.heap.size, 2, none⟩ (.string { data := #[] })) w.heap.size (-1) (str E) { data := #[] }) :=
        ⟨TxP.set3 (by have := H3.out.1; rw [eatI, if_neg (by rw [HX.out]; simp)] at this; exact this) H.out.2.2.2.2.1 _ _ _, set3_grown H3.out.2.1 (Nat.le_refl _) _ _ _, FB.set _ _ _⟩
      have HFv' : F = (⟨-1, E, []⟩, i1, b1) := by rw [HV.out.2.2, behF, if_neg (by rw [HX.out]; simp)]
      have HFv : Hid (F = (⟨-1, E, []⟩, i1, b1)) := HFv'
      clear FB HFv'
      go_wp2_with fail
      refine bodyPost_ret (results_f rfl _ H4.out.2.2 rfl) rfl ?_
      rw [HFv.out]
      exact ⟨rfl, H4.out.1, H4.out.2.1⟩
end Go.Proofs.YtnedghhcidohnaaGreat

/-! The reference's reader of texts: the value of a small number. -/
namespace Go.Proofs.YtnedghhcidohnaaGreat
open Go.RowKit

theorem mul_fine {a b r : RatL} {k N D M E : Int} (h : MulOut a b r k) (ha : Is a N D) (hb : Is b M E) {L K : Int} (la : (N.natAbs : Int) ≤ L) (la' : D ≤ L) (lb : (M.natAbs : Int) ≤ K) (lb' : E ≤ K) (hL : 2 * (L * K) < Big) :
    k = 0 ∧ Is r (N * M) (D * E) := by
  have a0 := ha.may.bot_pos ha.lim
  have b0 := hb.may.bot_pos hb.lim
  have a1 := ha.le
  have b1 := hb.le
  have va := (val_bd ha.lim.1).1
  have vb := (val_bd hb.lim.1).1
  have L0 : 0 ≤ L := by omega
  have m1 : val a.num * val b.num ≤ L * K := Int.mul_le_mul (by omega) (by omega) (by omega) L0
  have m3 : a.bot * b.bot ≤ L * K := Int.mul_le_mul (by omega) (by omega) (by omega) L0
  have p1 : 0 ≤ val a.num * val b.num := Int.mul_nonneg va vb
  have hp : 0 < a.bot * b.bot := Int.mul_pos a0 b0
  obtain ⟨h1, h2⟩ := h.fine ⟨ha.may, hb.may⟩ (by
    rintro (h | h) <;> omega)
  refine ⟨h1, h2.same (Int.mul_pos ha.pos hb.pos) ?_⟩
  obtain ⟨c, c0, hD, hN'⟩ := ha.parts
  obtain ⟨d, d0, hE, hM⟩ := hb.parts
  rw [hD, hN', hE, hM]
  grind

theorem nv_nonneg {s : List UInt8} (h : IsNum s) : 0 ≤ nv s := (dval_bd (by omega) (dlist_digs h.1)).1
theorem small_big {v : Int} (h : v ≤ 1000) : v < Big := by
  have : (1000 : Int) < Big := by unfold Big BB; decide
  omega

/-- What stands below. -/
def lowN (f : Fac) : Int := if f.down = [] then 1 else nv f.down
/-- A number's factor that is small. -/
structure SmF (f : Fac) : Prop where
  up : IsNum f.up
  upl : nv f.up ≤ 1000
  down : f.down ≠ [] → IsNum f.down ∧ 1 ≤ nv f.down ∧ nv f.down ≤ 1000
  len : f.up.length ≤ 1000 ∧ f.down.length ≤ 1000

set_option maxRecDepth 100000 in
set_option maxHeartbeats 4000000 in
theorem value_ok (v : Int) (f : Fac) (w : World) (h : SmF f) :
    Calls Tryz.prog 68 #[.agg #[.int .i64 v, .string (str f.up), .string (str f.down)]] w fun e w' => ∃ neg no nn nc eo en ec r, e = .returned (.tuple #[.agg #[.bool neg, .slice no nn nc, .slice eo en ec], .int .i64 0]) ∧ r.neg = neg ∧ RatAt w' no nn nc eo en ec r ∧ Is r (nv f.up) (lowN f) ∧ Below w.heap.size w w' := by
  obtain ⟨fv, up, dn⟩ := f
  have b2 := below2' w (.cells #[.int .i64 v, .string (str up), .string (str dn)] 112) (.cells #[.bool false, .slice none 0 0, .slice none 0 0] 45)
  have bx := (FBx.new w v (str up) (str dn))
  have rx := RBox.new (w.alloc (.cells #[.int .i64 v, .string (str up), .string (str dn)] 112)) false none 0 0 none 0 0
  rw [World.size_alloc] at rx
  have bx2 : FBx ((w.alloc (.cells #[.int .i64 v, .string (str up), .string (str dn)] 112)).alloc (.cells #[.bool false, .slice none 0 0, .slice none 0 0] 45)) w.heap.size v (str up) (str dn) := ((bel1 _ _).block w.heap.size (by rw [World.size_alloc]; omega)).trans bx
  have H : Hid (SmF ⟨fv, up, dn⟩ ∧ Below w.heap.size w ((w.alloc (.cells #[.int .i64 v, .string (str up), .string (str dn)] 112)).alloc (.cells #[.bool false, .slice none 0 0, .slice none 0 0] 45)) ∧ FBx ((w.alloc (.cells #[.int .i64 v, .string (str up), .string (str dn)] 112)).alloc (.cells #[.bool false, .slice none 0 0, .slice none 0 0] 45)) w.heap.size v (str up) (str dn) ∧ RBox ((w.alloc (.cells #[.int .i64 v, .string (str up), .string (str dn)] 112)).alloc (.cells #[.bool false, .slice none 0 0, .slice none 0 0] 45)) (w.heap.size + 1) false none 0 0 none 0 0) := ⟨h, b2, bx2, rx⟩
  obtain ⟨_, z1, _⟩ := bx2.el
  clear h b2 bx bx2 rx
  go_enter Tryz.func68, Tryz.ntmps68
  go_wp2_with fail
  refine (rparse_any up _ (by have := H.out.1.len.1; dsimp only at this; omega)).mono ?_
  rintro e w1 ⟨uo, un, uc, ur, k, rfl, q1, q2, q3⟩
  obtain ⟨rfl, hu⟩ := q2.fine H.out.1.up (small_big H.out.1.upl)
  have H1 : Hid (RowAt w1 uo un uc ur ∧ Num ur (nv up) ∧ Below w.heap.size w w1 ∧ FBx w1 w.heap.size v (str up) (str dn) ∧ RBox w1 (w.heap.size + 1) false none 0 0 none 0 0) := ⟨q1, hu, chain H.out.2.1 q3, (q3.block _ H.out.2.2.1.lt).trans H.out.2.2.1, H.out.2.2.2.below q3⟩
  clear q1 q2 q3 hu z1
  go_wp2_with fail
  refine (rof_any 1 _ (by omega) (by unfold BB; omega)).mono ?_
  rintro e w2 ⟨oo, on, oc, orw, rfl, q1, q2, _, q3⟩
  have H2 : Hid (RowAt w2 uo un uc ur ∧ RowAt w2 oo on oc orw ∧ Num orw 1 ∧ Below w.heap.size w w2 ∧ FBx w2 w.heap.size v (str up) (str dn) ∧ RBox w2 (w.heap.size + 1) false none 0 0 none 0 0) := ⟨H1.out.1.below q3, q1, q2, chain H1.out.2.2.1 q3, (q3.block _ H1.out.2.2.2.1.lt).trans H1.out.2.2.2.1, H1.out.2.2.2.2.below q3⟩
  clear q1 q2 q3
  obtain ⟨_, _, z2⟩ := H2.out.2.2.2.2.1.el
  by_cases hd : dn = []
  · subst hd
    have he : (str []).toList.isEmpty = true := by rw [str_empty]; rfl
    go_wp2_with fail
    refine (rmake_any false _ _ _ _ _ _ ur orw _ H2.out.1 H2.out.2.1).mono ?_
    rintro e w5 ⟨rneg, no, nn, nc, eo, en, ec, r, k, rfl, q1, q2, q3, q4⟩
    obtain ⟨rfl, his⟩ := q3.fine ⟨H1.out.2.1.may.2 (small_big H.out.1.upl), H2.out.2.2.1.may.2 (small_big (by omega))⟩ (by rw [H2.out.2.2.1.val]; omega)
    rw [H1.out.2.1.val, H2.out.2.2.1.val] at his
    have rb := (H2.out.2.2.2.2.2).below q4
    have H5 : Hid (r.neg = rneg ∧ RatAt w5 no nn nc eo en ec r ∧ Is r (sg false (nv up)) 1 ∧ Below w.heap.size w w5 ∧ RBox w5 (w.heap.size + 1) false none 0 0 none 0 0) := ⟨q1, q2, his, chain H2.out.2.2.2.1 q4, rb⟩
    have f0 := rb.f 0
    have f1 := rb.f 1
    have f2 := rb.f 2
    have y0 := rb.c0
    have y1 := rb.c1
    have y2 := rb.c2
    clear q1 q2 q3 q4 his rb
    go_wp2_with fail
    refine bodyPost_ret (results_r2 rfl _ (H5.out.2.2.2.2.set rneg no nn nc eo en ec) rfl _ rfl) rfl ⟨rneg, no, nn, nc, eo, en, ec, r, rfl, H5.out.1, H5.out.2.1.setR H5.out.2.2.2.2 _ _ _, by have := H5.out.2.2.1; simpa [sg, lowN] using this, below_set H5.out.2.2.2.1 (by omega) _ _ _⟩
  · have he : (str dn).toList.isEmpty = false := by
      rw [str_empty]
      cases dn with
      | nil => exact absurd rfl hd
      | cons c t => rfl
    have HD := H.out.1.down hd
    dsimp only at HD
    have HDn : Hid (IsNum dn ∧ 1 ≤ nv dn ∧ nv dn ≤ 1000 ∧ dn ≠ []) := ⟨HD.1, HD.2.1, HD.2.2, hd⟩
    clear HD hd
    go_wp2_with fail
    refine (rparse_any dn _ (by have := H.out.1.len.2; dsimp only at this; omega)).mono ?_
    rintro e w3 ⟨do', dn', dc', orw2, k2, rfl, q1, q2, q3⟩
    obtain ⟨rfl, hu⟩ := q2.fine HDn.out.1 (small_big HDn.out.2.2.1)
    have H3 : Hid (RowAt w3 uo un uc ur ∧ RowAt w3 do' dn' dc' orw2 ∧ Num orw2 (nv dn) ∧ Below w.heap.size w w3 ∧ RBox w3 (w.heap.size + 1) false none 0 0 none 0 0) := ⟨H2.out.1.below q3, q1, hu, chain H2.out.2.2.2.1 q3, H2.out.2.2.2.2.2.below q3⟩
    clear q1 q2 q3 hu z2
    go_wp2_with fail
    refine (rmake_any false _ _ _ _ _ _ ur orw2 _ H3.out.1 H3.out.2.1).mono ?_
    rintro e w5 ⟨rneg, no, nn, nc, eo, en, ec, r, k, rfl, q1, q2, q3, q4⟩
    obtain ⟨rfl, his⟩ := q3.fine ⟨H1.out.2.1.may.2 (small_big H.out.1.upl), H3.out.2.2.1.may.2 (small_big HDn.out.2.2.1)⟩ (by rw [H3.out.2.2.1.val]; have := HDn.out.2.1; omega)
    rw [H1.out.2.1.val, H3.out.2.2.1.val] at his
    have rb := (H3.out.2.2.2.2).below q4
    have H5 : Hid (r.neg = rneg ∧ RatAt w5 no nn nc eo en ec r ∧ Is r (sg false (nv up)) (nv dn) ∧ Below w.heap.size w w5 ∧ RBox w5 (w.heap.size + 1) false none 0 0 none 0 0) := ⟨q1, q2, his, chain H3.out.2.2.2.1 q4, rb⟩
    have f0 := rb.f 0
    have f1 := rb.f 1
    have f2 := rb.f 2
    have y0 := rb.c0
    have y1 := rb.c1
    have y2 := rb.c2
    clear q1 q2 q3 q4 his rb
    go_wp2_with fail
    refine bodyPost_ret (results_r2 rfl _ (H5.out.2.2.2.2.set rneg no nn nc eo en ec) rfl _ rfl) rfl ⟨rneg, no, nn, nc, eo, en, ec, r, rfl, H5.out.1, H5.out.2.1.setR H5.out.2.2.2.2 _ _ _, by have := H5.out.2.2.1; simpa [sg, lowN, HDn.out.2.2.2] using this, below_set H5.out.2.2.2.1 (by omega) _ _ _⟩
end Go.Proofs.YtnedghhcidohnaaGreat

/-! The reference's reader of texts: a product. -/
namespace Go.Proofs.YtnedghhcidohnaaGreat
open Go.RowKit

/-- The factors behind the first one. -/
def moreF : Nat → List UInt8 → Nat → Bool → List Fac × Nat × Bool
  | 0, _, i, bad => ([], i, bad)
  | n + 1, s, i, bad =>
    if bad then ([], i, bad) else
    if eats s i 42 then
      ((facF s (skp s i + 1) bad).1 :: (moreF n s (facF s (skp s i + 1) bad).2.1 (facF s (skp s i + 1) bad).2.2).1, (moreF n s (facF s (skp s i + 1) bad).2.1 (facF s (skp s i + 1) bad).2.2).2)
    else ([], i, bad)
def prodF (s : List UInt8) (i : Nat) (bad : Bool) : List Fac × Nat × Bool :=
  ((facF s i bad).1 :: (moreF s.length s (facF s i bad).2.1 (facF s i bad).2.2).1, (moreF s.length s (facF s i bad).2.1 (facF s i bad).2.2).2)

theorem skp_ge (s : List UInt8) (i : Nat) : i ≤ skp s i := Nat.le_add_right _ _
theorem behF_ge (s : List UInt8) (i : Nat) (bad : Bool) (c : UInt8) (o : List UInt8) : i ≤ (behF s i bad c o).2.1 := by
  unfold behF
  split
  · have := skp_ge s i
    have := skp_ge s (skp s i + 1)
    dsimp only
    omega
  · exact Nat.le_refl _
theorem facF_ge (s : List UInt8) (i : Nat) (bad : Bool) : i ≤ (facF s i bad).2.1 := by
  unfold facF
  split
  · have := behF_ge s (skp s i + 1) bad 94 [49]
    have := skp_ge s i
    dsimp only
    omega
  · have := behF_ge s (skp s i + (dgs s (skp s i)).length) (bad || !okD (dgs s (skp s i))) 47 []
    have := skp_ge s i
    dsimp only
    omega

def Fac.cs (f : Fac) : List Value := [.int .i64 f.var, .string (str f.up), .string (str f.down)]
def fcells (fs : List Fac) : List Value := fs.flatMap Fac.cs
theorem Fac.cs_clean (f : Fac) : ∀ u ∈ f.cs, Clean u := by
  intro u hu z e
  simp [Fac.cs] at hu
  rcases hu with rfl | rfl | rfl <;> cases e
theorem Fac.cs_one (f : Fac) : ∀ u ∈ f.cs, u.oneCell' = true := by
  intro u hu
  simp [Fac.cs] at hu
  rcases hu with rfl | rfl | rfl <;> rfl
theorem infoF : (Tryz.prog.info? 112).map (fun i => (i.zero, i.size, i.bytes)) = some (some (.agg #[.int .i64 0, .string { data := #[] }, .string { data := #[] }]), 3, 40) := by kernel_rfl
theorem zeroF : ∀ u ∈ (Value.agg #[.int .i64 0, .string { data := #[] }, .string { data := #[] }]).cells.toList, Clean u := by
  intro u hu z e
  simp [Value.cells] at hu
  subst e
  rcases hu with h | h | h <;> cases h

/-- A product's variable. -/
def PBx (W : World) (A : Nat) (neg : Bool) (v : Value) : Prop := W.heap[A]? = some (.cells #[.bool neg, v] 83 (0, 0))
theorem PBx.new (W : World) (neg : Bool) (v : Value) : PBx (W.alloc (.cells #[.bool neg, v] 83)) W.heap.size neg v := heap_alloc_new W _
theorem PBx.lt {W : World} {A : Nat} {neg : Bool} {v : Value} (h : PBx W A neg v) : A < W.heap.size := (Array.getElem?_eq_some_iff.1 h).1
theorem PBx.grown {W W' : World} {A : Nat} {neg : Bool} {v : Value} {row : Option Nat} (h : PBx W A neg v) (hg : W.grownBy W' row) (hne : some A ≠ row) : PBx W' A neg v := (hg.block A h.lt hne).trans h
theorem PBx.el {W : World} {A : Nat} {neg : Bool} {v : Value} (h : PBx W A neg v) : W.cell? ⟨A, 0, none⟩ = some (.bool neg) ∧ W.cell? ⟨A, 1, none⟩ = some v := by
  refine ⟨?_, ?_⟩ <;> simp [World.cell?, show W.heap[A]? = _ from h]
theorem PBx.f {W : World} {A : Nat} {neg : Bool} {v : Value} (h : PBx W A neg v) (k : Nat) : W.frozen? ⟨A, k, none⟩ = false := by simp [World.frozen?, show W.heap[A]? = _ from h]
theorem PBx.s1 {W : World} {A : Nat} {neg : Bool} {v : Value} (h : PBx W A neg v) (u : Value) : PBx (W.setCell ⟨A, 1, none⟩ u) A neg u := set_cells h 1 u
theorem PBx.s0 {W : World} {A : Nat} {neg : Bool} {v : Value} (h : PBx W A neg v) (u : Bool) : PBx (W.setCell ⟨A, 0, none⟩ (.bool u)) A u v := set_cells h 0 (.bool u)
theorem PBx.other {W : World} {A C k : Nat} {neg : Bool} {v u : Value} (h : PBx W A neg v) (hne : A ≠ C) : PBx (W.setCell ⟨C, k, none⟩ u) A neg v := (Below.heap_setCell W ⟨C, k, none⟩ u A hne).trans h
theorem TxP.other {W : World} {B C k : Nat} {s : List UInt8} {i : Nat} {bad : Bool} {u : Value} (h : TxP W B s i bad) (hne : B ≠ C) : TxP (W.setCell ⟨C, k, none⟩ u) B s i bad :=
  let ⟨j, h1, h2⟩ := h; ⟨j, (Below.heap_setCell W ⟨C, k, none⟩ u B hne).trans h1, h2⟩
theorem TxP.grown {W W' : World} {B : Nat} {s : List UInt8} {i : Nat} {bad : Bool} {row : Option Nat} (h : TxP W B s i bad) (hg : W.grownBy W' row) (hne : some B ≠ row) : TxP W' B s i bad :=
  let ⟨j, h1, h2⟩ := h; ⟨j, (hg.block B h1.lt hne).trans h1, h2⟩
theorem load_p {w : World} {A : Nat} {neg : Bool} {v : Value} (h : PBx w A neg v) (hv : ∃ o n c, v = .slice o n c) : (loadVar 83 ⟨A, 0, none⟩).run Tryz.prog w = .ok (.agg #[.bool neg, v]) w := by
  obtain ⟨o, n, c, rfl⟩ := hv
  obtain ⟨c0, c1⟩ := h.el
  simp [go_sem, c0, c1]
theorem results_p {fn : Func} (hf : fn.results = #[.cell 4 83]) (tmps : Array Value) {w : World} {A : Nat} {neg : Bool} {v : Value} (h : PBx w A neg v) (hv : ∃ o n c, v = .slice o n c) (ht : tmps[4]?.getD undef = .pointer (some ⟨A, 0, none⟩)) :
    (results fn tmps).run Tryz.prog w = .ok (.agg #[.bool neg, v]) w := by
  simp only [results, hf]
  simp [asAddr, ht, load_p h hv]

/-- A row of factors of the call's own. -/
def FRow (w : World) (base : Nat) (g cap : Nat) (fs : List Fac) : Prop := OwnS w base 112 3 (.slice (some ⟨g, 0, none⟩) fs.length cap) fs.length (fcells fs)
theorem FRow.ge {w : World} {base g cap : Nat} {fs : List Fac} (h : FRow w base g cap fs) : base ≤ g ∧ g < w.heap.size := h.row.lt g rfl
theorem FRow.grown {w w' : World} {base g cap : Nat} {fs : List Fac} {row : Option Nat} (h : FRow w base g cap fs) (hg : w.grownBy w' row) (hne : some g ≠ row) : FRow w' base g cap fs := OwnS.kept h hg (.inr hne)
theorem FRow.one (w : World) (base : Nat) (f : Fac) (hb : base ≤ w.heap.size) : FRow (w.alloc (.cells #[.int .i64 f.var, .string (str f.up), .string (str f.down)] 112)) base w.heap.size 1 [f] := by
  refine ⟨⟨rfl, .inr ⟨w.heap.size, 1, _, rfl, hb, heap_alloc_new w _, Nat.le_refl _, by unfold maxLen; omega, rfl, rfl⟩⟩, fun g hg => ?_⟩
  cases hg
  exact ⟨_, (0, 0), heap_alloc_new w _, fun u hu => f.cs_clean u hu⟩
theorem FRow.ne {w : World} {base g cap A : Nat} {fs : List Fac} {neg : Bool} {v : Value} (h : FRow w base g cap fs) (hb : PBx w A neg v) : A ≠ g := by
  rintro rfl
  obtain ⟨cur, fz, hg, _⟩ := h.clean A rfl
  rw [show w.heap[A]? = _ from hb] at hg
  injection hg with hg
  injection hg with _ h2
  cases h2

/-- A product that is being read. -/
structure PrSt (w wr : World) (B A0 A5 : Nat) (s : List UInt8) (neg : Bool) (fs : List Fac) (g cap i : Nat) (b : Bool) : Prop where
  tx : TxP wr B s i b
  gr : w.grownBy wr (some B)
  row : FRow wr w.heap.size g cap fs
  box : PBx wr A5 neg (.slice (some ⟨g, 0, none⟩) fs.length cap)
  res : PBx wr A0 false (.slice none 0 0)
theorem PrSt.grown {w wr w' : World} {B A0 A5 : Nat} {s : List UInt8} {neg : Bool} {fs : List Fac} {g cap i : Nat} {b : Bool} (h : PrSt w wr B A0 A5 s neg fs g cap i b) {i' : Nat} {b' : Bool} (hB : B < w.heap.size) (h0 : A0 ≠ B) (h5 : A5 ≠ B) (ht : TxP w' B s i' b') (hg : wr.grownBy w' (some B)) : PrSt w w' B A0 A5 s neg fs g cap i' b' :=
  ⟨ht, grown2 h.gr hg, h.row.grown hg (fun e => by injection e with e; have := h.row.ge.1; omega), h.box.grown hg (fun e => h5 (by injection e)), h.res.grown hg (fun e => h0 (by injection e))⟩
theorem PrSt.drew {w wr : World} {B A0 A5 : Nat} {s : List UInt8} {neg : Bool} {fs : List Fac} {g cap i : Nat} {b : Bool} (h : PrSt w wr B A0 A5 s neg fs g cap i b) : PrSt w wr.drew B A0 A5 s neg fs g cap i b :=
  have hg : wr.grownBy wr.drew none := grown_below (Below.refl _ _).drew none
  ⟨h.tx.drew, grown2 h.gr (grown_below (Below.refl _ _).drew _), h.row.grown hg (by simp), h.box.grown hg (by simp), h.res.grown hg (by simp)⟩
end Go.Proofs.YtnedghhcidohnaaGreat
