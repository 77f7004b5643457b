/-
  Joined: Heavy · SumA · SumB · SumC · SumD.
-/
import Derived.Test.YtnkjfandknndkaaJ1
import Derived.Test.YtnkjfandknndkaaK1
import Derived.Deep.MidRow
import Derived.Deep.CutRange
import Derived.Deep.CutBlock

/-! The statements' heavy. -/
namespace Go.Proofs.Ytnkjfandknndkaa
open Go.RowKit

theorem heavy_r (neg : Bool) (no : Option Addr) (nn nc : Nat) (eo : Option Addr) (en ec : Nat) (w : World) (hn : (nn : Int) ≤ 9223372036854775807) (he : (en : Int) ≤ 9223372036854775807) (b : Bool) (hb : b = true ↔ (20 < nn ∨ 20 < en)) :
    Calls Try.prog 10 #[.agg #[.bool neg, .slice no nn nc, .slice eo en ec]] w fun e w' => e = .returned (.bool b) ∧ Below w.heap.size w w' := by
  have bx := RBox.new w neg no nn nc eo en ec
  have c1 := bx.c1
  have c2 := bx.c2
  have HB : Hid (b = true ↔ (20 < nn ∨ 20 < en)) := hb
  clear hb
  by_cases h1 : 20 < nn
  · have h1' : (20 : Int) < (nn : Int) := by omega
    have hbt : b = true := HB.out.2 (.inl h1)
    subst hbt
    clear bx
    go_enter Try.func10, Try.ntmps10
    go_wp2
    go_ret
    exact ⟨rfl, (Below.refl _ _).alloc (Nat.le_refl _) _⟩
  · have h1' : ¬ (20 : Int) < (nn : Int) := by omega
    by_cases h2 : 20 < en
    · have h2' : (20 : Int) < (en : Int) := by omega
      have hbt : b = true := HB.out.2 (.inr h2)
      subst hbt
      clear bx
      go_enter Try.func10, Try.ntmps10
      go_wp2
      go_ret
      exact ⟨rfl, (Below.refl _ _).alloc (Nat.le_refl _) _⟩
    · have h2' : ¬ (20 : Int) < (en : Int) := by omega
      have hbf : b = false := by
        cases e : b with
        | false => rfl
        | true => rcases HB.out.1 e with h | h <;> omega
      subst hbf
      clear bx
      go_enter Try.func10, Try.ntmps10
      go_wp2
      go_ret
      exact ⟨rfl, (Below.refl _ _).alloc (Nat.le_refl _) _⟩
end Go.Proofs.Ytnkjfandknndkaa

/-! Many numbers: how they lie, what they come to one after the other. -/
namespace Go.Proofs.Ytnkjfandknndkaa
open Go.RowKit

/-- Where a number's parts lie. -/
structure RP where
  neg : Bool
  no : Option Addr
  nn : Nat
  nc : Nat
  eo : Option Addr
  en : Nat
  ec : Nat

/-- A number's cells. -/
def RP.cs (p : RP) : List Value := [.bool p.neg, .slice p.no p.nn p.nc, .slice p.eo p.en p.ec]
/-- A number as a value. -/
def RP.v (p : RP) : Value := .agg #[.bool p.neg, .slice p.no p.nn p.nc, .slice p.eo p.en p.ec]

/-- Numbers that lie one behind the other. -/
structure RatsAt (W : World) (b off : Nat) (ps : List RP) (rs : List RatL) : Prop where
  len : ps.length = rs.length
  lt : 0 < ps.length → b < W.heap.size
  each : ∀ i p r, ps[i]? = some p → rs[i]? = some r → W.rangeAt b (off + i * 3) p.cs ∧ RatAt W p.no p.nn p.nc p.eo p.en p.ec r ∧ r.neg = p.neg

theorem RatsAt.below {W W' : World} {b off : Nat} {ps : List RP} {rs : List RatL} (h : RatsAt W b off ps rs) (hb : Below W.heap.size W W') : RatsAt W' b off ps rs := by
  refine ⟨h.len, fun hp => Nat.lt_of_lt_of_le (h.lt hp) hb.size, fun i p r hp hr => ?_⟩
  obtain ⟨h1, h2, h3⟩ := h.each i p r hp hr
  have hlt : b < W.heap.size := h.lt (by have := (List.getElem?_eq_some_iff.1 hp).1; omega)
  exact ⟨fun j v hv => (hb.cell (p := ⟨b, off + i * 3 + j, none⟩) hlt).trans (h1 j v hv), h2.below hb, h3⟩

/-- What numbers come to, one after the other, from t on: up to the first error. -/
def SumR : List RatL → RatL → RatL → Int → Prop
  | [], t, r, k => r = t ∧ k = 0
  | a :: l, t, r, k => ∃ x j, AddOut t a x j ∧ (j = 0 → SumR l x r k) ∧ (j ≠ 0 → r = rat0 ∧ k = j)

theorem SumR.one : ∀ {l : List RatL} {t r s : RatL} {k j : Int}, SumR l t r k → SumR l t s j → r = s ∧ k = j
  | [], _, _, _, _, _, h, h' => ⟨h.1.trans h'.1.symm, h.2.trans h'.2.symm⟩
  | a :: l, t, r, s, k, j, h, h' => by
    obtain ⟨x, m, h1, h2, h3⟩ := h
    obtain ⟨y, n, g1, g2, g3⟩ := h'
    obtain ⟨rfl, rfl⟩ := h1.one g1
    by_cases e : m = 0
    · exact SumR.one (h2 e) (g2 e)
    · exact ⟨(h3 e).1.trans (g3 e).1.symm, (h3 e).2.trans (g3 e).2.symm⟩
end Go.Proofs.Ytnkjfandknndkaa

/-! ratio.Sum. -/
namespace Go.Proofs.Ytnkjfandknndkaa
open Go.RowKit

theorem RBox.away {W : World} {A B : Nat} {neg : Bool} {no : Option Addr} {nn nc : Nat} {eo : Option Addr} {en ec : Nat} (h : RBox W A neg no nn nc eo en ec) (hne : A ≠ B) (u v x : Value) :
    RBox (((W.setCell ⟨B, 0, none⟩ u).setCell ⟨B, 1, none⟩ v).setCell ⟨B, 2, none⟩ x) A neg no nn nc eo en ec :=
  (Below.heap_setCell _ ⟨B, 2, none⟩ x A hne).trans ((Below.heap_setCell _ ⟨B, 1, none⟩ v A hne).trans ((Below.heap_setCell W ⟨B, 0, none⟩ u A hne).trans h))

theorem drop_at {A : Type} (l : List A) (i : Nat) (a : A) (h : l[i]? = some a) : l.drop i = a :: l.drop (i + 1) := by
  obtain ⟨hl, rfl⟩ := List.getElem?_eq_some_iff.1 h
  exact List.drop_eq_getElem_cons hl

set_option maxRecDepth 100000 in
set_option maxHeartbeats 8000000 in
theorem sumR_any (lo : Option Addr) (n cap b off : Nat) (ps : List RP) (rs : List RatL) (w : World) (h : RatsAt w b off ps rs) (hn : ps.length = n) (hlo : 0 < n → lo = some ⟨b, off, none⟩) (hc : n ≤ 1000) :
    Calls Try.prog 13 #[.slice lo n cap] w fun e w' => ∃ rneg no nn nc eo en ec r k t, e = .returned (.tuple #[.agg #[.bool rneg, .slice no nn nc, .slice eo en ec], .int .i64 k]) ∧ r.neg = rneg ∧ RatAt w' no nn nc eo en ec r ∧ Is t 0 1 ∧ SumR rs t r k ∧ Below w.heap.size w w' := by
  have hN : (n : Int) ≤ 1000 := by omega
  have bR := RBox.new w false none 0 0 none 0 0
  have hB0 : Below w.heap.size w (w.alloc (.cells #[.bool false, .slice none 0 0, .slice none 0 0] 28)) := (Below.refl _ _).alloc (Nat.le_refl _) _
  have HI : Hid (RatsAt w b off ps rs ∧ ps.length = n ∧ (0 < n → lo = some ⟨b, off, none⟩) ∧ Below w.heap.size w (w.alloc (.cells #[.bool false, .slice none 0 0, .slice none 0 0] 28)) ∧ RBox (w.alloc (.cells #[.bool false, .slice none 0 0, .slice none 0 0] 28)) w.heap.size false none 0 0 none 0 0) := ⟨h, hn, hlo, hB0, bR⟩
  clear bR hB0 h hn hlo hc
  go_enter Try.func13, Try.ntmps13
  go_wp2_with fail
  refine (of_r 0 _ (by omega) (by omega)).mono ?_
  rintro e w1 ⟨tg, po, tn, tc, teo, ten, tec, t0, rfl, q1, q2, q3, q4⟩
  have bT := RBox.new w1 tg po tn tc teo ten tec
  have hB1 : Below w1.heap.size w1 (w1.alloc (.cells #[.bool tg, .slice po tn tc, .slice teo ten tec] 28)) := (Below.refl _ _).alloc (Nat.le_refl _) _
  have hlt : w.heap.size < w1.heap.size := by have := q4.size; simp at this; omega
  have HS : Hid (RBox (w1.alloc (.cells #[.bool tg, .slice po tn tc, .slice teo ten tec] 28)) w.heap.size false none 0 0 none 0 0 ∧ RBox (w1.alloc (.cells #[.bool tg, .slice po tn tc, .slice teo ten tec] 28)) w1.heap.size tg po tn tc teo ten tec ∧ RatAt (w1.alloc (.cells #[.bool tg, .slice po tn tc, .slice teo ten tec] 28)) po tn tc teo ten tec t0 ∧ t0.neg = tg ∧ Below w.heap.size w (w1.alloc (.cells #[.bool tg, .slice po tn tc, .slice teo ten tec] 28)) ∧ Is t0 0 1 ∧ w.heap.size < w1.heap.size) :=
    ⟨(HI.out.2.2.2.2.below q4).alloc _, bT, q2.below hB1, q1, chain (chain HI.out.2.2.2.1 q4) hB1, q3, hlt⟩
  clear bT hB1 q1 q2 q3 q4 hlt
  go_wp2_with fail
  go_loopg [11] n (fun m i wr => ∃ (j : Nat) (p : RP) (t : RatL), j ≤ n ∧ n - j ≤ m ∧ i = .int .i64 j ∧ Hid (RBox wr w.heap.size false none 0 0 none 0 0 ∧ RBox wr w1.heap.size p.neg p.no p.nn p.nc p.eo p.en p.ec ∧ RatAt wr p.no p.nn p.nc p.eo p.en p.ec t ∧ t.neg = p.neg ∧ Below w.heap.size w wr ∧ ∀ r k, SumR (rs.drop j) t r k → SumR rs t0 r k))
  case atStart => exact ⟨0, ⟨tg, po, tn, tc, teo, ten, tec⟩, t0, Nat.zero_le _, by omega, rfl, HS.out.1, HS.out.2.1, HS.out.2.2.1, HS.out.2.2.2.1, HS.out.2.2.2.2.1, fun r k hh => hh⟩
  case round =>
    obtain ⟨j, ⟨pg, po1, pn, pc, peo, pen, pec⟩, t, hj, hjr, rfl, hO⟩ := hrel
    dsimp only at hO
    by_cases h0 : j < n
    · have hlen : ps.length = n := HI.out.2.1
      obtain ⟨a, hpa⟩ : ∃ a, ps[j]? = some a := ⟨ps[j]'(by omega), List.getElem?_eq_getElem (by omega)⟩
      obtain ⟨ra, hra⟩ : ∃ a, rs[j]? = some a := ⟨rs[j]'(by have := HI.out.1.len; omega), List.getElem?_eq_getElem (by have := HI.out.1.len; omega)⟩
      obtain ⟨hcs, hat, hneg⟩ := (HI.out.1.below hO.out.2.2.2.2.1).each j a ra hpa hra
      obtain ⟨ag, ao, an, ac, aeo, aen, aec⟩ := a
      have e0 : wr.cell? ⟨b, off + j * 3, none⟩ = some (.bool ag) := hcs 0 _ rfl
      have e1 : wr.cell? ⟨b, off + j * 3 + 1, none⟩ = some (.slice ao an ac) := hcs 1 _ rfl
      have e2 : wr.cell? ⟨b, off + j * 3 + 2, none⟩ = some (.slice aeo aen aec) := hcs 2 _ rfl
      have hls := HI.out.2.2.1 (by omega)
      subst hls
      have bA := RBox.new wr ag ao an ac aeo aen aec
      have hB2 : Below wr.heap.size wr (wr.alloc (.cells #[.bool ag, .slice ao an ac, .slice aeo aen aec] 28)) := (Below.refl _ _).alloc (Nat.le_refl _) _
      have bT2 := hO.out.2.1.below hB2
      have hjn : (j : Int) < (n : Int) := by omega
      have HC : Hid (RBox (wr.alloc (.cells #[.bool ag, .slice ao an ac, .slice aeo aen aec] 28)) w.heap.size false none 0 0 none 0 0 ∧ RBox (wr.alloc (.cells #[.bool ag, .slice ao an ac, .slice aeo aen aec] 28)) w1.heap.size pg po1 pn pc peo pen pec ∧ RatAt (wr.alloc (.cells #[.bool ag, .slice ao an ac, .slice aeo aen aec] 28)) po1 pn pc peo pen pec t ∧ RatAt (wr.alloc (.cells #[.bool ag, .slice ao an ac, .slice aeo aen aec] 28)) ao an ac aeo aen aec ra ∧ ra.neg = ag ∧ Below w.heap.size w (wr.alloc (.cells #[.bool ag, .slice ao an ac, .slice aeo aen aec] 28)) ∧ rs.drop j = ra :: rs.drop (j + 1) ∧ j < n) :=
        ⟨hO.out.1.below hB2, bT2, hO.out.2.2.1.below hB2, hat.below hB2, hneg, chain hO.out.2.2.2.2.1 hB2, drop_at rs j ra hra, h0⟩
      have HK : Hid (0 ≤ n ∧ _) := ⟨Nat.zero_le _, hjr⟩
      have c0 := bT2.c0
      have c1 := bT2.c1
      have c2 := bT2.c2
      have d0 := bA.c0
      have d1 := bA.c1
      have d2 := bA.c2
      clear hcs hat hneg hpa hra bA hB2 bT2 hjr hj hlen h0
      go_wp2_with fail
      refine (radd_r pg po1 pn pc peo pen pec ag ao an ac aeo aen aec t ra _ HC.out.2.2.1 HC.out.2.2.2.1 hO.out.2.2.2.1 HC.out.2.2.2.2.1).mono ?_
      rintro e w3 ⟨xg, xo, xn, xc, xeo, xen, xec, x, k, rfl, q1, q2, q3, q4⟩
      have bT3 := HC.out.2.1.below q4
      have hRT : w.heap.size ≠ w1.heap.size := by have := HS.out.2.2.2.2.2.2; omega
      have HX : Hid (x.neg = xg ∧ AddOut t ra x k) := ⟨q1, q3⟩
      have HT3 := bT3.set xg xo xn xc xeo xen xec
      have HXT := q2.setR bT3 (.bool xg) (.slice xo xn xc) (.slice xeo xen xec)
      have bR3 := (HC.out.1.below q4).away hRT (.bool xg) (.slice xo xn xc) (.slice xeo xen xec)
      have hb3 := below_set (chain HC.out.2.2.2.2.2.1 q4) (B := w1.heap.size) (by have := HS.out.2.2.2.2.2.2; omega) (.bool xg) (.slice xo xn xc) (.slice xeo xen xec)
      have c0 := bT3.c0
      have c1 := bT3.c1
      have c2 := bT3.c2
      have f0 := bT3.f 0
      have f1 := bT3.f 1
      have f2 := bT3.f 2
      have HD : Hid (RBox (((w3.setCell ⟨w1.heap.size, 0, none⟩ (.bool xg)).setCell ⟨w1.heap.size, 1, none⟩ (.slice xo xn xc)).setCell ⟨w1.heap.size, 2, none⟩ (.slice xeo xen xec)) w.heap.size false none 0 0 none 0 0 ∧ RBox (((w3.setCell ⟨w1.heap.size, 0, none⟩ (.bool xg)).setCell ⟨w1.heap.size, 1, none⟩ (.slice xo xn xc)).setCell ⟨w1.heap.size, 2, none⟩ (.slice xeo xen xec)) w1.heap.size xg xo xn xc xeo xen xec ∧ RatAt (((w3.setCell ⟨w1.heap.size, 0, none⟩ (.bool xg)).setCell ⟨w1.heap.size, 1, none⟩ (.slice xo xn xc)).setCell ⟨w1.heap.size, 2, none⟩ (.slice xeo xen xec)) xo xn xc xeo xen xec x ∧ Below w.heap.size w (((w3.setCell ⟨w1.heap.size, 0, none⟩ (.bool xg)).setCell ⟨w1.heap.size, 1, none⟩ (.slice xo xn xc)).setCell ⟨w1.heap.size, 2, none⟩ (.slice xeo xen xec))) := ⟨bR3, HT3, HXT, hb3⟩
      clear q1 q2 q3 q4 HT3 HXT bR3 hb3 d0 d1 d2 bT3 e0 e1 e2
      by_cases hk : k = 0
      · subst hk
        go_wp2_with fail
        go_roundg (n - (j + 1))
        case measure => have := HC.out.2.2.2.2.2.2; have := HK.out; omega
        case rel =>
          refine ⟨j + 1, ⟨xg, xo, xn, xc, xeo, xen, xec⟩, x, by have := HC.out.2.2.2.2.2.2; omega, Nat.le_refl _, by go_num, HD.out.1, HD.out.2.1, HD.out.2.2.1, HX.out.1, HD.out.2.2.2, ?_⟩
          intro r k hh
          refine hO.out.2.2.2.2.2 r k ?_
          rw [HC.out.2.2.2.2.2.2.1]
          exact ⟨x, 0, HX.out.2, fun _ => hh, fun e => absurd rfl e⟩
      · have HKN : Hid (k ≠ 0) := hk
        have r0 := HD.out.1.c0
        have r1 := HD.out.1.c1
        have r2 := HD.out.1.c2
        have g0 := HD.out.1.f 0
        have g1 := HD.out.1.f 1
        have g2 := HD.out.1.f 2
        go_wp2_with fail
        have HR := HD.out.1.set false none 0 0 none 0 0
        refine bodyPost_ret (results_r2 rfl _ HR rfl _ rfl) rfl ⟨false, none, 0, 0, none, 0, 0, rat0, k, t0, rfl, rfl, RatAt.zero _, HS.out.2.2.2.2.2.1, ?_, below_set HD.out.2.2.2 (Nat.le_refl _) _ _ _⟩
        refine hO.out.2.2.2.2.2 rat0 k ?_
        rw [HC.out.2.2.2.2.2.2.1]
        exact ⟨x, k, HX.out.2, fun e => absurd e HKN.out, fun _ => ⟨rfl, rfl⟩⟩
    · have hjn : j = n := by omega
      subst hjn
      have c0 := hO.out.2.1.c0
      have c1 := hO.out.2.1.c1
      have c2 := hO.out.2.1.c2
      have r0 := hO.out.1.c0
      have r1 := hO.out.1.c1
      have r2 := hO.out.1.c2
      have f0 := hO.out.1.f 0
      have f1 := hO.out.1.f 1
      have f2 := hO.out.1.f 2
      clear hj hjr h0
      go_wp2_with fail
      have HR := hO.out.1.set pg po1 pn pc peo pen pec
      have HRT := hO.out.2.2.1.setR hO.out.1 (.bool pg) (.slice po1 pn pc) (.slice peo pen pec)
      refine bodyPost_ret (results_r2 rfl _ HR rfl _ rfl) rfl ⟨pg, po1, pn, pc, peo, pen, pec, t, 0, t0, rfl, hO.out.2.2.2.1, HRT, HS.out.2.2.2.2.2.1, ?_, below_set hO.out.2.2.2.2.1 (Nat.le_refl _) _ _ _⟩
      refine hO.out.2.2.2.2.2 t 0 ?_
      rw [List.drop_of_length_le (by rw [← HI.out.1.len, HI.out.2.1]; exact Nat.le_refl _)]
      exact ⟨rfl, rfl⟩
end Go.Proofs.Ytnkjfandknndkaa

/-! Sums of small numbers: by one bottom, in whatever order. -/
namespace Go.Proofs.Ytnkjfandknndkaa
open Go.RowKit

/-- r is c/2520, and c is small. -/
def SmC (r : RatL) (c : Int) : Prop := Is r c 2520 ∧ (c.natAbs : Int) ≤ 320040
def SmAll : List RatL → List Int → Prop
  | [], [] => True
  | r :: rs, c :: cs => SmC r c ∧ SmAll rs cs
  | _, _ => False

theorem SmAll.length : ∀ {rs : List RatL} {cs : List Int}, SmAll rs cs → rs.length = cs.length
  | [], [], _ => rfl
  | _ :: _, _ :: _, h => congrArg (· + 1) (SmAll.length h.2)
  | [], _ :: _, h => h.elim
  | _ :: _, [], h => h.elim
theorem SmAll.append : ∀ {rs : List RatL} {cs : List Int} {ss : List RatL} {ds : List Int}, SmAll rs cs → SmAll ss ds → SmAll (rs ++ ss) (cs ++ ds)
  | [], [], _, _, _, g => g
  | _ :: _, _ :: _, _, _, h, g => ⟨h.1, SmAll.append h.2 g⟩
  | [], _ :: _, _, _, h, _ => h.elim
  | _ :: _, [], _, _, h, _ => h.elim
theorem SmAll.take : ∀ (k : Nat) {rs : List RatL} {cs : List Int}, SmAll rs cs → SmAll (rs.take k) (cs.take k)
  | 0, _, _, _ => by simp [SmAll]
  | _ + 1, [], [], _ => trivial
  | k + 1, _ :: _, _ :: _, h => ⟨h.1, SmAll.take k h.2⟩
  | _ + 1, [], _ :: _, h => h.elim
  | _ + 1, _ :: _, [], h => h.elim
theorem SmAll.drop : ∀ (k : Nat) {rs : List RatL} {cs : List Int}, SmAll rs cs → SmAll (rs.drop k) (cs.drop k)
  | 0, _, _, h => h
  | _ + 1, [], [], _ => trivial
  | k + 1, _ :: _, _ :: _, h => SmAll.drop k h.2
  | _ + 1, [], _ :: _, h => h.elim
  | _ + 1, _ :: _, [], h => h.elim

theorem big_small : 2 * ((10000000 : Int) * 10000000) < Big := by unfold Big BB; decide

theorem SumR.small_in (rs : List RatL) : ∀ (cs : List Int) (t r : RatL) (C k : Int), SmAll rs cs → Is t C 2520 → (C.natAbs : Int) + 320040 * (rs.length : Int) ≤ 9000000 → SumR rs t r k → k = 0 ∧ Is r (C + cs.sum) 2520 := by
  induction rs with
  | nil =>
    intro cs t r C k hs ht hb h
    cases cs with
    | nil =>
      obtain ⟨h1, h2⟩ := h
      rw [h1, h2, List.sum_nil, Int.add_zero]
      exact ⟨rfl, ht⟩
    | cons c cs => exact hs.elim
  | cons a rs ih =>
    intro cs t r C k hs ht hb h
    cases cs with
    | nil => exact hs.elim
    | cons c cs =>
      obtain ⟨x, j, h1, h2, h3⟩ := h
      obtain ⟨⟨ha, hc⟩, hs⟩ := hs
      rw [List.length_cons] at hb
      obtain ⟨hj, hx⟩ := add_fine (L := 10000000) (K := 10000000) h1 ht ha (by omega) (by omega) (by omega) (by omega) big_small
      have hx2 : Is x (C + c) 2520 := hx.same (by omega) (by omega)
      rw [List.sum_cons, ← Int.add_assoc]
      exact ih cs x r (C + c) k hs hx2 (by omega) (h2 hj)

theorem SumR.small {rs : List RatL} {cs : List Int} {t r : RatL} {C k : Int} (hs : SmAll rs cs) (ht : Is t C 2520) (hb : (C.natAbs : Int) + 320040 * (rs.length : Int) ≤ 9000000) (h : SumR rs t r k) : k = 0 ∧ Is r (C + cs.sum) 2520 := SumR.small_in rs cs t r C k hs ht hb h

theorem small_of {r : RatL} {neg : Bool} {n d : Int} (h : Is r (sg neg n) (d + 1)) (h0 : 0 ≤ n) (h1 : n ≤ 127) (d0 : 0 ≤ d) (d1 : d ≤ 8) : ∃ c, SmC r c := by
  obtain ⟨S, hS⟩ : ∃ S, S = sg neg n := ⟨_, rfl⟩
  have hb : (S.natAbs : Int) ≤ 127 := by rw [hS, sg_abs neg h0]; exact h1
  rw [← hS] at h
  clear hS
  have hd : d = 0 ∨ d = 1 ∨ d = 2 ∨ d = 3 ∨ d = 4 ∨ d = 5 ∨ d = 6 ∨ d = 7 ∨ d = 8 := by omega
  rcases hd with rfl | rfl | rfl | rfl | rfl | rfl | rfl | rfl | rfl
  · exact ⟨S * 2520, h.same (by decide) (by omega), by omega⟩
  · exact ⟨S * 1260, h.same (by decide) (by omega), by omega⟩
  · exact ⟨S * 840, h.same (by decide) (by omega), by omega⟩
  · exact ⟨S * 630, h.same (by decide) (by omega), by omega⟩
  · exact ⟨S * 504, h.same (by decide) (by omega), by omega⟩
  · exact ⟨S * 420, h.same (by decide) (by omega), by omega⟩
  · exact ⟨S * 360, h.same (by decide) (by omega), by omega⟩
  · exact ⟨S * 315, h.same (by decide) (by omega), by omega⟩
  · exact ⟨S * 280, h.same (by decide) (by omega), by omega⟩

theorem zero_small {z : RatL} (h : Is z 0 1) : SmC z 0 := ⟨h.same (by decide) (by decide), by decide⟩

/-- Turned round, and 0 put between: they come to the same. -/
theorem sums_same {rs : List RatL} {cs : List Int} {z t u x y : RatL} {k j : Int} (i : Nat) (h : SmAll rs cs) (hl : rs.length ≤ 8) (hz : Is z 0 1) (ht : Is t 0 1) (hu : Is u 0 1) (hx : SumR rs t x k) (hy : SumR (rs.drop i ++ [z] ++ rs.take i) u y j) :
    k = 0 ∧ j = 0 ∧ x = y := by
  have h2 : SmAll (rs.drop i ++ [z] ++ rs.take i) (cs.drop i ++ [0] ++ cs.take i) := ((h.drop i).append (ss := [z]) (ds := [0]) ⟨zero_small hz, trivial⟩).append (h.take i)
  have hlen : (rs.drop i ++ [z] ++ rs.take i).length = rs.length + 1 := by simp; omega
  obtain ⟨rfl, ix⟩ := SumR.small h (zero_small ht).1 (by simp; omega) hx
  obtain ⟨rfl, iy⟩ := SumR.small h2 (zero_small hu).1 (by rw [hlen]; simp; omega) hy
  refine ⟨rfl, rfl, ix.one iy ?_⟩
  have hsum : (cs.drop i ++ [0] ++ cs.take i).sum = cs.sum := by
    have h3 : (cs.take i ++ cs.drop i).sum = cs.sum := by rw [List.take_append_drop]
    rw [List.sum_append] at h3
    rw [List.sum_append, List.sum_append]
    simp
    omega
  rw [hsum]
end Go.Proofs.Ytnkjfandknndkaa

/-! The reference's Sum of layer 5. -/
namespace Go.Proofs.Ytnkjfandknndkaa
open Go.RowKit

set_option maxRecDepth 100000 in
set_option maxHeartbeats 8000000 in
theorem rsumR_any (lo : Option Addr) (n cap b off : Nat) (ps : List RP) (rs : List RatL) (w : World) (h : RatsAt w b off ps rs) (hn : ps.length = n) (hlo : 0 < n → lo = some ⟨b, off, none⟩) (hc : n ≤ 1000) :
    Calls Try.prog 14 #[.slice lo n cap] w fun e w' => ∃ rneg no nn nc eo en ec r k t, e = .returned (.tuple #[.agg #[.bool rneg, .slice no nn nc, .slice eo en ec], .int .i64 k]) ∧ r.neg = rneg ∧ RatAt w' no nn nc eo en ec r ∧ Is t 0 1 ∧ SumR rs t r k ∧ Below w.heap.size w w' := by
  have hN : (n : Int) ≤ 1000 := by omega
  have bR := RBox.new w false none 0 0 none 0 0
  have hB0 : Below w.heap.size w (w.alloc (.cells #[.bool false, .slice none 0 0, .slice none 0 0] 28)) := (Below.refl _ _).alloc (Nat.le_refl _) _
  have HI : Hid (RatsAt w b off ps rs ∧ ps.length = n ∧ (0 < n → lo = some ⟨b, off, none⟩) ∧ Below w.heap.size w (w.alloc (.cells #[.bool false, .slice none 0 0, .slice none 0 0] 28)) ∧ RBox (w.alloc (.cells #[.bool false, .slice none 0 0, .slice none 0 0] 28)) w.heap.size false none 0 0 none 0 0) := ⟨h, hn, hlo, hB0, bR⟩
  clear bR hB0 h hn hlo hc
  go_enter Try.func14, Try.ntmps14
  go_wp2_with fail
  refine (rof_r 0 _ (by omega) (by omega)).mono ?_
  rintro e w1 ⟨tg, po, tn, tc, teo, ten, tec, t0, rfl, q1, q2, q3, q4⟩
  have bT := RBox.new w1 tg po tn tc teo ten tec
  have hB1 : Below w1.heap.size w1 (w1.alloc (.cells #[.bool tg, .slice po tn tc, .slice teo ten tec] 28)) := (Below.refl _ _).alloc (Nat.le_refl _) _
  have hlt : w.heap.size < w1.heap.size := by have := q4.size; simp at this; omega
  have HS : Hid (RBox (w1.alloc (.cells #[.bool tg, .slice po tn tc, .slice teo ten tec] 28)) w.heap.size false none 0 0 none 0 0 ∧ RBox (w1.alloc (.cells #[.bool tg, .slice po tn tc, .slice teo ten tec] 28)) w1.heap.size tg po tn tc teo ten tec ∧ RatAt (w1.alloc (.cells #[.bool tg, .slice po tn tc, .slice teo ten tec] 28)) po tn tc teo ten tec t0 ∧ t0.neg = tg ∧ Below w.heap.size w (w1.alloc (.cells #[.bool tg, .slice po tn tc, .slice teo ten tec] 28)) ∧ Is t0 0 1 ∧ w.heap.size < w1.heap.size) :=
    ⟨(HI.out.2.2.2.2.below q4).alloc _, bT, q2.below hB1, q1, chain (chain HI.out.2.2.2.1 q4) hB1, q3, hlt⟩
  clear bT hB1 q1 q2 q3 q4 hlt
  go_wp2_with fail
  go_loopg [5] n (fun m i wr => ∃ (j : Nat) (p : RP) (t : RatL), j ≤ n ∧ n - j ≤ m ∧ i = .int .i64 j ∧ Hid (RBox wr w.heap.size false none 0 0 none 0 0 ∧ RBox wr w1.heap.size p.neg p.no p.nn p.nc p.eo p.en p.ec ∧ RatAt wr p.no p.nn p.nc p.eo p.en p.ec t ∧ t.neg = p.neg ∧ Below w.heap.size w wr ∧ ∀ r k, SumR (rs.drop j) t r k → SumR rs t0 r k))
  case atStart => exact ⟨0, ⟨tg, po, tn, tc, teo, ten, tec⟩, t0, Nat.zero_le _, by omega, rfl, HS.out.1, HS.out.2.1, HS.out.2.2.1, HS.out.2.2.2.1, HS.out.2.2.2.2.1, fun r k hh => hh⟩
  case round =>
    obtain ⟨j, ⟨pg, po1, pn, pc, peo, pen, pec⟩, t, hj, hjr, rfl, hO⟩ := hrel
    dsimp only at hO
    by_cases h0 : j < n
    · have hlen : ps.length = n := HI.out.2.1
      obtain ⟨a, hpa⟩ : ∃ a, ps[j]? = some a := ⟨ps[j]'(by omega), List.getElem?_eq_getElem (by omega)⟩
      obtain ⟨ra, hra⟩ : ∃ a, rs[j]? = some a := ⟨rs[j]'(by have := HI.out.1.len; omega), List.getElem?_eq_getElem (by have := HI.out.1.len; omega)⟩
      obtain ⟨hcs, hat, hneg⟩ := (HI.out.1.below hO.out.2.2.2.2.1).each j a ra hpa hra
      obtain ⟨ag, ao, an, ac, aeo, aen, aec⟩ := a
      have e0 : wr.cell? ⟨b, off + j * 3, none⟩ = some (.bool ag) := hcs 0 _ rfl
      have e1 : wr.cell? ⟨b, off + j * 3 + 1, none⟩ = some (.slice ao an ac) := hcs 1 _ rfl
      have e2 : wr.cell? ⟨b, off + j * 3 + 2, none⟩ = some (.slice aeo aen aec) := hcs 2 _ rfl
      have hls := HI.out.2.2.1 (by omega)
      subst hls
      have hjn : (j : Int) < (n : Int) := by omega
      have HC : Hid (RBox wr w.heap.size false none 0 0 none 0 0 ∧ RBox wr w1.heap.size pg po1 pn pc peo pen pec ∧ RatAt wr po1 pn pc peo pen pec t ∧ RatAt wr ao an ac aeo aen aec ra ∧ ra.neg = ag ∧ Below w.heap.size w wr ∧ rs.drop j = ra :: rs.drop (j + 1) ∧ j < n ∧ t.neg = pg) :=
        ⟨hO.out.1, hO.out.2.1, hO.out.2.2.1, hat, hneg, hO.out.2.2.2.2.1, drop_at rs j ra hra, h0, hO.out.2.2.2.1⟩
      have HK : Hid (0 ≤ n ∧ _) := ⟨Nat.zero_le _, hjr⟩
      have hZ : Below wr.heap.size wr (wr.alloc (.cells #[.bool false, .slice none 0 0, .slice none 0 0] 28)) := (Below.refl _ _).alloc (Nat.le_refl _) _
      have c0 := hO.out.2.1.c0
      have c1 := hO.out.2.1.c1
      have c2 := hO.out.2.1.c2
      have d0 := (hO.out.2.1.below hZ).c0
      have d1 := (hO.out.2.1.below hZ).c1
      have d2 := (hO.out.2.1.below hZ).c2
      have hbz : b < wr.heap.size := Nat.lt_of_lt_of_le (HI.out.1.lt (by omega)) hO.out.2.2.2.2.1.size
      have k0 : (wr.alloc (.cells #[.bool false, .slice none 0 0, .slice none 0 0] 28)).cell? ⟨b, off + j * 3, none⟩ = some (.bool ag) := (hZ.cell (p := ⟨b, off + j * 3, none⟩) hbz).trans e0
      have k1 : (wr.alloc (.cells #[.bool false, .slice none 0 0, .slice none 0 0] 28)).cell? ⟨b, off + j * 3 + 1, none⟩ = some (.slice ao an ac) := (hZ.cell (p := ⟨b, off + j * 3 + 1, none⟩) hbz).trans e1
      have k2 : (wr.alloc (.cells #[.bool false, .slice none 0 0, .slice none 0 0] 28)).cell? ⟨b, off + j * 3 + 2, none⟩ = some (.slice aeo aen aec) := (hZ.cell (p := ⟨b, off + j * 3 + 2, none⟩) hbz).trans e2
      clear hZ hbz
      clear hcs hat hneg hpa hra hjr hj hlen h0
      go_upto_region 5 with fail
      go_cut [6, 7] from 16 to 23 (fun s6 s7 wx => ∃ X xg xo xn xc xeo xen xec x k, s6 = .pointer (some ⟨X, 0, none⟩) ∧ s7 = .int .i64 k ∧ Hid (RBox wx X xg xo xn xc xeo xen xec ∧ RatAt wx xo xn xc xeo xen xec x ∧ x.neg = xg ∧ AddOut t ra x k ∧ Below wr.heap.size wr wx))
      case first =>
        have hd : Below wr.heap.size wr wr.drew := (Below.refl _ _).drew
        go_region_with (go_at_call 35; refine (rradd_r pg po1 pn pc peo pen pec ag ao an ac aeo aen aec t ra _ (HC.out.2.2.1.below (by first | exact (Below.refl _ _).drew | exact ((Below.refl _ _).alloc (Nat.le_refl _) _).drew)) (HC.out.2.2.2.1.below (by first | exact (Below.refl _ _).drew | exact ((Below.refl _ _).alloc (Nat.le_refl _) _).drew)) HC.out.2.2.2.2.2.2.2.2 HC.out.2.2.2.2.1).mono ?_; rintro e w3 ⟨xg, xo, xn, xc, xeo, xen, xec, x, k, rfl, q1, q2, q3, q4⟩; try (have bz := RBox.below (W := (wr.alloc (.cells #[.bool false, .slice none 0 0, .slice none 0 0] 28)).drew) (RBox.new wr false none 0 0 none 0 0) q4; have z0 := bz.c0; have z1 := bz.c1; have z2 := bz.c2; have g0 := bz.f 0; have g1 := bz.f 1; have g2 := bz.f 2))
        all_goals
          go_wp2_with fail
          go_meet
          first
            | exact ⟨_, xg, xo, xn, xc, xeo, xen, xec, x, k, rfl, rfl, RBox.new w3 _ _ _ _ _ _ _, q2.below ((Below.refl _ _).alloc (Nat.le_refl _) _), q1, q3, (chain (Below.refl wr.heap.size wr).drew q4).alloc (chain (Below.refl wr.heap.size wr).drew q4).size _⟩
            | exact ⟨_, xg, xo, xn, xc, xeo, xen, xec, x, k, rfl, rfl, bz.set xg xo xn xc xeo xen xec, q2.setR bz _ _ _, q1, q3, below_set (chain ((Below.refl wr.heap.size wr).alloc (Nat.le_refl _) _).drew q4) (Nat.le_refl _) _ _ _⟩
      case rest =>
        rename World => wx
        obtain ⟨X, xg, xo, xn, xc, xeo, xen, xec, x, k, rfl, rfl, hX⟩ := hcut
        have hRT : w.heap.size ≠ w1.heap.size := by have := HS.out.2.2.2.2.2.2; omega
        have bT := HC.out.2.1.below hX.out.2.2.2.2
        have bR := HC.out.1.below hX.out.2.2.2.2
        have HD : Hid (RBox wx w.heap.size false none 0 0 none 0 0 ∧ RBox wx w1.heap.size pg po1 pn pc peo pen pec ∧ Below w.heap.size w wx ∧ w.heap.size ≠ w1.heap.size) := ⟨bR, bT, chain HC.out.2.2.2.2.2.1 hX.out.2.2.2.2, hRT⟩
        have x0 := hX.out.1.c0
        have x1 := hX.out.1.c1
        have x2 := hX.out.1.c2
        clear c0 c1 c2 d0 d1 d2 e0 e1 e2 k0 k1 k2 hRT
        by_cases hk : k = 0
        · subst hk
          have tt0 := bT.c0
          have tt1 := bT.c1
          have tt2 := bT.c2
          have f0 := bT.f 0
          have f1 := bT.f 1
          have f2 := bT.f 2
          clear bT bR
          go_wp2_with fail
          go_roundg (n - (j + 1))
          case measure => have := HC.out.2.2.2.2.2.2.2.1; have := HK.out; omega
          case rel =>
            refine ⟨j + 1, ⟨xg, xo, xn, xc, xeo, xen, xec⟩, x, by have := HC.out.2.2.2.2.2.2.2.1; omega, Nat.le_refl _, by go_num, HD.out.1.away HD.out.2.2.2 _ _ _, HD.out.2.1.set xg xo xn xc xeo xen xec, hX.out.2.1.setR HD.out.2.1 _ _ _, hX.out.2.2.1, below_set HD.out.2.2.1 (by have := HS.out.2.2.2.2.2.2; omega) _ _ _, ?_⟩
            intro r k hh
            refine hO.out.2.2.2.2.2 r k ?_
            rw [HC.out.2.2.2.2.2.2.1]
            exact ⟨x, 0, hX.out.2.2.2.1, fun _ => hh, fun e => absurd rfl e⟩
        · have HKN : Hid (k ≠ 0) := hk
          have r0 := bR.c0
          have r1 := bR.c1
          have r2 := bR.c2
          have g0 := bR.f 0
          have g1 := bR.f 1
          have g2 := bR.f 2
          clear bT bR
          go_wp2_with fail
          have HR := HD.out.1.set false none 0 0 none 0 0
          refine bodyPost_ret (results_r2 rfl _ HR rfl _ rfl) rfl (.inl ⟨none, 0, 0, none, 0, 0, rat0, k, rfl, rfl, RatAt.zero _, t0, HS.out.2.2.2.2.2.1, ?_, below_set HD.out.2.2.1 (Nat.le_refl _) _ _ _⟩)
          refine hO.out.2.2.2.2.2 rat0 k ?_
          rw [HC.out.2.2.2.2.2.2.1]
          exact ⟨x, k, hX.out.2.2.2.1, fun e => absurd e HKN.out, fun _ => ⟨rfl, rfl⟩⟩
    · have hjn : j = n := by omega
      subst hjn
      have c0 := hO.out.2.1.c0
      have c1 := hO.out.2.1.c1
      have c2 := hO.out.2.1.c2
      have r0 := hO.out.1.c0
      have r1 := hO.out.1.c1
      have r2 := hO.out.1.c2
      have f0 := hO.out.1.f 0
      have f1 := hO.out.1.f 1
      have f2 := hO.out.1.f 2
      clear hj hjr h0
      go_wp2_with fail
      have HR := hO.out.1.set pg po1 pn pc peo pen pec
      have HRT := hO.out.2.2.1.setR hO.out.1 (.bool pg) (.slice po1 pn pc) (.slice peo pen pec)
      refine bodyPost_ret (results_r2 rfl _ HR rfl _ rfl) rfl ⟨pg, po1, pn, pc, peo, pen, pec, t, 0, t0, rfl, hO.out.2.2.2.1, HRT, HS.out.2.2.2.2.2.1, ?_, below_set hO.out.2.2.2.2.1 (Nat.le_refl _) _ _ _⟩
      refine hO.out.2.2.2.2.2 t 0 ?_
      rw [List.drop_of_length_le (by rw [← HI.out.1.len, HI.out.2.1]; exact Nat.le_refl _)]
      exact ⟨rfl, rfl⟩
end Go.Proofs.Ytnkjfandknndkaa
