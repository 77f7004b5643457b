/-
  Joined: PressC · PressD.
-/
import Derived.Test.YtnedghhcidohnaaGreatPressB
import Derived.Test.YtnedghhcidohnaaGreatShelf
import Derived.Test.YtnedghhcidohnaaGreatJQ1

/-! press.putEach over terms; press.Put. -/
namespace Go.Proofs.YtnedghhcidohnaaGreat
open Go.RowKit

/-- A builder of the call's own that holds these bytes. -/
def Bld (w : World) (b : Nat) (S : List UInt8) : Prop := Lib.IsBuilder 88 5 b b (Lib.byteCells S) w
theorem Bld.new (w : World) : Bld (w.alloc (.cells #[.pointer none, .slice none 0 0] 88)) w.heap.size [] := Lib.fresh_isBuilder 88 5 w
theorem bat_below {p : Value} {b : Nat} {bs : List Value} {w w' : World} (h : Lib.BuilderAt 88 5 b b p bs w) (hb : Below w.heap.size w w') : Lib.BuilderAt 88 5 b b p bs w' := by
  have hlt := h.lt
  obtain ⟨h0, v, h1, h2, h3⟩ := h
  refine ⟨h0, v, (hb.block b hlt).trans h1, h2.kept (grown_below hb none) ?_, h3⟩
  rcases hv : v.ownBlock with _ | g
  · exact .inl rfl
  · exact .inr (by simp)
theorem Bld.below {w w' : World} {b : Nat} {S : List UInt8} (h : Bld w b S) (hb : Below w.heap.size w w') : Bld w' b S := by
  rcases h with h | h
  · exact .inl (bat_below h hb)
  · exact .inr (bat_below h hb)
theorem Bld.lt {w : World} {b : Nat} {S : List UInt8} (h : Bld w b S) : b < w.heap.size := by
  rcases h with h | h <;> exact h.lt
theorem bwrite_b (b : Nat) (S T : List UInt8) (w0 w : World) (h : Bld w b S) (hl : S.length + T.length ≤ 1000000) (hb : Below w0.heap.size w0 w) (h0 : w0.heap.size ≤ b) :
    Calls Tryz.prog 48 #[.pointer (some ⟨b, 0, none⟩), .string (str T)] w fun e w' => (∃ n : Int, e = .returned (.tuple #[.int .i64 n, .nilIface])) ∧ Bld w' b (S ++ T) ∧ Below w0.heap.size w0 w' := by
  refine (Tryz.builder_write b b _ (str T) w h (by rw [Lib.byteCells_length, str_size]; omega) (Nat.le_of_lt h.lt)).mono ?_
  rintro e w' ⟨rfl, h1, h2⟩
  refine ⟨⟨_, rfl⟩, .inr ?_, hb.trans (h2.mono h0)⟩
  rw [show Lib.byteCells (S ++ T) = Lib.byteCells S ++ Lib.strCells (str T) by rw [Lib.strCells_eq]; simp [Lib.byteCells, str]]
  exact h1
theorem bstring_b (b : Nat) (S : List UInt8) (w0 w : World) (h : Bld w b S) (hb : Below w0.heap.size w0 w) (h0 : w0.heap.size ≤ b) :
    Calls Tryz.prog 50 #[.pointer (some ⟨b, 0, none⟩)] w fun e w' => e = .returned (.string (str S)) ∧ Below w0.heap.size w0 w' := by
  refine (Tryz.builder_string b b S w h (Nat.le_of_lt h.lt)).mono ?_
  rintro e w' ⟨rfl, h2⟩
  exact ⟨rfl, hb.trans (h2.mono h0)⟩

theorem flat_next {A B : Type} (f : A → List B) (l : List A) (j : Nat) (a : A) (h : l[j]? = some a) : (l.take (j + 1)).flatMap f = (l.take j).flatMap f ++ f a := by
  rw [List.take_add_one, h]
  simp
theorem flat_le {A : Type} (f : A → List UInt8) (K : Nat) (l : List A) (h : ∀ t ∈ l, (f t).length ≤ K) (j : Nat) : ((l.take j).flatMap f).length ≤ K * l.length := by
  have h1 := flatMap_len f K (l.take j) (fun t ht => h t (List.mem_of_mem_take ht))
  have : K * (l.take j).length ≤ K * l.length := Nat.mul_le_mul_left _ (by simp; omega)
  omega

set_option maxRecDepth 100000 in
set_option maxHeartbeats 4000000 in
theorem putTerms_b (lo : Option Addr) (n cap : Nat) (ps : List TP) (ls : List TL) (w : World) (h : PolyAt w lo n cap ps ls) (hm : ∀ t ∈ ls, MayT t) (hn : n ≤ 60) :
    Calls Tryz.prog 23 #[.slice lo n cap, .func (.func 24) #[] #[]] w fun e w' => e = .returned (.tuple #[.string (str (putPs ls)), .int .i64 0]) ∧ Below w.heap.size w w' := by
  have hN := h.most'
  have hn6 : (n : Int) ≤ 60 := by omega
  have hn0 : (0 : Int) ≤ (n : Int) := by omega
  have b1 := bel1 w (.cells #[.pointer none, .slice none 0 0] 88)
  obtain ⟨S0, hS0⟩ : ∃ S, S = putL n := ⟨_, rfl⟩
  have hlen := h.len
  have H : Hid (PolyAt w lo n cap ps ls ∧ (∀ t ∈ ls, MayT t) ∧ Below w.heap.size w (w.alloc (.cells #[.pointer none, .slice none 0 0] 88)) ∧ Bld (w.alloc (.cells #[.pointer none, .slice none 0 0] 88)) w.heap.size [] ∧ S0 = putL n ∧ S0.length ≤ 9 ∧ ls.length = n ∧ (∀ j, ((ls.take j).flatMap putTm).length ≤ 18240) ∧ n ≤ 60) :=
    ⟨h, hm, b1, Bld.new w, hS0, by rw [hS0]; exact putL_few n hn, hlen, fun j => by
      have := flat_le putTm 304 ls (fun t ht => putTm_len (hm t ht)) j
      have h3 : 304 * ls.length ≤ 304 * 60 := Nat.mul_le_mul_left _ (by omega)
      omega, hn⟩
  clear h hm b1 hS0 hlen
  go_enter Tryz.func23, Tryz.ntmps23
  go_wp2_with fail
  refine (put_n n _ (by have := H.out.2.2.2.2.2.2.2.2; omega)).mono ?_
  rw [← H.out.2.2.2.2.1]
  rintro e w1 ⟨rfl, q1⟩
  have H1 : Hid (Bld w1 w.heap.size [] ∧ Below w.heap.size w w1) := ⟨H.out.2.2.2.1.below q1, chain H.out.2.2.1 q1⟩
  clear q1
  go_wp2_with fail
  refine (bwrite_b w.heap.size [] S0 w _ H1.out.1 (by have := H.out.2.2.2.2.2.1; simp; omega) H1.out.2 (Nat.le_refl _)).mono ?_
  rintro e w2 ⟨⟨x0, rfl⟩, q1, q2⟩
  have H2 : Hid (Bld w2 w.heap.size S0 ∧ Below w.heap.size w w2) := ⟨by simpa using q1, q2⟩
  clear q1 q2
  go_wp2_with fail
  go_loopg [18] n (fun m s18 wr => ∃ (j : Nat), j ≤ n ∧ n - j ≤ m ∧ s18 = .int .i64 j ∧ Hid (Bld wr w.heap.size (S0 ++ (ls.take j).flatMap putTm) ∧ Below w.heap.size w wr))
  case atStart => exact ⟨0, Nat.zero_le _, by omega, rfl, by simpa using H2.out.1, H2.out.2⟩
  case round =>
    obtain ⟨j, hj, hjr, rfl, hO⟩ := hrel
    by_cases h0 : j < n
    · obtain ⟨bk, off, p, x, rfl, hpj, hxj, hat, hel, hblt⟩ := (H.out.1.below hO.out.2).elem h0
      have hjn : (j : Int) < (n : Int) := by omega
      have hj0 : (0 : Int) ≤ (j : Int) := by omega
      obtain ⟨neg, no, nn, nc, eo, en, ec, pa, pb, pc, pd⟩ := p
      obtain ⟨e0, e1, e2, e3, e4, e5, e6⟩ := hel
      dsimp only at e0 e1 e2 e3 e4 e5 e6
      have c2 := bel1 wr (.cells #[.bool neg, .slice no nn nc, .slice eo en ec, .int .i64 pa, .int .i64 pb, .int .i64 pc, .int .i64 pd] 49)
      have mbx := MBx.new wr ⟨neg, no, nn, nc, eo, en, ec, pa, pb, pc, pd⟩
      have HJ : Hid (j < n ∧ n - j ≤ _ ∧ ls[j]? = some x ∧ TermAt (wr.alloc (.cells #[.bool neg, .slice no nn nc, .slice eo en ec, .int .i64 pa, .int .i64 pb, .int .i64 pc, .int .i64 pd] 49)) ⟨neg, no, nn, nc, eo, en, ec, pa, pb, pc, pd⟩ x ∧ MayT x ∧ Bld (wr.alloc (.cells #[.bool neg, .slice no nn nc, .slice eo en ec, .int .i64 pa, .int .i64 pb, .int .i64 pc, .int .i64 pd] 49)) w.heap.size (S0 ++ (ls.take j).flatMap putTm) ∧ Below w.heap.size w (wr.alloc (.cells #[.bool neg, .slice no nn nc, .slice eo en ec, .int .i64 pa, .int .i64 pb, .int .i64 pc, .int .i64 pd] 49))) :=
        ⟨h0, hjr, hxj, hat.below c2, H.out.2.1 x (List.mem_of_getElem? hxj), hO.out.1.below c2, chain hO.out.2 c2⟩
      obtain ⟨m0, m1, m2, m3, m4, m5, m6⟩ := mbx.el
      dsimp only at m0 m1 m2 m3 m4 m5 m6
      clear hpj hxj hat hblt hj hjr h0 c2 mbx
      go_wp2_with fail
      refine (putTerm_b ⟨neg, no, nn, nc, eo, en, ec, pa, pb, pc, pd⟩ x _ HJ.out.2.2.2.1 HJ.out.2.2.2.2.1).mono ?_
      rintro e w3 ⟨rfl, q1⟩
      have H3 : Hid (Bld w3 w.heap.size (S0 ++ (ls.take j).flatMap putTm) ∧ Below w.heap.size w w3) := ⟨HJ.out.2.2.2.2.2.1.below q1, chain HJ.out.2.2.2.2.2.2 q1⟩
      clear q1 e0 e1 e2 e3 e4 e5 e6 m0 m1 m2 m3 m4 m5 m6
      go_wp2_with fail
      refine (bwrite_b w.heap.size _ (putTm x) w _ H3.out.1 (by have := H.out.2.2.2.2.2.1; have := H.out.2.2.2.2.2.2.2.1 j; have := putTm_len HJ.out.2.2.2.2.1; rw [List.length_append]; omega) H3.out.2 (Nat.le_refl _)).mono ?_
      rintro e w4 ⟨⟨x1, rfl⟩, q1, q2⟩
      have H4 : Hid (Bld w4 w.heap.size (S0 ++ (ls.take (j + 1)).flatMap putTm) ∧ Below w.heap.size w w4) := ⟨by rw [flat_next _ _ _ _ HJ.out.2.2.1, ← List.append_assoc]; exact q1, q2⟩
      clear q1 q2
      go_wp2_with fail
      go_roundg (n - (j + 1))
      case measure => have := HJ.out.1; have := HJ.out.2.1; omega
      case rel => exact ⟨j + 1, by have := HJ.out.1; omega, Nat.le_refl _, by go_num, H4.out⟩
    · have hjn : j = n := by omega
      subst hjn
      have hT : S0 ++ (ls.take j).flatMap putTm = putPs ls := by rw [List.take_of_length_le (by have := H.out.2.2.2.2.2.2.1; omega), H.out.2.2.2.2.1, ← H.out.2.2.2.2.2.2.1]; rfl
      have HO : Hid (Bld wr w.heap.size (putPs ls) ∧ Below w.heap.size w wr) := ⟨by rw [← hT]; exact hO.out.1, hO.out.2⟩
      clear hT hO hj hjr h0
      go_wp2_with fail
      refine (bstring_b w.heap.size _ w _ HO.out.1 HO.out.2 (Nat.le_refl _)).mono ?_
      rintro e w3 ⟨rfl, q1⟩
      have H3 : Hid (Below w.heap.size w w3) := q1
      clear q1
      go_wp2_with fail
      go_ret2
      exact ⟨rfl, H3.out⟩

def BIs (b : Bool) (p : Prop) : Prop := b = true ↔ p
theorem BIs.on {p : Prop} (h : BIs true p) : p := h.1 rfl
theorem BIs.off {p : Prop} (h : BIs false p) : ¬ p := fun e => by have := h.2 e; cases this
theorem BIs.ex (p : Prop) : ∃ b : Bool, BIs b p := by
  rcases Classical.em p with h | h
  · exact ⟨true, fun _ => h, fun _ => rfl⟩
  · exact ⟨false, fun e => (by cases e), fun e => absurd e h⟩
theorem bdec (p : Prop) : ∃ b : Bool, b = true ↔ p := by
  rcases Classical.em p with h | h
  · exact ⟨true, fun _ => h, fun _ => rfl⟩
  · exact ⟨false, fun e => (by cases e), fun e => absurd e h⟩
theorem PuIs.yes {p : List TL} {S : List UInt8} {k : Int} (h : PuIs p S k) (hm : MayA p) : S = putPs p ∧ k = 0 := by
  rcases h with ⟨_, h⟩ | ⟨h, _⟩
  · exact h
  · exact absurd hm h
theorem PuIs.no {p : List TL} {S : List UInt8} {k : Int} (h : PuIs p S k) (hm : ¬ MayA p) : S = [] ∧ k = 1 := by
  rcases h with ⟨h, _⟩ | ⟨_, h⟩
  · exact absurd h hm
  · exact h

set_option maxRecDepth 100000 in
set_option maxHeartbeats 4000000 in
theorem put_b (lo : Option Addr) (n cap : Nat) (ps : List TP) (ls : List TL) (S : List UInt8) (k : Int) (w : World) (h : PolyAt w lo n cap ps ls) (hp : PuIs ls S k) :
    Calls Tryz.prog 10 #[.slice lo n cap] w fun e w' => e = .returned (.tuple #[.string (str S), .int .i64 k]) ∧ Below w.heap.size w w' := by
  obtain ⟨a0, h0⟩ := BIs.ex (MayP 0 ls)
  obtain ⟨a1, h1⟩ := BIs.ex (MayP 1 ls)
  obtain ⟨a2, h2⟩ := BIs.ex (MayP 2 ls)
  have H : Hid (PolyAt w lo n cap ps ls ∧ PuIs ls S k ∧ BIs a0 (MayP 0 ls) ∧ BIs a1 (MayP 1 ls) ∧ BIs a2 (MayP 2 ls)) := ⟨h, hp, h0, h1, h2⟩
  clear h hp h0 h1 h2
  cases a0 with
  | true =>
    go_enter Tryz.func10, Tryz.ntmps10
    go_wp2_with fail
    refine (may_b 0 _ _ _ _ _ _ (H.out.1.below (Below.refl _ _)) true H.out.2.2.1).mono ?_
    rintro e w1 ⟨rfl, q⟩
    have H1 : Hid (Below w.heap.size w w1) := q
    clear q
    have hm : MayA ls := .inl H.out.2.2.1.on
    obtain ⟨rfl, rfl⟩ := H.out.2.1.yes hm
    have HM : Hid (MayA ls) := hm
    clear hm
    go_wp2_with fail
    refine (putTerms_b _ _ _ _ _ _ (H.out.1.below H1.out) HM.out.may (by have := H.out.1.len; have := HM.out.len; omega)).mono ?_
    rintro e w9 ⟨rfl, q⟩
    have H9 : Hid (Below w.heap.size w w9) := chain H1.out q
    clear q
    go_wp2_with fail
    go_ret2
    exact ⟨rfl, H9.out⟩
  | false =>
    cases a1 with
    | true =>
      go_enter Tryz.func10, Tryz.ntmps10
      go_wp2_with fail
      refine (may_b 0 _ _ _ _ _ _ (H.out.1.below (Below.refl _ _)) false H.out.2.2.1).mono ?_
      rintro e w1 ⟨rfl, q⟩
      have H1 : Hid (Below w.heap.size w w1) := q
      clear q
      go_wp2_with fail
      refine (may_b 1 _ _ _ _ _ _ (H.out.1.below H1.out) true H.out.2.2.2.1).mono ?_
      rintro e w2 ⟨rfl, q⟩
      have H2 : Hid (Below w.heap.size w w2) := chain H1.out q
      clear q
      have hm : MayA ls := .inr (.inl H.out.2.2.2.1.on)
      obtain ⟨rfl, rfl⟩ := H.out.2.1.yes hm
      have HM : Hid (MayA ls) := hm
      clear hm
      go_wp2_with fail
      refine (putTerms_b _ _ _ _ _ _ (H.out.1.below H2.out) HM.out.may (by have := H.out.1.len; have := HM.out.len; omega)).mono ?_
      rintro e w9 ⟨rfl, q⟩
      have H9 : Hid (Below w.heap.size w w9) := chain H2.out q
      clear q
      go_wp2_with fail
      go_ret2
      exact ⟨rfl, H9.out⟩
    | false =>
      cases a2 with
      | true =>
        go_enter Tryz.func10, Tryz.ntmps10
        go_wp2_with fail
        refine (may_b 0 _ _ _ _ _ _ (H.out.1.below (Below.refl _ _)) false H.out.2.2.1).mono ?_
        rintro e w1 ⟨rfl, q⟩
        have H1 : Hid (Below w.heap.size w w1) := q
        clear q
        go_wp2_with fail
        refine (may_b 1 _ _ _ _ _ _ (H.out.1.below H1.out) false H.out.2.2.2.1).mono ?_
        rintro e w2 ⟨rfl, q⟩
        have H2 : Hid (Below w.heap.size w w2) := chain H1.out q
        clear q
        go_wp2_with fail
        refine (may_b 2 _ _ _ _ _ _ (H.out.1.below H2.out) true H.out.2.2.2.2).mono ?_
        rintro e w3 ⟨rfl, q⟩
        have H3 : Hid (Below w.heap.size w w3) := chain H2.out q
        clear q
        have hm : MayA ls := .inr (.inr H.out.2.2.2.2.on)
        obtain ⟨rfl, rfl⟩ := H.out.2.1.yes hm
        have HM : Hid (MayA ls) := hm
        clear hm
        go_wp2_with fail
        refine (putTerms_b _ _ _ _ _ _ (H.out.1.below H3.out) HM.out.may (by have := H.out.1.len; have := HM.out.len; omega)).mono ?_
        rintro e w9 ⟨rfl, q⟩
        have H9 : Hid (Below w.heap.size w w9) := chain H3.out q
        clear q
        go_wp2_with fail
        go_ret2
        exact ⟨rfl, H9.out⟩
      | false =>
        go_enter Tryz.func10, Tryz.ntmps10
        go_wp2_with fail
        refine (may_b 0 _ _ _ _ _ _ (H.out.1.below (Below.refl _ _)) false H.out.2.2.1).mono ?_
        rintro e w1 ⟨rfl, q⟩
        have H1 : Hid (Below w.heap.size w w1) := q
        clear q
        go_wp2_with fail
        refine (may_b 1 _ _ _ _ _ _ (H.out.1.below H1.out) false H.out.2.2.2.1).mono ?_
        rintro e w2 ⟨rfl, q⟩
        have H2 : Hid (Below w.heap.size w w2) := chain H1.out q
        clear q
        go_wp2_with fail
        refine (may_b 2 _ _ _ _ _ _ (H.out.1.below H2.out) false H.out.2.2.2.2).mono ?_
        rintro e w3 ⟨rfl, q⟩
        have H3 : Hid (Below w.heap.size w w3) := chain H2.out q
        clear q
        have hm : ¬ MayA ls := by
          rintro (h | h | h)
          · exact H.out.2.2.1.off h
          · exact H.out.2.2.2.1.off h
          · exact H.out.2.2.2.2.off h
        obtain ⟨rfl, rfl⟩ := H.out.2.1.no hm
        clear hm
        go_wp2_with fail
        go_ret2
        exact ⟨rfl, H3.out⟩
end Go.Proofs.YtnedghhcidohnaaGreat

/-! press.putEach over polynomials; press.PutList. -/
namespace Go.Proofs.YtnedghhcidohnaaGreat
open Go.RowKit

/-- So many as may be each, told one behind the other: the first that may not ends it. -/
theorem mayA_first (l : List (List TL)) (h : ¬ ∀ p ∈ l, MayA p) : ∃ (j : Nat) (p : List TL), j < l.length ∧ l[j]? = some p ∧ ¬ MayA p ∧ ∀ q ∈ l.take j, MayA q := by
  induction l with
  | nil => exact absurd (fun p hp => by cases hp) h
  | cons q l ih =>
    rcases Classical.em (MayA q) with hq | hq
    · obtain ⟨j, p, h1, h2, h3, h4⟩ := ih (fun hl => h (fun p hp => by
        rcases List.mem_cons.1 hp with rfl | hp
        · exact hq
        · exact hl p hp))
      refine ⟨j + 1, p, by simp; omega, by simpa using h2, h3, fun r hr => ?_⟩
      rw [List.take_succ_cons] at hr
      rcases List.mem_cons.1 hr with rfl | hr
      · exact hq
      · exact h4 r hr
    · exact ⟨0, q, by simp, rfl, hq, fun r hr => by simp at hr⟩

set_option maxRecDepth 100000 in
set_option maxHeartbeats 4000000 in
theorem putPolys_b (lo : Option Addr) (n cap : Nat) (lss : List (List TL)) (S : List UInt8) (k : Int) (w : World) (h : ListAt w lo n lss) (hn : n ≤ 24) (hp : PutLs lss S k) :
    Calls Tryz.prog 28 #[.slice lo n cap, .func (.func 10) #[] #[]] w fun e w' => e = .returned (.tuple #[.string (str S), .int .i64 k]) ∧ Below w.heap.size w w' := by
  have hN := h.most
  have hn6 : (n : Int) ≤ 24 := by omega
  have hn0 : (0 : Int) ≤ (n : Int) := by omega
  have b1 := bel1 w (.cells #[.pointer none, .slice none 0 0] 88)
  obtain ⟨S0, hS0⟩ : ∃ S, S = putL n := ⟨_, rfl⟩
  have hlen := h.len
  have H : Hid (ListAt w lo n lss ∧ PutLs lss S k ∧ Below w.heap.size w (w.alloc (.cells #[.pointer none, .slice none 0 0] 88)) ∧ Bld (w.alloc (.cells #[.pointer none, .slice none 0 0] 88)) w.heap.size [] ∧ S0 = putL n ∧ S0.length ≤ 9 ∧ lss.length = n ∧ n ≤ 24) :=
    ⟨h, hp, b1, Bld.new w, hS0, by rw [hS0]; exact putL_few n (by omega), hlen, hn⟩
  clear h hp b1 hS0 hlen
  go_enter Tryz.func28, Tryz.ntmps28
  go_wp2_with fail
  refine (put_n n _ (by have := H.out.2.2.2.2.2.2.2; omega)).mono ?_
  rw [← H.out.2.2.2.2.1]
  rintro e w1 ⟨rfl, q1⟩
  have H1 : Hid (Bld w1 w.heap.size [] ∧ Below w.heap.size w w1) := ⟨H.out.2.2.2.1.below q1, chain H.out.2.2.1 q1⟩
  clear q1
  go_wp2_with fail
  refine (bwrite_b w.heap.size [] S0 w _ H1.out.1 (by have := H.out.2.2.2.2.2.1; simp; omega) H1.out.2 (Nat.le_refl _)).mono ?_
  rintro e w2 ⟨⟨x0, rfl⟩, q1, q2⟩
  have H2 : Hid (Bld w2 w.heap.size S0 ∧ Below w.heap.size w w2) := ⟨by simpa using q1, q2⟩
  clear q1 q2
  go_wp2_with fail
  go_loopg [18] n (fun m s18 wr => ∃ (j : Nat), j ≤ n ∧ n - j ≤ m ∧ s18 = .int .i64 j ∧ Hid (Bld wr w.heap.size (S0 ++ (lss.take j).flatMap putPs) ∧ Below w.heap.size w wr ∧ (∀ p ∈ lss.take j, MayA p)))
  case atStart => exact ⟨0, Nat.zero_le _, by omega, rfl, by simpa using H2.out.1, H2.out.2, fun p hp => by simp at hp⟩
  case round =>
    obtain ⟨j, hj, hjr, rfl, hO⟩ := hrel
    by_cases h0 : j < n
    · obtain ⟨bk, off, po, pn, pc, ps, x, rfl, hcell, hxj, hat, hblt⟩ := (H.out.1.below hO.out.2.1).elem j h0
      have hjn : (j : Int) < (n : Int) := by omega
      have hj0 : (0 : Int) ≤ (j : Int) := by omega
      obtain ⟨T, i, hT⟩ := PuIs.ex x
      have HJ : Hid (j < n ∧ n - j ≤ _ ∧ lss[j]? = some x ∧ PolyAt wr po pn pc ps x ∧ PuIs x T i) := ⟨h0, hjr, hxj, hat, hT⟩
      have HL : Hid (((lss.take j).flatMap putPs).length ≤ 438000) := by
        have h1 := flatMap_len putPs 18249 (lss.take j) (fun p hp => putPs_len (hO.out.2.2 p hp))
        have h2 : (lss.take j).length ≤ 24 := by have := H.out.2.2.2.2.2.2; simp; omega
        have : 18249 * (lss.take j).length ≤ 18249 * 24 := Nat.mul_le_mul_left _ h2
        exact Nat.le_trans h1 (Nat.le_trans this (by decide))
      clear hxj hat hblt hj hjr h0 hT
      go_wp2_with fail
      refine (put_b _ _ _ _ x T i _ HJ.out.2.2.2.1 HJ.out.2.2.2.2).mono ?_
      rintro e w3 ⟨rfl, q1⟩
      have H3 : Hid (Bld w3 w.heap.size (S0 ++ (lss.take j).flatMap putPs) ∧ Below w.heap.size w w3) := ⟨hO.out.1.below q1, chain hO.out.2.1 q1⟩
      clear q1 hcell
      rcases Classical.em (MayA x) with hm | hm
      · obtain ⟨rfl, rfl⟩ := HJ.out.2.2.2.2.yes hm
        have HM : Hid (MayA x) := hm
        clear hm
        go_wp2_with fail
        refine (bwrite_b w.heap.size _ (putPs x) w _ H3.out.1 (by have := H.out.2.2.2.2.2.1; have := HL.out; have := putPs_len HM.out; rw [List.length_append]; omega) H3.out.2 (Nat.le_refl _)).mono ?_
        rintro e w4 ⟨⟨x1, rfl⟩, q1, q2⟩
        have H4 : Hid (Bld w4 w.heap.size (S0 ++ (lss.take (j + 1)).flatMap putPs) ∧ Below w.heap.size w w4 ∧ ∀ p ∈ lss.take (j + 1), MayA p) := ⟨by rw [flat_next _ _ _ _ HJ.out.2.2.1, ← List.append_assoc]; exact q1, q2, fun p hp => by
          rw [List.take_add_one, HJ.out.2.2.1] at hp
          rcases List.mem_append.1 hp with hp | hp
          · exact hO.out.2.2 p hp
          · simp at hp; subst hp; exact HM.out⟩
        clear q1 q2
        go_wp2_with fail
        go_roundg (n - (j + 1))
        case measure => have := HJ.out.1; have := HJ.out.2.1; omega
        case rel => exact ⟨j + 1, by have := HJ.out.1; omega, Nat.le_refl _, by go_num, H4.out⟩
      · obtain ⟨rfl, rfl⟩ := HJ.out.2.2.2.2.no hm
        have HM : Hid (S = [] ∧ k = 1) := by
          rcases H.out.2.1 with ⟨g, _⟩ | ⟨_, g⟩
          · exact absurd (g.2 x (List.mem_of_getElem? HJ.out.2.2.1)) hm
          · exact g
        clear hm
        obtain ⟨rfl, rfl⟩ := HM.out
        go_wp2_with fail
        go_ret2
        exact ⟨rfl, H3.out.2⟩
    · have hjn : j = n := by omega
      subst hjn
      have hall : ∀ p ∈ lss, MayA p := by
        have := hO.out.2.2
        rw [List.take_of_length_le (by have := H.out.2.2.2.2.2.2.1; omega)] at this
        exact this
      have hS : S = putL j ++ lss.flatMap putPs ∧ k = 0 := by
        rcases H.out.2.1 with ⟨_, g⟩ | ⟨g, _⟩
        · rw [H.out.2.2.2.2.2.2.1] at g; exact g
        · exact absurd ⟨by have := H.out.2.2.2.2.2.2; omega, hall⟩ g
      obtain ⟨rfl, rfl⟩ := hS
      have HO : Hid (Bld wr w.heap.size (putL j ++ lss.flatMap putPs) ∧ Below w.heap.size w wr) := ⟨by
        have := hO.out.1
        rw [List.take_of_length_le (by have := H.out.2.2.2.2.2.2.1; omega), H.out.2.2.2.2.1] at this
        exact this, hO.out.2.1⟩
      clear hO hj hjr h0 hall
      go_wp2_with fail
      refine (bstring_b w.heap.size _ w _ HO.out.1 HO.out.2 (Nat.le_refl _)).mono ?_
      rintro e w3 ⟨rfl, q1⟩
      have H3 : Hid (Below w.heap.size w w3) := q1
      clear q1
      go_wp2_with fail
      go_ret2
      exact ⟨rfl, H3.out⟩

set_option maxRecDepth 100000 in
set_option maxHeartbeats 4000000 in
theorem putList_b (lo : Option Addr) (n cap : Nat) (lss : List (List TL)) (S : List UInt8) (k : Int) (w : World) (h : ListAt w lo n lss) (hp : PutLs lss S k) :
    Calls Tryz.prog 12 #[.slice lo n cap] w fun e w' => e = .returned (.tuple #[.string (str S), .int .i64 k]) ∧ Below w.heap.size w w' := by
  have hN := h.most
  have hn0 : (0 : Int) ≤ (n : Int) := by omega
  have H : Hid (ListAt w lo n lss ∧ PutLs lss S k) := ⟨h, hp⟩
  by_cases hn : n ≤ 24
  · have hn' : ¬ (24 : Int) < (n : Int) := by omega
    have HN : Hid (n ≤ 24) := hn
    clear h hp hn
    go_enter Tryz.func12, Tryz.ntmps12
    go_wp2_with fail
    refine (putPolys_b _ _ _ _ S k _ H.out.1 HN.out H.out.2).mono ?_
    rintro e w3 ⟨rfl, q1⟩
    have H3 : Hid (Below w.heap.size w w3) := q1
    clear q1
    go_wp2_with fail
    go_ret2
    exact ⟨rfl, H3.out⟩
  · have hn' : (24 : Int) < (n : Int) := by omega
    have hS : S = [] ∧ k = 1 := by
      rcases hp with ⟨g, _⟩ | ⟨_, g⟩
      · have := g.1; have := h.len; omega
      · exact g
    obtain ⟨rfl, rfl⟩ := hS
    clear h hp hn
    go_enter Tryz.func12, Tryz.ntmps12
    go_wp2_with fail
    go_ret2
    exact ⟨rfl, Below.refl _ _⟩
end Go.Proofs.YtnedghhcidohnaaGreat
