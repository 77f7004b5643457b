/-
  The reference's may, Put, PutList of layer 11.
-/
import Derived.Test.YtnedghhcidohnaaGreatLC1
import Derived.Test.YtnedghhcidohnaaGreatJX1
import Derived.Test.YtnedghhcidohnaaGreatJQ1
import Derived.Test.YtnedghhcidohnaaGreatJW1
import Derived.Test.YtnedghhcidohnaaGreatJL1
namespace Go.Proofs.YtnedghhcidohnaaGreat
open Go.RowKit

theorem ex_bool (P : Prop) : ∃ b : Bool, b = true ↔ P := by
  rcases Classical.em P with h | h
  · exact ⟨true, yes_iff h⟩
  · exact ⟨false, no_iff h⟩

set_option maxRecDepth 100000 in
set_option maxHeartbeats 4000000 in
theorem rmayA_b (lo : Option Addr) (n cap : Nat) (ps : List TP) (ls : List TL) (w : World) (h : PolyAt w lo n cap ps ls) (b : Bool) (hb : b = true ↔ MayA ls) :
    Calls Tryz.prog 25 #[.slice lo n cap] w fun e w' => e = .returned (.bool b) ∧ Below w.heap.size w w' := by
  obtain ⟨a0, h0⟩ := ex_bool (MayP 0 ls)
  obtain ⟨a1, h1⟩ := ex_bool (MayP 1 ls)
  obtain ⟨a2, h2⟩ := ex_bool (MayP 2 ls)
  have hbb : b = (a0 || (a1 || a2)) := by
    rw [Bool.eq_iff_iff, Bool.or_eq_true, Bool.or_eq_true, h0, h1, h2, hb]
    rfl
  have H : Hid (PolyAt w lo n cap ps ls ∧ (a0 = true ↔ MayP 0 ls) ∧ (a1 = true ↔ MayP 1 ls) ∧ (a2 = true ↔ MayP 2 ls)) := ⟨h, h0, h1, h2⟩
  clear h hb h0 h1 h2
  subst hbb
  go_enter Tryz.func25, Tryz.ntmps25
  go_wp2_with fail
  refine (rmay_b 0 _ _ _ _ ls _ H.out.1 a0 H.out.2.1).mono ?_
  rintro e w1 ⟨rfl, q1⟩
  have H1 : Hid (PolyAt w1 lo n cap ps ls ∧ Below w.heap.size w w1) := ⟨H.out.1.below q1, q1⟩
  clear q1
  cases a0 with
  | true =>
    go_wp2_with fail
    go_ret
    exact ⟨rfl, H1.out.2⟩
  | false =>
    go_wp2_with fail
    refine (rmay_b 1 _ _ _ _ ls _ H1.out.1 a1 H.out.2.2.1).mono ?_
    rintro e w2 ⟨rfl, q1⟩
    have H2 : Hid (PolyAt w2 lo n cap ps ls ∧ Below w.heap.size w w2) := ⟨H1.out.1.below q1, chain H1.out.2 q1⟩
    clear q1
    cases a1 with
    | true =>
      go_wp2_with fail
      go_ret
      exact ⟨rfl, H2.out.2⟩
    | false =>
      go_wp2_with fail
      refine (rmay_b 2 _ _ _ _ ls _ H2.out.1 a2 H.out.2.2.2).mono ?_
      rintro e w3 ⟨rfl, q1⟩
      have H3 : Hid (Below w.heap.size w w3) := chain H2.out.2 q1
      clear q1
      cases a2 <;> (go_wp2_with fail; go_ret; exact ⟨rfl, H3.out⟩)

/-- The bytes of the exponents. -/
def ebs (t : TL) : List UInt8 := [eb t.m.a, eb t.m.b, eb t.m.c, eb t.m.d]
theorem take_put {l : List TL} {i : Nat} {t : TL} (h : l[i]? = some t) : (l.take (i + 1)).flatMap putTm = (l.take i).flatMap putTm ++ putTm t := by
  have : l.take (i + 1) = l.take i ++ [t] := by
    rw [List.take_add_one, h]; rfl
  rw [this, List.flatMap_append]; simp
theorem take_put_len {l : List TL} (h : MayA l) (i : Nat) : ((l.take i).flatMap putTm).length ≤ 18240 := by
  have h1 := flatMap_len putTm 304 (l.take i) (fun t ht => putTm_len (h.may t (List.mem_of_mem_take ht)))
  have h2 : (l.take i).length ≤ 60 := by rw [List.length_take]; have := h.len; omega
  have : 304 * (l.take i).length ≤ 304 * 60 := Nat.mul_le_mul_left _ h2
  omega

theorem conv_ex (W : World) (x : Int) (h : Mn.Ex x) :
    (convert 58 9 (.slice (some ⟨W.heap.size, 0, none⟩) 1 1)).run Tryz.prog (W.alloc (.cells #[.int .u8 x] 5)) = .ok (.string (str [eb x])) (W.alloc (.cells #[.int .u8 x] 5)) := by
  have h0 := h.lo
  have h1 := h.hi
  exact (OwnB.one W (.int .u8 x) (eb x) (by rw [← byte_eb x h]; congr 1; omega)).string 58 9 (by kernel_rfl) (by kernel_rfl) (by kernel_rfl)
theorem ex_at {W : World} {b o : Nat} {p : TP} {t : TL} (h : ElemAt W b o p) (hmo : t.m = ⟨p.a, p.b, p.c, p.d⟩) (hm : MayT t) (k : Nat) (hk : k < 4) : ∃ x, W.cell? ⟨b, o + 3 + k, none⟩ = some (.int .i64 x) ∧ (ebs t)[k]? = some (eb x) ∧ Mn.Ex x := by
  have hM := hm.m
  unfold MayM at hM
  unfold ebs
  rw [hmo] at hM ⊢
  match k, hk with
  | 0, _ => exact ⟨_, h.c3, rfl, hM.x⟩
  | 1, _ => exact ⟨_, h.c4, rfl, hM.y⟩
  | 2, _ => exact ⟨_, h.c5, rfl, hM.z⟩
  | 3, _ => exact ⟨_, h.c6, rfl, hM.u⟩

set_option maxRecDepth 100000 in
set_option maxHeartbeats 4000000 in
theorem rputPoly_b (lo : Option Addr) (n cap : Nat) (ps : List TP) (ls : List TL) (w : World) (h : PolyAt w lo n cap ps ls) (hm : MayA ls) :
    Calls Tryz.prog 11 #[.slice lo n cap] w fun e w' => e = .returned (.tuple #[.string (str (putPs ls)), .int .i64 0]) ∧ Below w.heap.size w w' := by
  have hpm := h.most'
  have hn0 : (0 : Int) ≤ (n : Int) := by omega
  have H : Hid (PolyAt w lo n cap ps ls ∧ MayA ls ∧ n ≤ 60 ∧ ls.length = n) := ⟨h, hm, by rw [← h.len]; exact hm.len, h.len⟩
  have hn6 : (n : Int) ≤ 60 := by have := H.out.2.2.1; omega
  clear h hm
  go_enter Tryz.func11, Tryz.ntmps11
  go_wp2_with fail
  refine (rmayA_b _ _ _ _ ls _ H.out.1 true (yes_iff H.out.2.1)).mono ?_
  rintro e w1 ⟨rfl, q1⟩
  have H1 : Hid (PolyAt w1 lo n cap ps ls ∧ Below w.heap.size w w1) := ⟨H.out.1.below q1, q1⟩
  clear q1
  go_wp2_with fail
  refine (rput_n n _ (by have := H.out.2.2.1; omega)).mono ?_
  rintro e w2 ⟨rfl, q1⟩
  have H2 : Hid (PolyAt w2 lo n cap ps ls ∧ Below w.heap.size w w2) := ⟨H1.out.1.below q1, chain H1.out.2 q1⟩
  clear q1 H1
  go_wp2_with fail
  go_loopg [4, 5] n (fun m s4 s5 wr => ∃ (j : Nat) (S : List UInt8), j ≤ n ∧ n - j ≤ m ∧ s4 = .string (str S) ∧ s5 = .int .i64 j ∧ Hid (S = putL n ++ (ls.take j).flatMap putTm ∧ PolyAt wr lo n cap ps ls ∧ Below w.heap.size w wr))
  case atStart => exact ⟨0, putL n, Nat.zero_le _, by omega, rfl, rfl, by simp, H2.out.1, H2.out.2⟩
  case round =>
    obtain ⟨j, S, hj, hjr, rfl, rfl, hI⟩ := hrel
    by_cases i0 : j < n
    · obtain ⟨tb, toff, p, t, rfl, hpi, hti, htat, hel, htlt⟩ := hI.out.2.1.elem i0
      have hin : (j : Int) < (n : Int) := by omega
      have hi0' : (0 : Int) ≤ (j : Int) := by omega
      have hmt := H.out.2.1.may t (List.mem_of_getElem? hti)
      have hS1 : ((str S).size : Int) ≤ 18300 := by
        rw [str_size, hI.out.1, List.length_append]
        have := putL_few n H.out.2.2.1
        have := take_put_len H.out.2.1 j
        omega
      obtain ⟨C, hC⟩ : ∃ C, C = putR t.c := ⟨_, rfl⟩
      have hC1 : ((str C).size : Int) ≤ 300 := by rw [str_size, hC]; have := putR_small hmt.c; omega
      obtain ⟨neg, no, nn, nc, eo, en, ec, pa, pb, pc', pd⟩ := p
      obtain ⟨e0, e1, e2, e3, e4, e5, e6⟩ := hel
      dsimp only at e0 e1 e2 e3 e4 e5 e6
      have HJ : Hid (j < n ∧ n - j ≤ _ ∧ ls[j]? = some t ∧ MayT t ∧ TermAt wr ⟨neg, no, nn, nc, eo, en, ec, pa, pb, pc', pd⟩ t ∧ C = putR t.c ∧ ElemAt wr tb (toff + j * 7) ⟨neg, no, nn, nc, eo, en, ec, pa, pb, pc', pd⟩ ∧ tb < wr.heap.size) := ⟨i0, hjr, hti, hmt, htat, hC, ⟨e0, e1, e2, e3, e4, e5, e6⟩, htlt⟩
      clear hpi hti htat htlt hj hjr i0 hmt hC e3 e4 e5 e6
      go_wp2_with fail
      refine (rputRat_told _ _ _ _ _ _ _ t.c C 0 _ HJ.out.2.2.2.2.1.rat HJ.out.2.2.2.2.1.neg (.inl ⟨HJ.out.2.2.2.1.c, HJ.out.2.2.2.2.2.1, rfl⟩)).mono ?_
      rintro e w3 ⟨rfl, q1⟩
      have H3 : Hid (PolyAt w3 (some ⟨tb, toff, none⟩) n cap ps ls ∧ Below w.heap.size w w3 ∧ ElemAt w3 tb (toff + j * 7) ⟨neg, no, nn, nc, eo, en, ec, pa, pb, pc', pd⟩ ∧ tb < w3.heap.size ∧ S = putL n ++ (ls.take j).flatMap putTm) := ⟨hI.out.2.1.below q1, chain hI.out.2.2 q1, HJ.out.2.2.2.2.2.2.1.below HJ.out.2.2.2.2.2.2.2 q1, Nat.lt_of_lt_of_le HJ.out.2.2.2.2.2.2.2 q1.size, hI.out.1⟩
      have hap : str S ++ str C = str (S ++ C) := str_append S C
      have hSC : (S ++ C).length ≤ 18600 := by rw [str_size] at hS1 hC1; rw [List.length_append]; omega
      clear q1 hI e0 e1 e2
      go_wp2_with fail
      go_loopg [4, 8] 4 (fun m s4 s8 wy => ∃ (k : Nat) (T : List UInt8), k ≤ 4 ∧ 4 - k ≤ m ∧ s4 = .string (str T) ∧ s8 = .int .i64 k ∧ Hid (T = S ++ C ++ (ebs t).take k ∧ PolyAt wy (some ⟨tb, toff, none⟩) n cap ps ls ∧ Below w.heap.size w wy ∧ ElemAt wy tb (toff + j * 7) ⟨neg, no, nn, nc, eo, en, ec, pa, pb, pc', pd⟩ ∧ tb < wy.heap.size))
      case atStart => exact ⟨0, S ++ C, Nat.zero_le _, by omega, rfl, rfl, by simp, H3.out.1, H3.out.2.1, H3.out.2.2.1, H3.out.2.2.2.1⟩
      case round =>
        obtain ⟨k, T, hk, hkr, rfl, rfl, hK⟩ := hrel
        by_cases k0 : k < 4
        · obtain ⟨x, hx1, hx2, hx3⟩ := ex_at hK.out.2.2.2.1 HJ.out.2.2.2.2.1.mo HJ.out.2.2.2.1 k k0
          have hk4 : (k : Int) < 4 := by omega
          have hk0 : (0 : Int) ≤ (k : Int) := by omega
          have x0 := hx3.lo
          have x1 := hx3.hi
          have hcm : x % 256 = x := by omega
          have hwc : IntKind.u8.wrap x = x := by rw [IntKind.wrap_u8]; exact hcm
          have hcv := fun W => conv_ex W x hx3
          have hT1 : ((str T).size : Int) ≤ 18610 := by
            rw [str_size, hK.out.1, List.length_append, List.length_take]
            omega
          have hs1 : (str [eb x]).size = 1 := by rw [str_size]; rfl
          have hap2 : str T ++ str [eb x] = str (T ++ [eb x]) := str_append _ _
          have HX : Hid (k < 4 ∧ 4 - k ≤ _ ∧ T ++ [eb x] = S ++ C ++ (ebs t).take (k + 1)) := ⟨k0, hkr, by rw [hK.out.1, List.take_add_one, hx2, List.append_assoc (S ++ C)]; rfl⟩
          have b1 := bel1 wr (.cells #[.int .u8 x] 5)
          have HN : Hid (PolyAt (wr.alloc (.cells #[.int .u8 x] 5)) (some ⟨tb, toff, none⟩) n cap ps ls ∧ Below w.heap.size w (wr.alloc (.cells #[.int .u8 x] 5)) ∧ ElemAt (wr.alloc (.cells #[.int .u8 x] 5)) tb (toff + j * 7) ⟨neg, no, nn, nc, eo, en, ec, pa, pb, pc', pd⟩ ∧ tb < (wr.alloc (.cells #[.int .u8 x] 5)).heap.size) := ⟨hK.out.2.1.below b1, chain hK.out.2.2.1 b1, hK.out.2.2.2.1.below hK.out.2.2.2.2 b1, Nat.lt_of_lt_of_le hK.out.2.2.2.2 b1.size⟩
          clear hx2 hx3 hK hk hkr k0 b1
          go_wp2_with fail
          go_roundg (4 - (k + 1))
          case measure => have := HX.out.1; have := HX.out.2.1; omega
          case rel => exact ⟨k + 1, _, by have := HX.out.1; omega, Nat.le_refl _, rfl, by go_num, HX.out.2.2, HN.out⟩
        · have hk4 : k = 4 := by omega
          subst hk4
          have HN : Hid (PolyAt wr (some ⟨tb, toff, none⟩) n cap ps ls ∧ Below w.heap.size w wr ∧ T = putL n ++ (ls.take (j + 1)).flatMap putTm) := ⟨hK.out.2.1, hK.out.2.2.1, by
            rw [hK.out.1, H3.out.2.2.2.2, take_put HJ.out.2.2.1, HJ.out.2.2.2.2.2.1]
            unfold putTm ebs
            simp⟩
          clear hK hk hkr k0
          go_wp2_with fail
          go_roundg (n - (j + 1))
          case measure => have := HJ.out.1; have := HJ.out.2.1; omega
          case rel => exact ⟨j + 1, T, by have := HJ.out.1; omega, Nat.le_refl _, rfl, by go_num, HN.out.2.2, HN.out.1, HN.out.2.1⟩
    · have hin : j = n := by omega
      have HF : Hid (S = putPs ls ∧ Below w.heap.size w wr) := by
        refine ⟨?_, hI.out.2.2⟩
        rw [hI.out.1, List.take_of_length_le (by have := H.out.2.2.2; omega)]
        unfold putPs
        rw [H.out.2.2.2]
      obtain rfl := HF.out.1
      subst hin
      clear hI hj hjr i0
      go_wp2_with fail
      go_ret2
      exact ⟨rfl, HF.out.2⟩
end Go.Proofs.YtnedghhcidohnaaGreat
