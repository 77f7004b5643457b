/-
  press.putTerm.
-/
import Derived.Test.YtnedghhcidohnaaGreatPressA
import Derived.Test.YtnedghhcidohnaaGreatJQ1
import Derived.Test.YtnedghhcidohnaaGreatLD1
import Derived.Test.YtnedghhcidohnaaGreatJW1
namespace Go.Proofs.YtnedghhcidohnaaGreat
open Go.RowKit

theorem byte_eb (a : Int) (h : Mn.Ex a) : Value.int .u8 (a % 256) = u8v (eb a) := by
  have h0 := h.lo
  have h1 := h.hi
  obtain ⟨n, rfl⟩ := Int.eq_ofNat_of_zero_le h0
  unfold u8v eb
  congr 1

theorem putR_few {t : TL} (h : MayT t) : (putR t.c).length ≤ 300 := putR_small h.c

set_option maxRecDepth 100000 in
set_option maxHeartbeats 4000000 in
theorem putTerm_b (p : TP) (t : TL) (w : World) (h : TermAt w p t) (hm : MayT t) :
    Calls Tryz.prog 24 #[.agg #[.bool p.neg, .slice p.no p.nn p.nc, .slice p.eo p.en p.ec, .int .i64 p.a, .int .i64 p.b, .int .i64 p.c, .int .i64 p.d]] w fun e w' => e = .returned (.tuple #[.string (str (putTm t)), .int .i64 0]) ∧ Below w.heap.size w w' := by
  obtain ⟨i0, hi, hz0, hz1, hz2⟩ := info_parts (P := Tryz.prog) (e := 5) (z := .int .u8 0) (size := 1) (bytes := 1) (by kernel_rfl)
  obtain ⟨g, no, nn, nc, eo, en, ec, a, b, c, d⟩ := p
  dsimp only
  have b1 := bel1 w (.cells #[.bool g, .slice no nn nc, .slice eo en ec, .int .i64 a, .int .i64 b, .int .i64 c, .int .i64 d] 49)
  have hmo : t.m = ⟨a, b, c, d⟩ := h.mo
  have hM : Mn.May4 a b c d := h.may4.1 hm.m
  obtain ⟨S, hS⟩ : ∃ S, S = putR t.c := ⟨_, rfl⟩
  obtain ⟨N, hN⟩ : ∃ N, N = S.length := ⟨_, rfl⟩
  have hN3 : N ≤ 300 := by rw [hN, hS]; exact putR_few hm
  have hN3' : (N : Int) ≤ 300 := by omega
  have H : Hid (TermAt (w.alloc (.cells #[.bool g, .slice no nn nc, .slice eo en ec, .int .i64 a, .int .i64 b, .int .i64 c, .int .i64 d] 49)) ⟨g, no, nn, nc, eo, en, ec, a, b, c, d⟩ t ∧ MayT t ∧ Mn.May4 a b c d ∧ Below w.heap.size w (w.alloc (.cells #[.bool g, .slice no nn nc, .slice eo en ec, .int .i64 a, .int .i64 b, .int .i64 c, .int .i64 d] 49)) ∧ MBx (w.alloc (.cells #[.bool g, .slice no nn nc, .slice eo en ec, .int .i64 a, .int .i64 b, .int .i64 c, .int .i64 d] 49)) w.heap.size ⟨g, no, nn, nc, eo, en, ec, a, b, c, d⟩ ∧ S = putR t.c ∧ N = S.length ∧ putTm t = S ++ [eb a, eb b, eb c, eb d]) :=
    ⟨h.below b1, hm, hM, b1, MBx.new w ⟨g, no, nn, nc, eo, en, ec, a, b, c, d⟩, hS, hN, by rw [hS]; unfold putTm; rw [hmo]⟩
  have x0 := Mn.ix0 a b c d
  have x1 := Mn.ix1 a b c d
  have x2 := Mn.ix2 a b c d
  have x3 := Mn.ix3 a b c d
  have l0 := hM.x.lo
  have l1 := hM.y.lo
  have l2 := hM.z.lo
  have l3 := hM.u.lo
  have u0 := hM.x.hi
  have u1 := hM.y.hi
  have u2 := hM.z.hi
  have u3 := hM.u.hi
  clear h hm b1 hM hS hN hmo
  go_enter Tryz.func24, Tryz.ntmps24
  go_wp2_with fail
  refine (putRat_told _ _ _ _ _ _ _ t.c S 0 _ H.out.1.rat H.out.1.neg (.inl ⟨H.out.2.1.c, H.out.2.2.2.2.2.1, rfl⟩)).mono ?_
  rintro e w1 ⟨rfl, q1⟩
  have MB1 := H.out.2.2.2.2.1.below q1
  have B1 := chain H.out.2.2.2.1 q1
  have hcv := Lib.run_convert_string_bytes (P := Tryz.prog) w1 9 58 5 (str S) (u := .string) (by kernel_rfl) (by kernel_rfl) (by kernel_rfl)
  have hown := own_bytes w1 S (by have := H.out.2.2.2.2.2.2.1; omega) w.heap.size B1.size
  have hbel := below_bytes w1 5 (str S)
  have hmb := MB1.below hbel
  rw [str_size, ← H.out.2.2.2.2.2.2.1] at hcv
  rw [← H.out.2.2.2.2.2.2.1] at hown
  generalize Lib.bytesWorld w1 5 (str S) = W1 at hcv hown hbel hmb
  generalize grownCap w1 N 0 5 = cp at hcv hown
  have HW : Hid (OwnB W1 w.heap.size w1.heap.size N cp S ∧ Below w.heap.size w W1 ∧ MBx W1 w.heap.size ⟨g, no, nn, nc, eo, en, ec, a, b, c, d⟩) := ⟨hown, chain B1 hbel, hmb⟩
  clear hown hbel hmb B1 q1 MB1
  obtain ⟨e0, e1, e2, e3, e4, e5, e6⟩ := HW.out.2.2.el
  dsimp only at e0 e1 e2 e3 e4 e5 e6
  go_wp2_with fail
  clear hcv e0 e1 e2 e3 e4 e5 e6
  go_loopg [6, 19] 4 (fun m s6 s19 wr => ∃ (j g' c' : Nat), j ≤ 4 ∧ 4 - j ≤ m ∧ s19 = .int .i64 j ∧ s6 = .slice (some ⟨g', 0, none⟩) (N + j) c' ∧ Hid (OwnB wr w.heap.size g' (N + j) c' (S ++ [eb a, eb b, eb c, eb d].take j) ∧ Below w.heap.size w wr))
  case atStart => exact ⟨0, w1.heap.size, cp, by omega, by omega, rfl, rfl, by simpa using HW.out.1, HW.out.2.1⟩
  case round =>
    obtain ⟨j, g', c', hj, hjr, rfl, rfl, hO⟩ := hrel
    by_cases h4 : j = 4
    · subst h4
      have hcv := hO.out.1.string (P := Tryz.prog) 58 9 (by kernel_rfl) (by kernel_rfl) (by kernel_rfl)
      have HF : Hid (Below w.heap.size w wr ∧ (S ++ [eb a, eb b, eb c, eb d]).toArray = (putTm t).toArray) := ⟨hO.out.2, by rw [H.out.2.2.2.2.2.2.2]⟩
      clear hO hj hjr
      go_wp2_with fail
      go_ret2
      exact ⟨by rw [HF.out.2]; rfl, HF.out.1⟩
    · have hlt : j < 4 := by omega
      have hx : ∃ (y : Int) (yb : UInt8), (∀ w', (Instr.index 47 (.agg #[.int .i64 a, .int .i64 b, .int .i64 c, .int .i64 d]) (.int .i64 (j : Int))).run Tryz.prog w' = .ok (.int .i64 y) w') ∧ 0 ≤ y ∧ y ≤ 40 ∧ Value.int .u8 (y % 256) = u8v yb ∧ [eb a, eb b, eb c, eb d].take (j + 1) = [eb a, eb b, eb c, eb d].take j ++ [yb] := by
        have := H.out.2.2.1
        match j, hlt with
        | 0, _ => exact ⟨a, eb a, x0, this.x.lo, this.x.hi, byte_eb a this.x, rfl⟩
        | 1, _ => exact ⟨b, eb b, x1, this.y.lo, this.y.hi, byte_eb b this.y, rfl⟩
        | 2, _ => exact ⟨c, eb c, x2, this.z.lo, this.z.hi, byte_eb c this.z, rfl⟩
        | 3, _ => exact ⟨d, eb d, x3, this.u.lo, this.u.hi, byte_eb d this.u, rfl⟩
      obtain ⟨y, yb, hy, y0, y1, hv, htk⟩ := hx
      have hj4 : (j : Int) < 4 := by omega
      have hym : y % 256 = y := by omega
      have HV : Hid (Value.int .u8 y = u8v yb ∧ [eb a, eb b, eb c, eb d].take (j + 1) = [eb a, eb b, eb c, eb d].take j ++ [yb] ∧ j < 4 ∧ 4 - j ≤ _) := ⟨by rw [← hv, hym], htk, hlt, hjr⟩
      clear hv htk h4 hj hjr hlt x0 x1 x2 x3 l0 l1 l2 l3 u0 u1 u2 u3
      go_wp2_with (at_builtin; refine wpList_append_byte _ rfl (.tmp 22) (.tmp 25) 58 rfl w.heap.size i0 (by kernel_rfl) hi hz0 hz1 hz2 g' (N + j) c' _ rfl (hO.out.1.alloc _) ⟨wr.heap.size, 0, none⟩ 1 yb rfl ((cell_one wr _ 5).trans (congrArg some HV.out.1)) (by have := H.out.2.2.2.2.2.2.1; omega) (by have := hO.out.2.size; simp; omega) ?_; intro g2 c2 w2 hown2 hgr2 hk2)
      have HR : Hid (OwnB w2 w.heap.size g2 (N + j + 1) c2 (S ++ [eb a, eb b, eb c, eb d].take j ++ [yb]) ∧ Below w.heap.size w w2) := ⟨hown2, below_grow (hO.out.2.alloc hO.out.2.size _) hgr2 hO.out.1.lt.1⟩
      clear hown2 hgr2 hk2
      go_wp2_with fail
      go_roundg (4 - (j + 1))
      case measure => have := HV.out.2.2.2; have := HV.out.2.2.1; omega
      case rel => exact ⟨j + 1, g2, c2, by have := HV.out.2.2.1; omega, Nat.le_refl _, by go_num, rfl, by rw [HV.out.2.1, ← List.append_assoc]; exact HR.out.1, HR.out.2⟩
end Go.Proofs.YtnedghhcidohnaaGreat
