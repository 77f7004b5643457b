/-
  press.getTerm.
-/
import Derived.Test.YtnedghhcidohnaaGreatPressA
import Derived.Test.YtnedghhcidohnaaGreatLD1
import Derived.Test.YtnedghhcidohnaaGreatJW1
namespace Go.Proofs.YtnedghhcidohnaaGreat
open Go.RowKit

theorem results_tm {fn : Func} (hf : fn.results = #[.cell 2 49, .tmp 3, .tmp 4]) (tmps : Array Value) {w : World} {B : Nat} {p : TP} (u v : Value) (h : MBx w B p)
    (h2 : tmps[2]?.getD undef = .pointer (some ⟨B, 0, none⟩)) (h3 : tmps[3]?.getD undef = u) (h4 : tmps[4]?.getD undef = v) :
    (results fn tmps).run Tryz.prog w = .ok (.tuple #[.agg #[.bool p.neg, .slice p.no p.nn p.nc, .slice p.eo p.en p.ec, .int .i64 p.a, .int .i64 p.b, .int .i64 p.c, .int .i64 p.d], u, v]) w := by
  simp only [results, hf]
  simp [Result.andThen, asAddr, h2, h3, h4, load_t h]

theorem mbx_drew {W : World} {B : Nat} {p : TP} (h : MBx W B p) : MBx W.drew B p := h
theorem ratAt_drew {W : World} {no : Option Addr} {nn nc : Nat} {eo : Option Addr} {en ec : Nat} {r : RatL} (h : RatAt W no nn nc eo en ec r) : RatAt W.drew no nn nc eo en ec r := h.below (Below.refl _ _).drew
theorem bel_drew {n : Nat} {w W : World} (h : Below n w W) : Below n w W.drew := h.drew
/-- What getTerm answers. -/
def TmTold (r : Except Int (TL × List UInt8)) (t : TL) (R : List UInt8) (k : Int) : Prop :=
  match r with
  | .error e => t = zt ∧ R = [] ∧ k = e
  | .ok (x, b) => t = x ∧ R = b ∧ k = 0
/-- The byte at k, once it is read. -/
def upB (j k : Nat) (c : Nat) : Int := if k < j then (c : Int) else 0

set_option maxRecDepth 100000 in
set_option maxHeartbeats 8000000 in
theorem getTerm_b (s : List UInt8) (res : Except Int (TL × List UInt8)) (w : World) (h : TmIs s res) (hs : s.length ≤ 700000) :
    Calls Tryz.prog 30 #[.string (str s)] w fun e w' => ∃ (q : TP) (t : TL) (R : List UInt8) (k : Int), e = .returned (.tuple #[.agg #[.bool q.neg, .slice q.no q.nn q.nc, .slice q.eo q.en q.ec, .int .i64 q.a, .int .i64 q.b, .int .i64 q.c, .int .i64 q.d], .string (str R), .int .i64 k]) ∧ TermAt w' q t ∧ TmTold res t R k ∧ Below w.heap.size w w' := by
  obtain ⟨r0, hr, hres⟩ := h
  have b1 := bel1 w (.cells #[.bool false, .slice none 0 0, .slice none 0 0, .int .i64 0, .int .i64 0, .int .i64 0, .int .i64 0] 49)
  have H : Hid (RatIs s r0 ∧ s.length ≤ 700000 ∧ MBx (w.alloc (.cells #[.bool false, .slice none 0 0, .slice none 0 0, .int .i64 0, .int .i64 0, .int .i64 0, .int .i64 0] 49)) w.heap.size ⟨false, none, 0, 0, none, 0, 0, 0, 0, 0, 0⟩ ∧ Below w.heap.size w (w.alloc (.cells #[.bool false, .slice none 0 0, .slice none 0 0, .int .i64 0, .int .i64 0, .int .i64 0, .int .i64 0] 49))) :=
    ⟨hr, hs, MBx.new w ⟨false, none, 0, 0, none, 0, 0, 0, 0, 0, 0⟩, b1⟩
  have HR : Hid (TmAft r0 res) := hres
  clear hr hs b1 hres
  go_enter Tryz.func30, Tryz.ntmps30
  go_wp2_with fail
  refine (getRat_told s r0 _ H.out.1 H.out.2.1).mono ?_
  rintro e w1 ⟨no, nn, nc, eo, en, ec, q, R, k, rfl, q1, q2, q3⟩
  have c2 := bel1 w1 (.cells #[.bool q.neg, .slice no nn nc, .slice eo en ec] 45)
  have rb := RBox.new w1 q.neg no nn nc eo en ec
  have q4 := chain q3 c2
  have tb := H.out.2.2.1.below q4
  have H1 : Hid (RatAt (w1.alloc (.cells #[.bool q.neg, .slice no nn nc, .slice eo en ec] 45)) no nn nc eo en ec q ∧ RatTold r0 q R k ∧ MBx (w1.alloc (.cells #[.bool q.neg, .slice no nn nc, .slice eo en ec] 45)) w.heap.size ⟨false, none, 0, 0, none, 0, 0, 0, 0, 0, 0⟩ ∧ Below w.heap.size w (w1.alloc (.cells #[.bool q.neg, .slice no nn nc, .slice eo en ec] 45)) ∧ RBox (w1.alloc (.cells #[.bool q.neg, .slice no nn nc, .slice eo en ec] 45)) w1.heap.size q.neg no nn nc eo en ec) :=
    ⟨q1.below c2, q2, tb, chain H.out.2.2.2 q4, rb⟩
  have g0 := tb.f 0
  have g1 := tb.f 1
  have g2 := tb.f 2
  have g3 := tb.f 3
  have g4 := tb.f 4
  have g5 := tb.f 5
  have g6 := tb.f 6
  obtain ⟨z0, z1, z2, z3, z4, z5, z6⟩ := tb.el
  dsimp only at z0 z1 z2 z3 z4 z5 z6
  clear q1 q3 q4 c2 tb
  rcases r0 with e | ⟨x, b⟩
  · obtain ⟨rfl, rfl, rfl⟩ := q2
    have hk := H.out.1.err
    have hS : Hid (MBx (set7 (w1.alloc (.cells #[.bool rat0.neg, .slice no nn nc, .slice eo en ec] 45)) w.heap.size ⟨false, none, 0, 0, none, 0, 0, 0, 0, 0, 0⟩) w.heap.size ⟨false, none, 0, 0, none, 0, 0, 0, 0, 0, 0⟩ ∧ Below w.heap.size w (set7 (w1.alloc (.cells #[.bool rat0.neg, .slice no nn nc, .slice eo en ec] 45)) w.heap.size ⟨false, none, 0, 0, none, 0, 0, 0, 0, 0, 0⟩)) := ⟨H1.out.2.2.1.set _, below_set7 H1.out.2.2.2.1 (Nat.le_refl _) _⟩
    clear rb
    go_wp2_with fail
    refine bodyPost_ret (results_tm rfl _ _ _ hS.out.1 rfl rfl rfl) rfl ?_
    refine ⟨zp, zt, [], k, rfl, zp_at _, ?_, hS.out.2⟩
    rw [show res = _ from HR.out]
    exact ⟨rfl, rfl, rfl⟩
  · obtain ⟨rfl, rfl, rfl⟩ := q2
    by_cases hl : R.length < 4
    · have hsz : (str R).size < 4 := by rw [str_size]; exact hl
      have hsz' : ((str R).size : Int) < 4 := by omega
      have hS : Hid (MBx (set7 (w1.alloc (.cells #[.bool q.neg, .slice no nn nc, .slice eo en ec] 45)) w.heap.size ⟨false, none, 0, 0, none, 0, 0, 0, 0, 0, 0⟩) w.heap.size ⟨false, none, 0, 0, none, 0, 0, 0, 0, 0, 0⟩ ∧ Below w.heap.size w (set7 (w1.alloc (.cells #[.bool q.neg, .slice no nn nc, .slice eo en ec] 45)) w.heap.size ⟨false, none, 0, 0, none, 0, 0, 0, 0, 0, 0⟩) ∧ res = .error 60) := ⟨H1.out.2.2.1.set _, below_set7 H1.out.2.2.2.1 (Nat.le_refl _) _, by have := HR.out; unfold TmAft at this; dsimp only at this; rw [if_pos hl] at this; exact this⟩
      clear rb hl
      go_wp2_with fail
      refine bodyPost_ret (results_tm rfl _ _ _ hS.out.1 rfl rfl rfl) rfl ?_
      refine ⟨zp, zt, [], 60, rfl, zp_at _, ?_, hS.out.2.1⟩
      rw [hS.out.2.2]
      exact ⟨rfl, rfl, rfl⟩
    · obtain ⟨c0, c1, c2, c3, r, hR⟩ : ∃ c0 c1 c2 c3 r, R = c0 :: c1 :: c2 :: c3 :: r := by
        match R, hl with
        | [], h => simp at h
        | [_], h => simp at h
        | [_, _], h => simp at h
        | [_, _, _], h => simp at h
        | a :: b :: c :: d :: r, _ => exact ⟨a, b, c, d, r, rfl⟩
      have hres : res = .ok (⟨q, ⟨(c0.toNat : Int), (c1.toNat : Int), (c2.toNat : Int), (c3.toNat : Int)⟩⟩, r) := by
        have := HR.out
        unfold TmAft at this
        dsimp only at this
        rw [if_neg hl, hR] at this
        exact this
      obtain ⟨T, hT⟩ : ∃ T, T = str R := ⟨_, rfl⟩
      obtain ⟨L, hL⟩ : ∃ L : Nat, L = r.length := ⟨_, rfl⟩
      have hsz : T.size = L + 4 := by rw [hT, str_size, hR, hL]; rfl
      have hbig : (L : Int) ≤ 700000 := by
        have h1 := H.out.1.one
        have h2 := congrArg List.length h1.1
        rw [List.length_append, hR] at h2
        have := H.out.2.1
        simp at h2
        omega
      have hx : T.extract 4 (L + 4) = str r := by rw [hT, ext_str, hR, hL]; simp
      have hn4 : ¬ ((L : Int) + 4 < 4) := by omega
      obtain ⟨n0, hn0⟩ : ∃ n0, n0 = c0.toNat := ⟨_, rfl⟩
      obtain ⟨n1, hn1⟩ : ∃ n1, n1 = c1.toNat := ⟨_, rfl⟩
      obtain ⟨n2, hn2⟩ : ∃ n2, n2 = c2.toNat := ⟨_, rfl⟩
      obtain ⟨n3, hn3⟩ : ∃ n3, n3 = c3.toNat := ⟨_, rfl⟩
      have p0 : 0 < T.size := by omega
      have p1 : 1 < T.size := by omega
      have p2 : 2 < T.size := by omega
      have p3 : 3 < T.size := by omega
      have t0 : (T[0]'p0).toNat = n0 := by subst hT hR hn0; rfl
      have t1 : (T[1]'p1).toNat = n1 := by subst hT hR hn1; rfl
      have t2 : (T[2]'p2).toNat = n2 := by subst hT hR hn2; rfl
      have t3 : (T[3]'p3).toNat = n3 := by subst hT hR hn3; rfl
      have i0 : (n0 : Int) < 256 := by rw [hn0]; have := c0.toNat_lt; omega
      have i1 : (n1 : Int) < 256 := by rw [hn1]; have := c1.toNat_lt; omega
      have i2 : (n2 : Int) < 256 := by rw [hn2]; have := c2.toNat_lt; omega
      have i3 : (n3 : Int) < 256 := by rw [hn3]; have := c3.toNat_lt; omega
      rw [← hn0, ← hn1, ← hn2, ← hn3] at hres
      rw [← hT]
      have HS : Hid (res = .ok (⟨q, ⟨(n0 : Int), (n1 : Int), (n2 : Int), (n3 : Int)⟩⟩, r)) := hres
      clear hres hR hT hL hn0 hn1 hn2 hn3 hl c0 c1 c2 c3 g0 g1 g2 g3 g4 g5 g6 z0 z1 z2 z3 z4 z5 z6
      obtain ⟨W, hW⟩ : ∃ W, W = w1.alloc (.cells #[.bool q.neg, .slice no nn nc, .slice eo en ec] 45) := ⟨_, rfl⟩
      have r0' := rb.c0
      have r1' := rb.c1
      have r2' := rb.c2
      have b8 := MBx.new (w1.alloc (.cells #[.bool q.neg, .slice no nn nc, .slice eo en ec] 45)) ⟨q.neg, no, nn, nc, eo, en, ec, 0, 0, 0, 0⟩
      have a8 := bel1 (w1.alloc (.cells #[.bool q.neg, .slice no nn nc, .slice eo en ec] 45)) (.cells #[.bool q.neg, .slice no nn nc, .slice eo en ec, .int .i64 0, .int .i64 0, .int .i64 0, .int .i64 0] 49)
      clear hW W rb
      rw [World.size_alloc] at b8
      have HB : Hid (MBx ((w1.alloc (.cells #[.bool q.neg, .slice no nn nc, .slice eo en ec] 45)).alloc (.cells #[.bool q.neg, .slice no nn nc, .slice eo en ec, .int .i64 0, .int .i64 0, .int .i64 0, .int .i64 0] 49)) (w1.heap.size + 1) ⟨q.neg, no, nn, nc, eo, en, ec, upB 0 0 n0, upB 0 1 n1, upB 0 2 n2, upB 0 3 n3⟩ ∧ Below (w1.alloc (.cells #[.bool q.neg, .slice no nn nc, .slice eo en ec] 45)).heap.size (w1.alloc (.cells #[.bool q.neg, .slice no nn nc, .slice eo en ec] 45)) ((w1.alloc (.cells #[.bool q.neg, .slice no nn nc, .slice eo en ec] 45)).alloc (.cells #[.bool q.neg, .slice no nn nc, .slice eo en ec, .int .i64 0, .int .i64 0, .int .i64 0, .int .i64 0] 49))) := ⟨b8, a8⟩
      clear a8 b8
      go_wp2_with fail
      go_loopg [26] 4 (fun m s26 wr => ∃ j : Nat, j ≤ 4 ∧ 4 - j ≤ m ∧ s26 = .int .i64 j ∧ Hid (MBx wr (w1.heap.size + 1) ⟨q.neg, no, nn, nc, eo, en, ec, upB j 0 n0, upB j 1 n1, upB j 2 n2, upB j 3 n3⟩ ∧ Below (w1.alloc (.cells #[.bool q.neg, .slice no nn nc, .slice eo en ec] 45)).heap.size (w1.alloc (.cells #[.bool q.neg, .slice no nn nc, .slice eo en ec] 45)) wr))
      case atStart => exact ⟨0, by omega, by omega, rfl, HB.out⟩
      case round =>
        obtain ⟨j, hj, hjr, rfl, hO⟩ := hrel
        have fz := hO.out.1.f
        have HM : Hid (4 - j ≤ _) := hjr
        by_cases h4 : j = 4
        · subst h4
          obtain ⟨e0, e1, e2, e3, e4, e5, e6⟩ := hO.out.1.el
          dsimp only [upB] at e0 e1 e2 e3 e4 e5 e6
          simp only [Nat.reduceLT, if_true] at e3 e4 e5 e6
          have tb := H1.out.2.2.1.below hO.out.2
          have g0 := tb.f 0
          have g1 := tb.f 1
          have g2 := tb.f 2
          have g3 := tb.f 3
          have g4 := tb.f 4
          have g5 := tb.f 5
          have g6 := tb.f 6
          obtain ⟨z0, z1, z2, z3, z4, z5, z6⟩ := tb.el
          dsimp only at z0 z1 z2 z3 z4 z5 z6
          have HX : Hid (MBx (set7 wr w.heap.size ⟨q.neg, no, nn, nc, eo, en, ec, n0, n1, n2, n3⟩) w.heap.size ⟨q.neg, no, nn, nc, eo, en, ec, n0, n1, n2, n3⟩ ∧ RatAt (set7 wr w.heap.size ⟨q.neg, no, nn, nc, eo, en, ec, n0, n1, n2, n3⟩) no nn nc eo en ec q ∧ Below w.heap.size w (set7 wr w.heap.size ⟨q.neg, no, nn, nc, eo, en, ec, n0, n1, n2, n3⟩)) :=
            ⟨tb.set _, (H1.out.1.below hO.out.2).set7 tb _, below_set7 (chain H1.out.2.2.2.1 hO.out.2) (Nat.le_refl _) _⟩
          clear fz tb hj hjr hO
          go_wp2_with fail
          go_region
          have HD : Hid (MBx (set7 wr w.heap.size ⟨q.neg, no, nn, nc, eo, en, ec, n0, n1, n2, n3⟩).drew w.heap.size ⟨q.neg, no, nn, nc, eo, en, ec, n0, n1, n2, n3⟩ ∧ RatAt (set7 wr w.heap.size ⟨q.neg, no, nn, nc, eo, en, ec, n0, n1, n2, n3⟩).drew no nn nc eo en ec q ∧ Below w.heap.size w (set7 wr w.heap.size ⟨q.neg, no, nn, nc, eo, en, ec, n0, n1, n2, n3⟩).drew) := ⟨mbx_drew HX.out.1, ratAt_drew HX.out.2.1, bel_drew HX.out.2.2⟩
          go_wp2_with fail
          refine bodyPost_ret (results_tm rfl _ _ _ HD.out.1 rfl rfl rfl) rfl ?_
          refine ⟨⟨q.neg, no, nn, nc, eo, en, ec, n0, n1, n2, n3⟩, ⟨q, ⟨n0, n1, n2, n3⟩⟩, r, 0, rfl, ⟨HD.out.2.1, rfl, rfl⟩, ?_, HD.out.2.2⟩
          rw [HS.out]
          exact ⟨rfl, rfl, rfl⟩
        · have hlt : j < 4 := by omega
          match j, hlt with
          | 0, _ =>
            have f := fz 3
            obtain ⟨e0, e1, e2, e3, e4, e5, e6⟩ := hO.out.1.el
            have HN : Hid (MBx (wr.setCell ⟨w1.heap.size + 1, 3, none⟩ (.int .i64 n0)) (w1.heap.size + 1) ⟨q.neg, no, nn, nc, eo, en, ec, upB 1 0 n0, upB 1 1 n1, upB 1 2 n2, upB 1 3 n3⟩ ∧ Below (w1.alloc (.cells #[.bool q.neg, .slice no nn nc, .slice eo en ec] 45)).heap.size (w1.alloc (.cells #[.bool q.neg, .slice no nn nc, .slice eo en ec] 45)) (wr.setCell ⟨w1.heap.size + 1, 3, none⟩ (.int .i64 n0))) := ⟨hO.out.1.s3 _, hO.out.2.setCell (by rw [World.size_alloc]; exact Nat.le_refl _) _⟩
            clear fz hj hjr e0 e1 e2 e4 e5 e6
            go_wp2_with fail
            go_roundg 3
            case measure => have := HM.out; omega
            case rel => exact ⟨1, by omega, by omega, rfl, HN.out⟩
          | 1, _ =>
            have f := fz 4
            obtain ⟨e0, e1, e2, e3, e4, e5, e6⟩ := hO.out.1.el
            have HN : Hid (MBx (wr.setCell ⟨w1.heap.size + 1, 4, none⟩ (.int .i64 n1)) (w1.heap.size + 1) ⟨q.neg, no, nn, nc, eo, en, ec, upB 2 0 n0, upB 2 1 n1, upB 2 2 n2, upB 2 3 n3⟩ ∧ Below (w1.alloc (.cells #[.bool q.neg, .slice no nn nc, .slice eo en ec] 45)).heap.size (w1.alloc (.cells #[.bool q.neg, .slice no nn nc, .slice eo en ec] 45)) (wr.setCell ⟨w1.heap.size + 1, 4, none⟩ (.int .i64 n1))) := ⟨hO.out.1.s4 _, hO.out.2.setCell (by rw [World.size_alloc]; exact Nat.le_refl _) _⟩
            clear fz hj hjr e0 e1 e2 e3 e5 e6
            go_wp2_with fail
            go_roundg 2
            case measure => have := HM.out; omega
            case rel => exact ⟨2, by omega, by omega, rfl, HN.out⟩
          | 2, _ =>
            have f := fz 5
            obtain ⟨e0, e1, e2, e3, e4, e5, e6⟩ := hO.out.1.el
            have HN : Hid (MBx (wr.setCell ⟨w1.heap.size + 1, 5, none⟩ (.int .i64 n2)) (w1.heap.size + 1) ⟨q.neg, no, nn, nc, eo, en, ec, upB 3 0 n0, upB 3 1 n1, upB 3 2 n2, upB 3 3 n3⟩ ∧ Below (w1.alloc (.cells #[.bool q.neg, .slice no nn nc, .slice eo en ec] 45)).heap.size (w1.alloc (.cells #[.bool q.neg, .slice no nn nc, .slice eo en ec] 45)) (wr.setCell ⟨w1.heap.size + 1, 5, none⟩ (.int .i64 n2))) := ⟨hO.out.1.s5 _, hO.out.2.setCell (by rw [World.size_alloc]; exact Nat.le_refl _) _⟩
            clear fz hj hjr e0 e1 e2 e3 e4 e6
            go_wp2_with fail
            go_roundg 1
            case measure => have := HM.out; omega
            case rel => exact ⟨3, by omega, by omega, rfl, HN.out⟩
          | 3, _ =>
            have f := fz 6
            obtain ⟨e0, e1, e2, e3, e4, e5, e6⟩ := hO.out.1.el
            have HN : Hid (MBx (wr.setCell ⟨w1.heap.size + 1, 6, none⟩ (.int .i64 n3)) (w1.heap.size + 1) ⟨q.neg, no, nn, nc, eo, en, ec, upB 4 0 n0, upB 4 1 n1, upB 4 2 n2, upB 4 3 n3⟩ ∧ Below (w1.alloc (.cells #[.bool q.neg, .slice no nn nc, .slice eo en ec] 45)).heap.size (w1.alloc (.cells #[.bool q.neg, .slice no nn nc, .slice eo en ec] 45)) (wr.setCell ⟨w1.heap.size + 1, 6, none⟩ (.int .i64 n3))) := ⟨hO.out.1.s6 _, hO.out.2.setCell (by rw [World.size_alloc]; exact Nat.le_refl _) _⟩
            clear fz hj hjr e0 e1 e2 e3 e4 e5
            go_wp2_with fail
            go_roundg 0
            case measure => have := HM.out; omega
            case rel => exact ⟨4, by omega, by omega, rfl, HN.out⟩
end Go.Proofs.YtnedghhcidohnaaGreat
