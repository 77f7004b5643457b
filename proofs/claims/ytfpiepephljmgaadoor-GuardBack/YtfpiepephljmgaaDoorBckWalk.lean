/-
  GuardBack, walked.
-/
import Derived.Test.YtfpiepephljmgaaDoorGBck
import Derived.Test.YtfpiepephljmgaaDoorCutWalk
import Derived.Deep.RegionHeld3
import Derived.Deep.DrawnRows
namespace Go.Proofs.YtfpiepephljmgaaDoor
open Go.ChangeShapes Go.WideShapes Go.ChangeAt Go.RowKit

theorem ownsRow_one (W : World) (b : Nat) (hb : b ≤ W.heap.size) (v : Value) (e : TypeId) : (W.alloc (.cells #[v] e)).ownsRow b e 1 (.slice (some ⟨W.heap.size, 0, none⟩) 1 1) 1 [v] :=
  ⟨rfl, .inr ⟨W.heap.size, 1, #[v], rfl, hb, heap_alloc_new W _, Nat.le_refl _, by unfold maxLen; omega, rfl, rfl⟩⟩

theorem cell_new1 (W : World) (v : Value) (t : TypeId) : ∀ j u, [v][j]? = some u → (W.alloc (.cells #[v] t)).cell? ((⟨W.heap.size, 0, none⟩ : Addr).add j) = some u := by
  intro j u h
  have hadd : (⟨W.heap.size, 0, none⟩ : Addr).add j = ⟨W.heap.size, j, none⟩ := by unfold Addr.add; split <;> simp_all
  rw [hadd, cell_of_row _ W.heap.size j #[v] t (0, 0) (heap_alloc_new W _)]
  simpa using h

theorem beside {w2 w5 : World} {tmp : Obj} {b k n g1 c1 g2 c2 : Nat} {xs ys : List Value} (h1 : w2.ownsRow b 30 3 (.slice (some ⟨g1, 0, none⟩) k c1) k xs) (h2 : w2.ownsRow b 3 1 (.slice (some ⟨g2, 0, none⟩) n c2) n ys) (hg : (w2.alloc tmp).grownBy w5 (some g1)) :
    w5.ownsRow b 3 1 (.slice (some ⟨g2, 0, none⟩) n c2) n ys :=
  (h2.alloc tmp).kept hg (rows_apart (h2.alloc tmp) (h1.alloc tmp) (by decide))

theorem size_grown {w2 w5 : World} {tmp : Obj} {row : Option Nat} {n : Nat} (h : n ≤ w2.heap.size) (hg : (w2.alloc tmp).grownBy w5 row) : n ≤ w5.heap.size := Nat.le_trans h (Nat.le_trans (by simp) hg.size)

theorem same_m (g1 g2 c1 c2 b1 b2 m : Nat) (fs : List Frm) (w : World) (h1 : w.ownsRow b1 30 3 (.slice (some ⟨g1, 0, none⟩) m c1) m (flatC fs)) (h2 : w.ownsRow b2 30 3 (.slice (some ⟨g2, 0, none⟩) m c2) m (flatC fs)) (hm : fs.length = m) (hl : m ≤ 100000) :
    Calls Tryd.prog 19 #[.slice (some ⟨g1, 0, none⟩) m c1, .slice (some ⟨g2, 0, none⟩) m c2] w fun e w' => e = .returned (.bool true) ∧ Below w.heap.size w w' := by
  subst hm
  exact same_yes g1 g2 c1 c2 b1 b2 fs w h1 h2 hl

/-- What the loop holds. -/
structure BckIs (w : World) (ep : Nat) (fs : List Frm) (S : List UInt8) (k g1 c1 g2 c2 : Nat) (wr : World) : Prop where
  isCat : S = cat fs
  len : fs.length = k
  ok : ∀ f ∈ fs, f.ok
  turn : allF 1 ep fs = fs
  size : S.length ≤ 324 * k
  want : wr.ownsRow w.heap.size 30 3 (.slice (some ⟨g1, 0, none⟩) k c1) k (flatC fs)
  ends : wr.ownsRow w.heap.size 3 1 (.slice (some ⟨g2, 0, none⟩) (k + 1) c2) (k + 1) (endsC fs)
  bel : Below w.heap.size w wr

/-- A round's step: both rows behind both appends. -/
theorem BckIs.step {w wr w2 w3 w4 : World} {ep k g1 c1 g2 c2 g1' c1' g2' c2' : Nat} {fs : List Frm} {S : List UInt8} (h : BckIs w ep fs S k g1 c1 g2 c2 wr) (t : List UInt8) (ht : t.length ≤ 300) (hk : k < 20) (hep : ep < 18446744073709551616) (S' : List UInt8) (hS : S' = S ++ putF ⟨k + 1, ep, t⟩)
    (hb2 : Below wr.heap.size wr w2) {t1 t2 : Obj} (ho1 : w3.ownsRow w.heap.size 30 3 (.slice (some ⟨g1', 0, none⟩) (k + 1) c1') (k + 1) (flatC fs ++ (⟨k + 1, ep, t⟩ : Frm).cs)) (hg1 : (w2.alloc t1).grownBy w3 (some g1))
    (ho2 : w4.ownsRow w.heap.size 3 1 (.slice (some ⟨g2', 0, none⟩) (k + 1 + 1) c2') (k + 1 + 1) (endsC fs ++ [.int .i64 ((S'.length : Nat) : Int)])) (hg2 : (w3.alloc t2).grownBy w4 (some g2)) : BckIs w ep (fs ++ [⟨k + 1, ep, t⟩]) S' (k + 1) g1' c1' g2' c2' w4 := by
  have hok : (⟨k + 1, ep, t⟩ : Frm).ok := ⟨by show k + 1 < _; omega, hep, by show t.length ≤ _; omega⟩
  have hpl := putF_length ⟨k + 1, ep, t⟩
  simp only at hpl
  have hl1 := h.want.lt g1 rfl
  have hl2 := h.ends.lt g2 rfl
  have b3 : Below w.heap.size w w3 := ((chain h.bel hb2).alloc (chain h.bel hb2).size t1).grown hg1 (by have := (chain h.bel hb2).size; simp; omega) (fun j e => by have h9 : g1 = j := Option.some.inj e; omega)
  refine ⟨by rw [hS, h.isCat, cat_snoc], by rw [List.length_append, h.len]; rfl, ?_, ?_, ?_, ?_, ?_, ?_⟩
  · intro f hf
    rcases List.mem_append.1 hf with hf | hf
    · exact h.ok f hf
    · rw [List.mem_singleton] at hf
      rw [hf]
      exact hok
  · exact allF_snoc_on fs 1 ep _ h.turn rfl (by show k + 1 = 1 + fs.length; rw [h.len]; omega)
  · have := h.size
    rw [hS, List.length_append, hpl]
    omega
  · rw [flatC_snoc]
    exact (ho1.alloc t2).kept hg2 (rows_apart (b2 := w.heap.size) (s2 := 1) (n2 := k + 1) (v2 := .slice (some ⟨g2, 0, none⟩) (k + 1) c2) (x2 := endsC fs) (ho1.alloc t2) ((((ownsRow_below h.ends hb2 (Nat.le_refl _)).alloc t1).kept hg1 (rows_apart ((ownsRow_below h.ends hb2 (Nat.le_refl _)).alloc t1) ((ownsRow_below h.want hb2 (Nat.le_refl _)).alloc t1) (by decide))).alloc t2) (by decide))
  · have e1 : offs (fs ++ [⟨k + 1, ep, t⟩]) (fs.length + 1) = S'.length := by
      have h1 := offs_all (fs ++ [⟨k + 1, ep, t⟩])
      rw [List.length_append, cat_snoc, ← h.isCat, ← hS] at h1
      exact h1
    rw [endsC_snoc, e1]
    exact ho2
  · exact (b3.alloc b3.size t2).grown hg2 (by have := b3.size; simp; omega) (fun j e => by have h9 : g2 = j := Option.some.inj e; omega)

set_option maxRecDepth 100000 in
set_option maxHeartbeats 8000000 in
theorem back_walk (a0 : Option Addr) (len0 cap0 : Nat) (z0 : List ByteArray) (a1 : Int) (a2 : ByteArray) (a3 : Int) (w : World) (w0 : IsTexts w a0 len0 cap0 z0) (w1 : (Lit.int .u64 a1).wf = true) (w2 : a2.size ≤ maxLen) (w3 : (Lit.int .u16 a3).wf = true) (hT : Tab w) :
    Calls Tryd.prog 4 #[.slice a0 len0 cap0, .int .u64 a1, .string a2, .int .u16 a3] w fun e w' => e = .returned (.bool true) ∧ Below w.heap.size w w' := by
  obtain ⟨q0, q1⟩ := bounds_u64 w1
  obtain ⟨p0, p1⟩ := bounds_u16 w3
  obtain ⟨ep, rfl⟩ := Int.eq_ofNat_of_zero_le q0
  obtain ⟨r, rfl⟩ := str_of a2
  have hsr : (str r).size = r.length := str_size r
  have hlm : len0 ≤ maxLen := by
    rcases w0 with ⟨_, rfl, _⟩ | ⟨_, _, h1, h2, _⟩
    · exact Nat.zero_le _
    · exact Nat.le_trans h1 h2
  unfold maxLen at hlm w2
  have hr1 : (r.length : Int) ≤ 9223372036854775807 := by omega
  have HT : Hid (Tab w ∧ IsTexts w a0 len0 cap0 z0 ∧ ep < 18446744073709551616 ∧ 0 ≤ a3 ∧ a3 ≤ 65535) := ⟨hT, w0, by omega, p0, p1⟩
  clear w0 w1 w2 w3 hT q0 q1
  by_cases hl : 20 < len0
  · have hl2 : (20 : Int) < (len0 : Int) := by omega
    go_enter Tryd.func4, Tryd.ntmps4
    go_wp2_with (go_at_call 10; refine (shown_any _ HT.out.1).mono ?_; rintro e w3 ⟨rfl, rfl⟩)
    go_ret
    exact ⟨rfl, Below.refl _ _⟩
  · have hl2 : ¬ (20 : Int) < (len0 : Int) := by omega
    have hl3 : decide ((20 : Int) < (len0 : Int)) = false := decide_eq_false hl2
    have hl4 : (len0 : Int) ≤ 20 := by omega
    by_cases hm : 300 < r.length
    · have hm2 : (300 : Int) < (r.length : Int) := by omega
      go_enter Tryd.func4, Tryd.ntmps4
      go_wp2_with (go_at_call 10; refine (shown_any _ HT.out.1).mono ?_; rintro e w3 ⟨rfl, rfl⟩)
      go_ret
      exact ⟨rfl, Below.refl _ _⟩
    · have hm2 : ¬ (300 : Int) < (r.length : Int) := by omega
      have hm3 : decide ((300 : Int) < (r.length : Int)) = false := decide_eq_false hm2
      obtain ⟨i0, hi, hz0, hz1, hz2⟩ := info_parts (show (Tryd.prog.info? 30).map (fun i => (i.zero, i.size, i.bytes)) = some (some (.agg #[.int .u64 0, .int .u64 0, .string ⟨#[]⟩]), 3, 32) by kernel_rfl)
      obtain ⟨j0, hj, hy0, hy1, hy2⟩ := info_parts (show (Tryd.prog.info? 3).map (fun i => (i.zero, i.size, i.bytes)) = some (some (.int .i64 0), 1, 8) by kernel_rfl)
      clear hl hlm hm hr1
      go_enter Tryd.func4, Tryd.ntmps4
      go_wp2_with fail
      refine (shown_any _ HT.out.1).mono ?_
      rintro e w1 ⟨rfl, rfl⟩
      go_wp2_with fail
      go_loopw [9, 10, 11, 12] (fun s9 s10 s11 s12 wr => ∃ (fs : List Frm) (S : List UInt8) (k g1 c1 g2 c2 : Nat), k ≤ len0 ∧ s9 = .string (str S) ∧ s10 = .slice (some ⟨g1, 0, none⟩) k c1 ∧ s11 = .slice (some ⟨g2, 0, none⟩) (k + 1) c2 ∧ s12 = .int .i64 (k : Int) ∧ Hid (BckIs w1 ep fs S k g1 c1 g2 c2 wr)) (fun _ _ _ s12 _ => len0 - (intOf s12).toNat)
      case atStart =>
        refine ⟨[], [], 0, _, 0, _, 1, Nat.zero_le _, rfl, rfl, rfl, rfl, ?_⟩
        refine ⟨rfl, rfl, (fun f hf => (by cases hf)), rfl, Nat.le_refl _, ?_, ?_, ((Below.refl _ _).alloc (Nat.le_refl _) _).alloc (by simp) _⟩
        · exact (World.ownsRow_made w1 #[] 0 (Nat.le_refl _) (by unfold maxLen; omega) rfl).alloc _
        · have := ownsRow_one (w1.alloc (.cells #[] 30)) w1.heap.size (by simp) (.int .i64 0) 3
          have e9 : endsC [] = [.int .i64 0] := rfl
          rw [e9]
          simpa using this
      case round =>
        obtain ⟨fs, S, k, g1, c1, g2, c2, hk, rfl, rfl, rfl, rfl, hrel⟩ := hrel
        have hSl := hrel.out.size
        have hzS : (str S).size = S.length := str_size S
        have hzS2 : ((str S).size : Int) ≤ 8388608 := by rw [hzS]; omega
        by_cases hlt : k < len0
        · have hlt' : (k : Int) < (len0 : Int) := by omega
          obtain ⟨bb, off, t, rfl, hbl, htl, hcell⟩ := HT.out.2.1.at k hlt
          have hc : wr.cell? ⟨bb, off + k, none⟩ = some (.string (str t)) := (hrel.out.bel.cell (p := ⟨bb, off + k, none⟩) hbl).trans hcell
          have hzt : (str t).size = t.length := str_size t
          by_cases hbig : 300 < t.length
          · have hbig2 : (300 : Int) < (t.length : Int) := by omega
            have HW : Hid (Tab wr ∧ Below w1.heap.size w1 wr) := ⟨HT.out.1.below hrel.out.bel HT.out.1.pos, hrel.out.bel⟩
            clear hrel hbig hcell htl hSl
            go_wp2_with (go_at_call 10; refine (shown_any _ HW.out.1).mono ?_; rintro e w3 ⟨rfl, rfl⟩)
            go_ret
            exact ⟨rfl, HW.out.2⟩
          · have hbig2 : ¬ (300 : Int) < (t.length : Int) := by omega
            have hbig3 : (t.length : Int) ≤ 300 := by omega
            have hk2 : IntKind.u64.wrap (k : Int) = (k : Int) := by rw [IntKind.wrap_u64]; omega
            obtain ⟨K, hK⟩ : ∃ K, K = k + 1 := ⟨_, rfl⟩
            have hk3 : IntKind.u64.wrap ((k : Int) + 1) = (K : Int) := by rw [IntKind.wrap_u64]; omega
            have hk4 : (k : Int) + 1 = (K : Int) := by omega
            obtain ⟨P, hP⟩ : ∃ P, P = putF ⟨K, ep, t⟩ := ⟨_, rfl⟩
            obtain ⟨S', hS'⟩ : ∃ S', S' = S ++ P := ⟨_, rfl⟩
            have z1 : (str P).size = P.length := str_size P
            have z3 : P.length = t.length + 24 := by rw [hP, putF_length]; exact Nat.add_comm _ _
            have z4 : (P.length : Int) = (t.length : Int) + 24 := by omega
            have q1 : str S ++ str P = str S' := by rw [str_app, hS']
            have z2 : (str S').size = S'.length := str_size S'
            have HP : Hid (P = putF ⟨K, ep, t⟩ ∧ S' = S ++ P ∧ BckIs w1 ep fs S k g1 c1 g2 c2 wr ∧ K = k + 1 ∧ t.length ≤ 300 ∧ k < 20 ∧ bb < w1.heap.size ∧ S'.length ≤ 10000) := ⟨hP, hS', hrel.out, hK, by omega, by omega, hbl, by rw [hS', List.length_append]; omega⟩
            have HW : Hid (Tab (wr.alloc (.cells #[.int .u64 (K : Int), .int .u64 (ep : Int), .string (str t)] 24)) ∧ Below wr.heap.size wr (wr.alloc (.cells #[.int .u64 (K : Int), .int .u64 (ep : Int), .string (str t)] 24))) := ⟨(HT.out.1.below hrel.out.bel HT.out.1.pos).below ((Below.refl _ _).alloc (Nat.le_refl _) _) (HT.out.1.below hrel.out.bel HT.out.1.pos).pos, (Below.refl _ _).alloc (Nat.le_refl _) _⟩
            clear hrel hbig hcell htl hSl hbl hP hS' hK z3
            go_wp2_with fail
            refine (put_ok K ep t _ HW.out.1 (by have := HP.out.2.2.2.1; have := HP.out.2.2.2.2.2.1; omega) HT.out.2.2.1 (by have := HP.out.2.2.2.2.1; omega)).mono ?_
            rw [← HP.out.1]
            rintro e w2 ⟨rfl, b2⟩
            have hbW : Below wr.heap.size wr w2 := chain HW.out.2 b2
            have hc2 : w2.cell? ⟨bb, off + k, none⟩ = some (.string (str t)) := (hbW.cell (p := ⟨bb, off + k, none⟩) (Nat.lt_of_lt_of_le HP.out.2.2.2.2.2.2.1 HP.out.2.2.1.bel.size)).trans hc
            have hbx2 := (FBox.new wr (K : Int) (ep : Int) (str t)).below b2
            have d0 := hbx2.c0
            have d1 := hbx2.c1
            have d2 := hbx2.c2
            have H2 : Hid (Below wr.heap.size wr w2 ∧ w2.ownsRow w1.heap.size 30 3 (.slice (some ⟨g1, 0, none⟩) k c1) k (flatC fs) ∧ w2.ownsRow w1.heap.size 3 1 (.slice (some ⟨g2, 0, none⟩) (k + 1) c2) (k + 1) (endsC fs) ∧ w1.heap.size ≤ w2.heap.size) := ⟨hbW, ownsRow_below HP.out.2.2.1.want hbW (Nat.le_refl _), ownsRow_below HP.out.2.2.1.ends hbW (Nat.le_refl _), Nat.le_trans HP.out.2.2.1.bel.size hbW.size⟩
            have hz9 : (S'.length : Int) ≤ 10000 := by have := HP.out.2.2.2.2.2.2.2; omega
            have hkk : k ≤ 20 := by omega
            clear b2 hbW hbx2
            go_wp2_with (first
              | (at_builtin; refine wpList_append_own _ rfl (.tmp 80) (.tmp 82) 38 rfl w1.heap.size 30 i0 (.agg #[.int .u64 0, .int .u64 0, .string ⟨#[]⟩]) 3 32 (by kernel_rfl) hi hz0 hz1 hz2 rfl (by decide) _ _ _ rfl (H2.out.2.1.alloc _) ⟨w2.heap.size, 0, none⟩ 1 1 [.int .u64 (K : Int), .int .u64 (ep : Int), .string (str t)] rfl rfl (cells_new _ _ _ _ _) (by simp [Value.oneCell']) (by unfold maxLen; omega) (by omega) (by have := H2.out.2.2.2; simp; omega) ?_; intro v5 w5 ho5 hg5 hn5; obtain ⟨g1', c1', rfl⟩ := ownsRow_succ ho5; have H5 : Hid (w5.ownsRow w1.heap.size 30 3 (.slice (some ⟨g1', 0, none⟩) (k + 1) c1') (k + 1) (flatC fs ++ [.int .u64 (K : Int), .int .u64 (ep : Int), .string (str t)]) ∧ (w2.alloc (.cells #[.int .u64 (K : Int), .int .u64 (ep : Int), .string (str t)] 30)).grownBy w5 (some g1) ∧ w5.ownsRow w1.heap.size 3 1 (.slice (some ⟨g2, 0, none⟩) (k + 1) c2) (k + 1) (endsC fs) ∧ w1.heap.size ≤ w5.heap.size) := ⟨ho5, hg5, beside H2.out.2.1 H2.out.2.2.1 hg5, size_grown H2.out.2.2.2 hg5⟩; clear ho5 hg5 hn5 d0 d1 d2)
              | (at_builtin; refine wpList_append_own _ rfl (.tmp 84) (.tmp 87) 48 rfl w1.heap.size 3 j0 (.int .i64 0) 1 8 (by kernel_rfl) hj hy0 hy1 hy2 rfl (by decide) _ _ _ rfl (H5.out.2.2.1.alloc _) ⟨w5.heap.size, 0, none⟩ 1 1 [.int .i64 (S'.length : Int)] rfl rfl (cell_new1 _ _ _) (by simp [Value.oneCell']) (by unfold maxLen; omega) (by omega) (by have := H5.out.2.2.2; simp; omega) ?_; intro v6 w6 ho6 hg6 hn6; obtain ⟨g2', c2', rfl⟩ := ownsRow_succ ho6; have H6 : Hid (w6.ownsRow w1.heap.size 3 1 (.slice (some ⟨g2', 0, none⟩) (k + 1 + 1) c2') (k + 1 + 1) (endsC fs ++ [.int .i64 ((S'.length : Nat) : Int)]) ∧ (w5.alloc (.cells #[.int .i64 (S'.length : Int)] 3)).grownBy w6 (some g2)) := ⟨ho6, hg6⟩; clear ho6 hg6 hn6))
            go_roundw
            case rel =>
              have hKK := HP.out.2.2.2.1
              refine ⟨fs ++ [⟨k + 1, ep, t⟩], S', k + 1, g1', c1', g2', c2', by omega, rfl, rfl, rfl, by go_num, ?_⟩
              have h5 := H5.out
              rw [hKK] at h5
              exact HP.out.2.2.1.step t HP.out.2.2.2.2.1 HP.out.2.2.2.2.2.1 HT.out.2.2.1 S' (by rw [HP.out.2.1, HP.out.1, hKK]) H2.out.1 h5.1 h5.2.1 H6.out.1 H6.out.2
            case measure => simp [intOf]; omega
        · have hkn : k = len0 := by omega
          subst hkn
          obtain ⟨n1, n2⟩ := cut_rem a3 (S.length + 1) HT.out.2.2.2.1 HT.out.2.2.2.2 (Nat.succ_pos _)
          obtain ⟨J, hJ⟩ : ∃ J, J = a3.toNat % (S.length + 1) := ⟨_, rfl⟩
          rw [← hJ] at n1 n2
          have n3 : Int.tmod a3 ((S.length : Int) + 1) = (J : Int) := by
            have : ((S.length + 1 : Nat) : Int) = (S.length : Int) + 1 := by omega
            rw [this] at n1
            exact n1
          have n4 : IntKind.i64.wrap a3 = a3 := IntWalk.i64_in _ ⟨by omega, by omega⟩
          have n5 : ¬ ((S.length : Int) + 1 = 0) := by omega
          have hJS : J ≤ S.length := by omega
          have hJ2 : (J : Int) ≤ (S.length : Int) := by omega
          have hS3 : (S.length : Int) ≤ 10000 := by omega
          have HB0 : Hid (BckIs w1 ep fs S k g1 c1 g2 c2 wr) := hrel
          clear n1 n2 hJ hrel hSl
          go_wp2_with fail
          go_loopw [17] (fun s17 wq => ∃ (m : Nat), m ≤ k ∧ s17 = .int .i64 (m : Int) ∧ wq = wr ∧ Hid (offs fs m ≤ J)) (fun s17 _ => k - (intOf s17).toNat)
          case atStart => exact ⟨0, Nat.zero_le _, rfl, rfl, by rw [offs_zero]; exact Nat.zero_le _⟩
          case round =>
            obtain ⟨m, hmk, rfl, rfl, hmo⟩ := hrel
            by_cases h1 : m < k
            · have h1' : (m : Int) + 1 < (k : Int) + 1 := by omega
              have hcl := ends_cell HB0.out.ends (m + 1) (by rw [HB0.out.len]; exact h1)
              obtain ⟨A, hA⟩ : ∃ A, A = offs fs (m + 1) := ⟨_, rfl⟩
              rw [← hA] at hcl
              by_cases h2 : A ≤ J
              · have h2' : (A : Int) ≤ (J : Int) := by omega
                have HO : Hid (offs fs (m + 1) ≤ J) := by
                  have h9 : offs fs (m + 1) ≤ J := by rw [← hA]; exact h2
                  exact h9
                clear hA hmo
                go_wp2_with fail
                go_roundw
                case rel => exact ⟨m + 1, by omega, by go_num, by first | rfl | trivial, HO⟩
                case measure => simp [intOf]; omega
              · have h2' : ¬ (A : Int) ≤ (J : Int) := by omega
                have HE : Hid (m = fs.length ∨ J < offs fs (m + 1)) := .inr (by rw [← hA]; omega)
                clear hA
                obtain ⟨C, hC⟩ : ∃ C, C = S.take J := ⟨_, rfl⟩
                have hCC := ext0 S J
                obtain ⟨O, hO⟩ : ∃ O, O = offs fs m := ⟨_, rfl⟩
                obtain ⟨E2, hEE⟩ : ∃ E, E = (ep + 1) % 18446744073709551616 := ⟨_, rfl⟩
                have hE1 : E2 < 18446744073709551616 := by omega
                have he1 : IntKind.u64.wrap ((ep : Int) + 1) = (E2 : Int) := by rw [IntKind.wrap_u64]; omega
                have he2 : ((ep : Int) + 1) % 18446744073709551616 = (E2 : Int) := by omega
                have hE3 : E2 ≠ ep := by have := HT.out.2.2.1; omega
                clear hEE
                rw [← hC] at hCC
                have HX : Hid (BckIs w1 ep fs S k g1 c1 g2 c2 wr ∧ C = S.take J ∧ E2 < 18446744073709551616 ∧ (allL 1 ep C).map Prod.fst = fs.take m ∧ ((C.length : Int) - ((leftL C (allL 1 ep C)).length : Int) = (O : Int)) ∧ (allL 1 ep C).length = m ∧ allL 1 E2 S = [] ∧ C.length ≤ 100000 ∧ S.length ≤ 100000 ∧ m ≤ k ∧ O = offs fs m ∧ fs.length = k) := by
                  have h1 := HB0.out
                  have h3 := cut_told fs ep h1.ok h1.turn J m (by rw [h1.len]; exact hmk) hmo.out (by rw [← h1.isCat]; omega) HE.out
                  rw [← h1.isCat, ← hC] at h3
                  have h4 := other_told fs ep E2 h1.ok h1.turn hE3
                  rw [← h1.isCat] at h4
                  have h5 := h1.size
                  refine ⟨h1, hC, hE1, h3.1, ?_, ?_, h4, by rw [hC, List.length_take]; omega, by omega, hmk, hO, h1.len⟩
                  · have h6 := h3.2.1
                    have h7 := h3.2.2
                    rw [hO]
                    omega
                  · have h6 := congrArg List.length h3.1
                    rw [List.length_map, List.length_take, Nat.min_eq_left (by rw [h1.len]; exact hmk)] at h6
                    exact h6
                have HW : Hid (Tab wr) := HT.out.1.below HB0.out.bel HT.out.1.pos
                have hcm := ends_cell HB0.out.ends m (by rw [HB0.out.len]; exact hmk)
                rw [← hO] at hcm
                have hgl := (HB0.out.ends.lt g2 rfl).2
                have hmc : (m : Int) ≤ (c1 : Int) := by
                  have h1 := HB0.out.want.2
                  rcases h1 with ⟨h1, _⟩ | ⟨g, cap, cur, hv, _, _, hnc, _⟩
                  · cases h1
                  · injection hv with _ _ h2
                    omega
                clear HB0 hC hE1 hE3 hO HE hmo
                go_wp2_with fail
                refine (callsIn_wide.1 (all_in C ep wr HW.out HT.out.2.2.1 HX.out.2.2.2.2.2.2.2.1)).mono ?_
                rw [HX.out.2.2.2.1, HX.out.2.2.2.2.1, HX.out.2.2.2.2.2.1]
                rintro e w5 ⟨v5, rfl, o5, b5⟩
                have H5 : Hid (w5.ownsRow wr.heap.size 24 3 v5 m (flatC (fs.take m)) ∧ Below wr.heap.size wr w5 ∧ Tab w5) := ⟨o5, b5, HW.out.below b5 HW.out.pos⟩
                clear o5 b5
                go_wp2_with fail
                refine (callsIn_wide.1 (all_in S E2 w5 H5.out.2.2 HX.out.2.2.1 HX.out.2.2.2.2.2.2.2.2.1)).mono ?_
                rw [HX.out.2.2.2.2.2.2.1]
                rintro e w6 ⟨v6, rfl, o6, b6⟩
                have hb6 : Below wr.heap.size wr w6 := chain H5.out.2.1 b6
                have H6 : Hid (w6.ownsRow wr.heap.size 24 3 v5 m (flatC (fs.take m)) ∧ w6.ownsRow w1.heap.size 30 3 (.slice (some ⟨g1, 0, none⟩) m c1) m (flatC (fs.take m)) ∧ Below wr.heap.size wr w6 ∧ m ≤ 100000 ∧ (fs.take m).length = m) := by
                  refine ⟨ownsRow_below H5.out.1 b6 (Nat.le_refl _), ?_, hb6, by omega, ?_⟩
                  · rw [flatC_take fs m (by rw [HX.out.2.2.2.2.2.2.2.2.2.2.2]; exact hmk)]
                    exact ownsRow_take (ownsRow_below HX.out.1.want hb6 (Nat.le_refl _)) hmk
                  · rw [List.length_take, Nat.min_eq_left (by rw [HX.out.2.2.2.2.2.2.2.2.2.2.2]; exact hmk)]
                obtain ⟨a9, c9, rfl⟩ : ∃ a c, v6 = .slice a 0 c := by
                  rcases o6.2 with ⟨h1, h2⟩ | ⟨g, cap, cur, hv, _⟩
                  · exact ⟨none, 0, h1⟩
                  · exact ⟨_, cap, hv⟩
                have hcm6 : w6.cell? ⟨g2, m, none⟩ = some (.int .i64 (O : Int)) := (hb6.cell (p := ⟨g2, m, none⟩) hgl).trans hcm
                have hz6 : (S.length : Int) - ((leftL S ([] : List (Frm × List UInt8))).length : Int) = 0 := by
                  show (S.length : Int) - (S.length : Int) = 0
                  omega
                rw [hz6]
                clear o6 b6 hb6 hcm hz6
                go_wp2_with fail
                have hmk2 : (m : Int) < (k : Int) + 1 := by omega
                have hm0 : (0 : Int) ≤ (m : Int) := by omega
                have b0 : Below w6.heap.size w6 w6.drew := (Below.refl _ _).drew
                have hgl6 : g2 < w6.heap.size := Nat.lt_of_lt_of_le hgl H6.out.2.2.1.size
                go_region_held3 (fun w' => w'.cell? ⟨g2, m, none⟩ = some (.int .i64 (O : Int))) (first | (rw [b0.cell (p := ⟨g2, m, none⟩) hgl6]; assumption) | go_keep)
                  (first
                    | (go_at_call 20; refine (theirs_any v5 m _ (fs.take m) _ (ownsRow_below H6.out.1 b0 (Nat.le_refl _)) (by rw [H6.out.2.2.2.2]; exact H6.out.2.2.2.1)).mono ?_; rw [H6.out.2.2.2.2]; rintro e w7 ⟨g7, c7, rfl, o7, b7⟩; have O7 : Hid (w7.ownsRow _ 30 3 (.slice (some ⟨g7, 0, none⟩) m c7) m (flatC (fs.take m))) := o7; have b0 := chain b0 b7; clear o7 b7)
                    | (go_at_call 19; refine (same_m g7 g1 c7 c1 _ _ m (fs.take m) _ O7.out (ownsRow_below H6.out.2.1 b0 (Nat.le_refl _)) H6.out.2.2.2.2 H6.out.2.2.2.1).mono ?_; rintro e w8 ⟨rfl, b8⟩; have b0 := chain b0 b8; clear b8))
                have HF : Hid (Below w1.heap.size w1 w8) := chain (chain HX.out.1.bel H6.out.2.2.1) b0
                go_wp2
                go_ret
                exact ⟨rfl, HF.out⟩
            · have h1' : ¬ (m : Int) + 1 < (k : Int) + 1 := by omega
              have HE : Hid (m = fs.length ∨ J < offs fs (m + 1)) := .inl (by rw [HB0.out.len]; omega)
              obtain ⟨C, hC⟩ : ∃ C, C = S.take J := ⟨_, rfl⟩
              have hCC := ext0 S J
              obtain ⟨O, hO⟩ : ∃ O, O = offs fs m := ⟨_, rfl⟩
              obtain ⟨E2, hEE⟩ : ∃ E, E = (ep + 1) % 18446744073709551616 := ⟨_, rfl⟩
              have hE1 : E2 < 18446744073709551616 := by omega
              have he1 : IntKind.u64.wrap ((ep : Int) + 1) = (E2 : Int) := by rw [IntKind.wrap_u64]; omega
              have he2 : ((ep : Int) + 1) % 18446744073709551616 = (E2 : Int) := by omega
              have hE3 : E2 ≠ ep := by have := HT.out.2.2.1; omega
              clear hEE
              rw [← hC] at hCC
              have HX : Hid (BckIs w1 ep fs S k g1 c1 g2 c2 wr ∧ C = S.take J ∧ E2 < 18446744073709551616 ∧ (allL 1 ep C).map Prod.fst = fs.take m ∧ ((C.length : Int) - ((leftL C (allL 1 ep C)).length : Int) = (O : Int)) ∧ (allL 1 ep C).length = m ∧ allL 1 E2 S = [] ∧ C.length ≤ 100000 ∧ S.length ≤ 100000 ∧ m ≤ k ∧ O = offs fs m ∧ fs.length = k) := by
                have h1 := HB0.out
                have h3 := cut_told fs ep h1.ok h1.turn J m (by rw [h1.len]; exact hmk) hmo.out (by rw [← h1.isCat]; omega) HE.out
                rw [← h1.isCat, ← hC] at h3
                have h4 := other_told fs ep E2 h1.ok h1.turn hE3
                rw [← h1.isCat] at h4
                have h5 := h1.size
                refine ⟨h1, hC, hE1, h3.1, ?_, ?_, h4, by rw [hC, List.length_take]; omega, by omega, hmk, hO, h1.len⟩
                · have h6 := h3.2.1
                  have h7 := h3.2.2
                  rw [hO]
                  omega
                · have h6 := congrArg List.length h3.1
                  rw [List.length_map, List.length_take, Nat.min_eq_left (by rw [h1.len]; exact hmk)] at h6
                  exact h6
              have HW : Hid (Tab wr) := HT.out.1.below HB0.out.bel HT.out.1.pos
              have hcm := ends_cell HB0.out.ends m (by rw [HB0.out.len]; exact hmk)
              rw [← hO] at hcm
              have hgl := (HB0.out.ends.lt g2 rfl).2
              have hmc : (m : Int) ≤ (c1 : Int) := by
                have h1 := HB0.out.want.2
                rcases h1 with ⟨h1, _⟩ | ⟨g, cap, cur, hv, _, _, hnc, _⟩
                · cases h1
                · injection hv with _ _ h2
                  omega
              clear HB0 hC hE1 hE3 hO HE hmo
              go_wp2_with fail
              refine (callsIn_wide.1 (all_in C ep wr HW.out HT.out.2.2.1 HX.out.2.2.2.2.2.2.2.1)).mono ?_
              rw [HX.out.2.2.2.1, HX.out.2.2.2.2.1, HX.out.2.2.2.2.2.1]
              rintro e w5 ⟨v5, rfl, o5, b5⟩
              have H5 : Hid (w5.ownsRow wr.heap.size 24 3 v5 m (flatC (fs.take m)) ∧ Below wr.heap.size wr w5 ∧ Tab w5) := ⟨o5, b5, HW.out.below b5 HW.out.pos⟩
              clear o5 b5
              go_wp2_with fail
              refine (callsIn_wide.1 (all_in S E2 w5 H5.out.2.2 HX.out.2.2.1 HX.out.2.2.2.2.2.2.2.2.1)).mono ?_
              rw [HX.out.2.2.2.2.2.2.1]
              rintro e w6 ⟨v6, rfl, o6, b6⟩
              have hb6 : Below wr.heap.size wr w6 := chain H5.out.2.1 b6
              have H6 : Hid (w6.ownsRow wr.heap.size 24 3 v5 m (flatC (fs.take m)) ∧ w6.ownsRow w1.heap.size 30 3 (.slice (some ⟨g1, 0, none⟩) m c1) m (flatC (fs.take m)) ∧ Below wr.heap.size wr w6 ∧ m ≤ 100000 ∧ (fs.take m).length = m) := by
                refine ⟨ownsRow_below H5.out.1 b6 (Nat.le_refl _), ?_, hb6, by omega, ?_⟩
                · rw [flatC_take fs m (by rw [HX.out.2.2.2.2.2.2.2.2.2.2.2]; exact hmk)]
                  exact ownsRow_take (ownsRow_below HX.out.1.want hb6 (Nat.le_refl _)) hmk
                · rw [List.length_take, Nat.min_eq_left (by rw [HX.out.2.2.2.2.2.2.2.2.2.2.2]; exact hmk)]
              obtain ⟨a9, c9, rfl⟩ : ∃ a c, v6 = .slice a 0 c := by
                rcases o6.2 with ⟨h1, h2⟩ | ⟨g, cap, cur, hv, _⟩
                · exact ⟨none, 0, h1⟩
                · exact ⟨_, cap, hv⟩
              have hcm6 : w6.cell? ⟨g2, m, none⟩ = some (.int .i64 (O : Int)) := (hb6.cell (p := ⟨g2, m, none⟩) hgl).trans hcm
              have hz6 : (S.length : Int) - ((leftL S ([] : List (Frm × List UInt8))).length : Int) = 0 := by
                show (S.length : Int) - (S.length : Int) = 0
                omega
              rw [hz6]
              clear o6 b6 hb6 hcm hz6
              go_wp2_with fail
              have hmk2 : (m : Int) < (k : Int) + 1 := by omega
              have hm0 : (0 : Int) ≤ (m : Int) := by omega
              have b0 : Below w6.heap.size w6 w6.drew := (Below.refl _ _).drew
              have hgl6 : g2 < w6.heap.size := Nat.lt_of_lt_of_le hgl H6.out.2.2.1.size
              go_region_held3 (fun w' => w'.cell? ⟨g2, m, none⟩ = some (.int .i64 (O : Int))) (first | (rw [b0.cell (p := ⟨g2, m, none⟩) hgl6]; assumption) | go_keep)
                (first
                  | (go_at_call 20; refine (theirs_any v5 m _ (fs.take m) _ (ownsRow_below H6.out.1 b0 (Nat.le_refl _)) (by rw [H6.out.2.2.2.2]; exact H6.out.2.2.2.1)).mono ?_; rw [H6.out.2.2.2.2]; rintro e w7 ⟨g7, c7, rfl, o7, b7⟩; have O7 : Hid (w7.ownsRow _ 30 3 (.slice (some ⟨g7, 0, none⟩) m c7) m (flatC (fs.take m))) := o7; have b0 := chain b0 b7; clear o7 b7)
                  | (go_at_call 19; refine (same_m g7 g1 c7 c1 _ _ m (fs.take m) _ O7.out (ownsRow_below H6.out.2.1 b0 (Nat.le_refl _)) H6.out.2.2.2.2 H6.out.2.2.2.1).mono ?_; rintro e w8 ⟨rfl, b8⟩; have b0 := chain b0 b8; clear b8))
              have HF : Hid (Below w1.heap.size w1 w8) := chain (chain HX.out.1.bel H6.out.2.2.1) b0
              go_wp2
              go_ret
              exact ⟨rfl, HF.out⟩
end Go.Proofs.YtfpiepephljmgaaDoor
