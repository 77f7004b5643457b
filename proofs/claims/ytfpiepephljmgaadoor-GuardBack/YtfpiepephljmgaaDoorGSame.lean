/-
  Rows of frames: the law's theirs, the reference's Same.
-/
import Derived.Test.YtfpiepephljmgaaDoorGRAll
import Derived.Deep.QuietTactic
import Derived.BigQuiet
namespace Go.Proofs.YtfpiepephljmgaaDoor
open Go.RowKit

theorem flatC_at (fs : List Frm) (k : Nat) (h : k < fs.length) : (flatC fs)[k * 3]? = some (.int .u64 (fs[k].seq : Int)) ∧ (flatC fs)[k * 3 + 1]? = some (.int .u64 (fs[k].epoch : Int)) ∧ (flatC fs)[k * 3 + 2]? = some (.string (str fs[k].text)) := by
  induction fs generalizing k with
  | nil => simp at h
  | cons f fs ih =>
    have e : flatC (f :: fs) = f.cs ++ flatC fs := rfl
    have hl : f.cs.length = 3 := rfl
    cases k with
    | zero =>
      rw [e]
      exact ⟨rfl, rfl, rfl⟩
    | succ k =>
      have := ih k (by simpa using h)
      rw [e, show (k + 1) * 3 = k * 3 + 3 by omega, List.getElem?_append_right (by rw [hl]; omega), List.getElem?_append_right (by rw [hl]; omega), List.getElem?_append_right (by rw [hl]; omega), hl]
      rw [show k * 3 + 3 - 3 = k * 3 by omega, show k * 3 + 3 + 1 - 3 = k * 3 + 1 by omega, show k * 3 + 3 + 2 - 3 = k * 3 + 2 by omega]
      simpa using this

/-- The cells of a row of frames. -/
theorem frame_cells {W : World} {b g n cap : Nat} {e : TypeId} {fs : List Frm} (h : W.ownsRow b e 3 (.slice (some ⟨g, 0, none⟩) n cap) n (flatC fs)) (k : Nat) (hk : k < fs.length) :
    W.cell? ⟨g, k * 3, none⟩ = some (.int .u64 (fs[k].seq : Int)) ∧ W.cell? ⟨g, k * 3 + 1, none⟩ = some (.int .u64 (fs[k].epoch : Int)) ∧ W.cell? ⟨g, k * 3 + 2, none⟩ = some (.string (str fs[k].text)) := by
  have hc := h.cells (g := g) rfl
  have hadd : ∀ j, (⟨g, 0, none⟩ : Addr).add j = ⟨g, j, none⟩ := by intro j; unfold Addr.add; split <;> simp_all
  obtain ⟨a, b', c⟩ := flatC_at fs k hk
  have h1 := hc _ _ a
  have h2 := hc _ _ b'
  have h3 := hc _ _ c
  rw [hadd] at h1 h2 h3
  exact ⟨h1, h2, h3⟩

theorem ownsRow_len {W : World} {b n : Nat} {e : TypeId} {v : Value} {fs : List Frm} (h : W.ownsRow b e 3 v n (flatC fs)) : n = fs.length := by
  have := h.1
  rw [flatC_length] at this
  omega

set_option maxRecDepth 100000 in
set_option maxHeartbeats 4000000 in
theorem theirs_any (v : Value) (n b : Nat) (fs : List Frm) (w : World) (h : w.ownsRow b 24 3 v n (flatC fs)) (hl : fs.length ≤ 100000) :
    Calls Tryd.prog 20 #[v] w fun e w' => ∃ g cap, e = .returned (.slice (some ⟨g, 0, none⟩) fs.length cap) ∧ w'.ownsRow w.heap.size 30 3 (.slice (some ⟨g, 0, none⟩) fs.length cap) fs.length (flatC fs) ∧ Below w.heap.size w w' := by
  have hn := ownsRow_len h
  subst hn
  obtain ⟨i0, hi, hz0, hz1, hz2⟩ := info_parts (show (Tryd.prog.info? 30).map (fun i => (i.zero, i.size, i.bytes)) = some (some (.agg #[.int .u64 0, .int .u64 0, .string ⟨#[]⟩]), 3, 32) by kernel_rfl)
  obtain ⟨a0, cap0, hv⟩ : ∃ a c, v = .slice a fs.length c := by
    rcases h.2 with ⟨h1, h2⟩ | ⟨g, cap, cur, hv, _⟩
    · exact ⟨none, 0, by rw [h1, h2]⟩
    · exact ⟨_, cap, hv⟩
  subst hv
  have HW : Hid (w.ownsRow b 24 3 (.slice a0 fs.length cap0) fs.length (flatC fs)) := h
  obtain ⟨N, hN⟩ : ∃ N, N = fs.length := ⟨_, rfl⟩
  have HL : Hid (N = fs.length) := hN
  rw [← hN] at hl ⊢
  have hl1 : (N : Int) ≤ 100000 := by omega
  clear h hN hl
  go_enter Tryd.func20, Tryd.ntmps20
  go_wp2_with fail
  go_loopw [3, 4] (fun s3 s4 wr => ∃ (k g cap : Nat), k ≤ N ∧ s4 = .int .i64 (k : Int) ∧ s3 = .slice (some ⟨g, 0, none⟩) k cap ∧ Hid (wr.ownsRow w.heap.size 30 3 (.slice (some ⟨g, 0, none⟩) k cap) k (flatC (fs.take k)) ∧ Below w.heap.size w wr)) (fun _ s4 _ => N - (intOf s4).toNat)
  case atStart =>
    exact ⟨0, w.heap.size, 0, Nat.zero_le _, rfl, rfl, World.ownsRow_made w _ 0 (Nat.le_refl _) (by unfold maxLen; omega) rfl, (Below.refl _ _).alloc (Nat.le_refl _) _⟩
  case round =>
    obtain ⟨k, g, cap, hk, rfl, rfl, hrel⟩ := hrel
    by_cases hlt : k < N
    · have hlt' : (k : Int) < (N : Int) := by omega
      have hkl : k < fs.length := by rw [← HL.out]; exact hlt
      obtain ⟨g0, rfl⟩ : ∃ g0, a0 = some ⟨g0, 0, none⟩ := by
        rcases HW.out.2 with ⟨h1, h2⟩ | ⟨g, cap, cur, hv, _⟩
        · omega
        · injection hv with hv; exact ⟨g, hv⟩
      obtain ⟨c0, c1, c2⟩ := frame_cells (ownsRow_below HW.out hrel.out.2 (Nat.le_refl _)) k hkl
      obtain ⟨f, hf⟩ : ∃ f, f = fs[k] := ⟨_, rfl⟩
      rw [← hf] at c0 c1 c2
      have HF : Hid (flatC (fs.take (k + 1)) = flatC (fs.take k) ++ f.cs ∧ w.heap.size ≤ g) := by
        refine ⟨?_, (hrel.out.1.lt g rfl).1⟩
        rw [← flatC_snoc, hf, List.take_add_one, List.getElem?_eq_getElem hkl]
        rfl
      have HR : Hid (wr.ownsRow w.heap.size 30 3 (.slice (some ⟨g, 0, none⟩) k cap) k (flatC (fs.take k)) ∧ Below w.heap.size w wr) := hrel.out
      have hk5 : k ≤ 100000 := by omega
      clear hkl hf hrel
      go_wp2_with (at_builtin; refine wpList_append_own _ rfl (.tmp 12) (.tmp 17) 38 rfl w.heap.size 30 i0 (.agg #[.int .u64 0, .int .u64 0, .string ⟨#[]⟩]) 3 32 (by kernel_rfl) hi hz0 hz1 hz2 rfl (by decide) _ _ _ rfl (HR.out.1.alloc _) ⟨wr.heap.size, 0, none⟩ 1 1 [.int .u64 (f.seq : Int), .int .u64 (f.epoch : Int), .string (str f.text)] rfl rfl (cells_new _ _ _ _ _) (by simp [Value.oneCell']) (by unfold maxLen; omega) (by omega) (by have := HR.out.2.size; simp; omega) ?_; intro v' w2 hown' hgrow hnil; obtain ⟨g', cap', rfl⟩ := ownsRow_succ hown'; have HN : Hid (w2.ownsRow w.heap.size 30 3 (.slice (some ⟨g', 0, none⟩) (k + 1) cap') (k + 1) (flatC (fs.take k) ++ f.cs) ∧ Below w.heap.size w w2) := ⟨hown', (HR.out.2.alloc HR.out.2.size _).grown hgrow (by have := HR.out.2.size; simp; omega) (fun j e => by have h9 : g = j := Option.some.inj e; have := HF.out.2; omega)⟩; clear hown' hgrow hnil)
      go_roundw
      case rel => exact ⟨k + 1, g', cap', by omega, by go_num, rfl, by rw [HF.out.1]; exact HN.out⟩
      case measure => simp [intOf]; omega
    · have hkn : k = N := by omega
      subst hkn
      have HR : Hid (wr.ownsRow w.heap.size 30 3 (.slice (some ⟨g, 0, none⟩) k cap) k (flatC fs) ∧ Below w.heap.size w wr) := by
        have h1 := hrel.out
        rw [List.take_of_length_le (by rw [HL.out]; exact Nat.le_refl _)] at h1
        exact h1
      clear hrel
      go_wp2_with fail
      go_ret
      exact ⟨g, cap, rfl, HR.out⟩

set_option maxRecDepth 100000 in
set_option maxHeartbeats 4000000 in
theorem same_yes (g1 g2 c1 c2 b1 b2 : Nat) (fs : List Frm) (w : World) (h1 : w.ownsRow b1 30 3 (.slice (some ⟨g1, 0, none⟩) fs.length c1) fs.length (flatC fs)) (h2 : w.ownsRow b2 30 3 (.slice (some ⟨g2, 0, none⟩) fs.length c2) fs.length (flatC fs)) (hl : fs.length ≤ 100000) :
    Calls Tryd.prog 19 #[.slice (some ⟨g1, 0, none⟩) fs.length c1, .slice (some ⟨g2, 0, none⟩) fs.length c2] w fun e w' => e = .returned (.bool true) ∧ Below w.heap.size w w' := by
  obtain ⟨N, hN⟩ : ∃ N, N = fs.length := ⟨_, rfl⟩
  have HW : Hid (w.ownsRow b1 30 3 (.slice (some ⟨g1, 0, none⟩) N c1) N (flatC fs) ∧ w.ownsRow b2 30 3 (.slice (some ⟨g2, 0, none⟩) N c2) N (flatC fs) ∧ N = fs.length) := by rw [hN]; exact ⟨h1, h2, rfl⟩
  rw [← hN] at hl ⊢
  have hl1 : (N : Int) ≤ 100000 := by omega
  clear h1 h2 hN hl
  go_enter Tryd.func19, Tryd.ntmps19
  go_wp2_with fail
  go_loopw [5] (fun s5 wr => ∃ (k : Nat), k ≤ N ∧ s5 = .int .i64 (k : Int) ∧ Hid (Below w.heap.size w wr)) (fun s5 _ => N - (intOf s5).toNat)
  case atStart => exact ⟨0, Nat.zero_le _, rfl, Below.refl _ _⟩
  case round =>
    obtain ⟨k, hk, rfl, hrel⟩ := hrel
    by_cases hlt : k < N
    · have hlt' : (k : Int) < (N : Int) := by omega
      have hkl : k < fs.length := by rw [← HW.out.2.2]; exact hlt
      obtain ⟨c0, c1', c2'⟩ := frame_cells (ownsRow_below HW.out.1 hrel.out (Nat.le_refl _)) k hkl
      obtain ⟨d0, d1, d2⟩ := frame_cells (ownsRow_below HW.out.2.1 hrel.out (Nat.le_refl _)) k hkl
      obtain ⟨f, hf⟩ : ∃ f, f = fs[k] := ⟨_, rfl⟩
      rw [← hf] at c0 c1' c2' d0 d1 d2
      clear hkl hf
      go_wp2_with fail
      go_quiet (fail)
      go_wp2_with fail
      go_roundw
      case rel => exact ⟨k + 1, by omega, by go_num, below_drewN hrel.out _⟩
      case measure => simp [intOf]; omega
    · have hkn : k = N := by omega
      subst hkn
      go_wp2_with fail
      go_ret
      exact ⟨rfl, hrel.out⟩
end Go.Proofs.YtfpiepephljmgaaDoor
