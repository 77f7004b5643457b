/-
  The reference's at and Digits.
-/
import Derived.Test.YtnkjfandknndkaaHalfMath
import Derived.Test.YtnkjfandknndkaaRTrim
import Derived.Test.YtnkjfandknndkaaSame
import Derived.Deep.RegionHeld3
import Derived.Deep.AppendLies
namespace Go.Proofs.Ytnkjfandknndkaa
open Go.RowKit

set_option maxHeartbeats 400000 in
theorem rat_any (ao : Option Addr) (n cap : Nat) (xs : List Int) (i : Nat) (w : World) (h : RowAt w ao n cap xs) :
    Calls Try.prog 51 #[.slice ao n cap, .int .i64 i] w fun e w' => e = .returned (.int .u64 (lim xs i)) ∧ w' = w := by
  obtain rfl := h.len
  have hl : xs.length ≤ maxLen := Nat.le_trans h.fits h.most
  unfold maxLen at hl
  by_cases hk : i < xs.length
  · obtain ⟨b, off, rfl, hlt, hc⟩ := h.cells (by intro e; rw [e] at hk; simp at hk)
    have hck := hc i hk
    rw [← lim_nat] at hck
    clear hc h
    go_enter Try.func51, Try.ntmps51
    go_wp2
    go_ret
    exact ⟨rfl, rfl⟩
  · go_enter Try.func51, Try.ntmps51
    go_wp2
    go_ret
    exact ⟨ret_int (lim_past _ _ (by omega)).symm, rfl⟩

/-- A row that a call has made, at the head of its block. -/
def OwnR (w : World) (base g n cap : Nat) (zs : List Int) : Prop := w.ownsRow base 50 1 (.slice (some ⟨g, 0, none⟩) n cap) n (zs.map (Value.int .u64))

theorem OwnR.lt {w : World} {base g n cap : Nat} {zs : List Int} (h : OwnR w base g n cap zs) : base ≤ g ∧ g < w.heap.size := World.ownsRow.lt h g rfl
theorem OwnR.row {w : World} {base g n cap : Nat} {zs : List Int} (h : OwnR w base g n cap zs) (hl : Limbs zs) : RowAt w (some ⟨g, 0, none⟩) n cap zs := by
  obtain ⟨a, c, e, hr⟩ := RowAt.owns h hl
  cases e
  exact hr
theorem OwnR.nil (w : World) : OwnR (w.alloc (Obj.cells #[] 50)) w.heap.size w.heap.size 0 0 [] := owns0 w

set_option maxRecDepth 100000 in
set_option maxHeartbeats 1000000 in
theorem digits_any (ao : Option Addr) (n cap : Nat) (xs : List Int) (w : World) (h : RowAt w ao n cap xs) (hn : n ≤ 100000) :
    Calls Try.prog 50 #[.slice ao n cap] w fun e w' => ∃ ro cp, e = .returned (.slice ro (2 * n) cp) ∧ RowAt w' ro (2 * n) cp (hd xs) ∧ Below w.heap.size w w' := by
  obtain ⟨i0, hi, hz0, hz1, hz2⟩ := info_parts Try.info50
  by_cases h0 : n = 0
  · have hx : xs = [] := List.length_eq_zero_iff.1 (h.len.trans h0)
    subst h0
    subst hx
    have HR : Hid _ := (OwnR.nil w).row (by intro x hx; simp at hx)
    clear h
    go_enter Try.func50, Try.ntmps50
    go_wp2
    refine wp_loop_rounds 1 ?_
    rw [rounds_succ]
    go_wp2
    go_ret
    exact ⟨_, _, rfl, HR.out, (Below.refl _ _).alloc (Nat.le_refl _) _⟩
  · obtain ⟨b, off, rfl, hlt, hc⟩ := h.cells (by intro e; have := h.len; rw [e] at this; simp at this; omega)
    have HL : Hid (xs.length = n) := h.len
    have HM : Hid (Limbs xs) := h.limbs
    have HC : Hid _ := hc
    clear h hc
    go_enter Try.func50, Try.ntmps50
    go_wp2
    go_loopw [3, 4] (fun o i wr => ∃ k g c : Nat, k ≤ n ∧ i = .int .i64 k ∧ o = .slice (some ⟨g, 0, none⟩) (2 * k) c ∧ OwnR wr w.heap.size g (2 * k) c (hd (xs.take k)) ∧ Below w.heap.size w wr) (fun _ i _ => n - (intOf i).toNat)
    case atStart => exact ⟨0, w.heap.size, 0, Nat.zero_le _, rfl, rfl, OwnR.nil w, (Below.refl _ _).alloc (Nat.le_refl _) _⟩
    case round =>
      obtain ⟨k, g, c, hk, rfl, rfl, hown, hbel⟩ := hrel
      by_cases hlt2 : k < n
      · have hkl : k < xs.length := by have := HL.out; omega
        have hck : wr.cell? ⟨b, off + k, none⟩ = some (.int .u64 (xs.getD k 0)) := (hbel.cell (p := ⟨b, off + k, none⟩) hlt).trans (HC.out k hkl)
        have hxb : 0 ≤ xs.getD k 0 ∧ xs.getD k 0 < BB := by have := lim_bd HM.out k; rw [lim_nat] at this; exact this
        obtain ⟨x, hx⟩ : ∃ x, x = xs.getD k 0 := ⟨_, rfl⟩
        rw [← hx] at hck hxb
        have hx0 := hxb.1
        have hx1 : x ≤ 18446744073709551615 := by have := hxb.2; unfold BB at this; omega
        have hxs := hd_take xs k hkl
        rw [← hx] at hxs
        have HX : Hid (hd (xs.take (k + 1)) = hd (xs.take k) ++ [x % HH, x / HH]) := hxs
        have HO : Hid (OwnR wr w.heap.size g (2 * k) c (hd (xs.take k))) := hown
        have hsz : w.heap.size ≤ wr.heap.size := hbel.size
        have hgw := hown.lt
        have hbg : some b ≠ some g := by intro e; cases e; omega
        have g1 : (0 : Int) ≤ (k : Int) := by omega
        have g2 : (k : Int) < (n : Int) := by omega
        have HB : Hid (Below w.heap.size w wr) := hbel
        have hbw : b < wr.heap.size := by omega
        have ht1 : x.tmod 4294967296 = x % 4294967296 := Int.tmod_eq_emod_of_nonneg hx0
        have ht2 : IntKind.u64.wrap (x.tdiv 4294967296) = x / 4294967296 := IntWalk.u64_quo x 4294967296 ⟨hx0, hx1, by omega⟩
        clear hx hxb hxs hown hbel
        go_wp2
        go_region_held3 (fun w' => w'.cell? ⟨b, off + k, none⟩ = some (.int .u64 x)) (first | go_keep | (rw [hgrow.cell_far _ (by simp; omega) (by simpa [Value.ownBlock] using hbg)]; assumption))
          ((refine step_append_lies _ (by rfl) _ _ _ (by rfl) w.heap.size 50 i0 (.int .u64 0) 1 8 Try.underlying22 hi hz0 hz1 hz2 rfl (by omega) _ (2 * k) ((hd (xs.take k)).map (Value.int .u64)) (by rfl) ((HO.out.alloc _).drew) ⟨wr.heap.size, 0, none⟩ 2 2 [.int .u64 (x % 4294967296), .int .u64 (x / 4294967296)] (by rfl) (by rfl) (World.news_of_block (cs := #[.int .u64 (x % 4294967296), .int .u64 (x / 4294967296)]) (t := 50) (fr := (0, 0)) (heap_alloc_new wr _)) (by simp [Value.oneCell']) (by omega) (by unfold maxLen; omega) (by omega) (by simp; omega) (wr.heap.size + 1) (by simp) ?_; intro gg cp w1 hown1 hgrow hat hlt3))
        go_wp2
        go_roundw
        case rel =>
          refine ⟨k + 1, gg, cp, by omega, by go_num, rfl, ?_, ?_⟩
          · unfold OwnR
            rw [HX.out, List.map_append]
            exact hown1
          · exact (HB.out.alloc hsz _).drew.grown hgrow (by simp; omega) (fun j hj => by cases hj; exact hgw.1)
        case measure => simp [intOf]; omega
      · have hkn : k = n := by omega
        have HR : Hid (RowAt wr (some ⟨g, 0, none⟩) (2 * k) c (hd (xs.take k))) := hown.row (hd_halves (limbs_take HM.out k)).limbs
        have HB : Hid (Below w.heap.size w wr) := hbel
        have HK : Hid (k = n) := hkn
        clear hown hbel hkn
        go_wp2
        go_ret
        have hr := HR.out
        rw [HK.out, List.take_of_length_le (by rw [HL.out]; exact Nat.le_refl _)] at hr
        refine ⟨some ⟨g, 0, none⟩, c, ?_, hr, HB.out⟩
        rw [← HK.out]
        rfl
end Go.Proofs.Ytnkjfandknndkaa
