/-
  The reference's Trim.
-/
import Derived.Laws.AppendOwnNone
import Derived.Test.YtnedghhcidohnaaGreatJC1
namespace Go.Proofs.YtnedghhcidohnaaGreat
open Go.RowKit

theorem ints_one (zs : List Int) : ∀ u ∈ zs.map (Value.int .u64), u.oneCell' = true := ints_oneCell .u64 zs

theorem owns0 (w : World) : (w.alloc (Obj.cells #[] 56)).ownsRow w.heap.size 56 1 (.slice (some ⟨w.heap.size, 0, none⟩) 0 0) 0 [] :=
  World.ownsRow_lit w #[] 0 (Nat.le_refl _) (by unfold maxLen; omega) rfl

theorem below_grown {w w1 : World} (o : Obj) {k : Nat} (hg : (w.alloc o).grownBy w1 (some k)) (hk : w.heap.size ≤ k) : Below w.heap.size w w1 :=
  ((Below.refl _ _).alloc (Nat.le_refl _) o).grown hg (by simp) (fun j hj => by cases hj; exact hk)

theorem Fresh.owns {w : World} {base : Nat} {v : Value} {n : Nat} {xs : List Value} (h : w.ownsRow base 56 1 v n xs) {ao : Option Addr} {m c : Nat} (e : v = .slice ao m c) : Fresh base ao := by
  rcases h.2 with ⟨rfl, h0⟩ | ⟨g, cap, cur, rfl, hg, _⟩
  · cases e; exact Fresh.none _
  · cases e; exact fun p hp => by cases hp; exact hg

set_option maxHeartbeats 400000 in
theorem rtrim_fresh (ao : Option Addr) (n cap : Nat) (xs : List Int) (w : World) (h : RowAt w ao n cap xs) (hn : n ≤ 900000) :
    Calls Tryz.prog 119 #[.slice ao n cap] w fun e w' => ∃ ro m cp r, e = .returned (.slice ro m cp) ∧ RowAt w' ro m cp r ∧ Num r (val xs) ∧ m ≤ n ∧ Fresh w.heap.size ro ∧ Below w.heap.size w w' := by
  obtain ⟨i0, hi, hz0, hz1, hz2⟩ := info_parts Tryz.info56
  have hcp := h.most
  have hfit := h.fits
  unfold maxLen at hcp
  by_cases h0 : n = 0
  · have hx : xs = [] := List.length_eq_zero_iff.1 (h.len.trans h0)
    have HX : Hid _ := hx
    have hbare := h.bare
    clear hx h
    subst h0
    have fin : ∀ w1 : World, (w1.ownsRow w.heap.size 56 1 (.slice (some ⟨w.heap.size, 0, none⟩) 0 0) 0 []) → RowAt w1 (some ⟨w.heap.size, 0, none⟩) 0 0 [] := fun w1 ho => by
      obtain ⟨a, c, e, hr⟩ := RowAt.owns (zs := []) ho (by intro x hx; simp at hx)
      cases e
      exact hr
    cases ao with
    | none =>
      obtain rfl := hbare rfl
      have HF : Hid _ := fin
      clear fin hbare
      go_enter Tryz.func119, Tryz.ntmps119
      go_wp2
      refine wp_loop_rounds 1 ?_
      rw [rounds_succ]
      go_wp2_with (at_builtin; refine wpList_append_own_none rfl (.tmp 20) (.tmp 23) 42 rfl w.heap.size 56 i0 1 Tryz.underlying42 hi _ 0 [] rfl (owns0 w) rfl ?_)
      go_ret
      exact ⟨_, _, _, _, rfl, HF.out _ (owns0 w), by rw [HX.out]; exact Num.nil, Nat.le_refl _, Fresh.at _ _, (Below.refl _ _).alloc (Nat.le_refl _) _⟩
    | some ad =>
      have HF : Hid _ := fin
      clear fin hbare
      go_enter Tryz.func119, Tryz.ntmps119
      go_wp2
      refine wp_loop_rounds 1 ?_
      rw [rounds_succ]
      go_wp2_with (at_builtin; refine wpList_append_own _ rfl (.tmp 20) (.tmp 23) 42 rfl w.heap.size 56 i0 (.int .u64 0) 1 8 Tryz.underlying42 hi hz0 hz1 hz2 rfl (by decide) _ 0 [] rfl (owns0 w) ad 0 cap [] rfl rfl (by intro j u hj; simp at hj) (by intro u hu; simp at hu) (by unfold maxLen; omega) (by omega) (by simp) ?_)
      intro v' w1 hown' hgrow _
      obtain ⟨a, c, e, hr⟩ := RowAt.owns (zs := []) hown' (by intro x hx; simp at hx)
      have HFR : Hid (Fresh w.heap.size a) := Fresh.owns hown' e
      rw [e]
      go_wp2
      go_ret
      exact ⟨_, _, _, _, rfl, hr, by rw [HX.out]; exact Num.nil, Nat.le_refl _, HFR.out, below_grown _ hgrow (Nat.le_refl _)⟩
  · obtain ⟨b, off, rfl, hlt, hc⟩ := h.cells (by intro e; have := h.len; rw [e] at this; simp at this; omega)
    have HL : Hid _ := h.len
    have HM : Hid _ := h.limbs
    have HC : Hid _ := hc
    clear h hc
    go_enter Tryz.func119, Tryz.ntmps119
    go_wp2
    go_loop [3] (fun i => ∃ k : Nat, k ≤ n ∧ i = .int .i64 k ∧ ∀ j, k ≤ j → xs.getD j 0 = 0) (fun i => (intOf i).toNat)
    case atStart => exact ⟨n, Nat.le_refl _, rfl, fun j hj => by simp [show xs.length ≤ j by have := HL.out; omega]⟩
    case round =>
      obtain ⟨k, hk, rfl, hz⟩ := hrel
      have HZ : Hid (∀ j, k ≤ j → xs.getD j 0 = 0) := hz
      clear hz
      have main : (k ≠ 0 → xs.getD (k - 1) 0 ≠ 0) → ∀ (v' : Value) (w1 : World), w1.ownsRow w.heap.size 56 1 v' (0 + k) ([] ++ (xs.take k).map (Value.int .u64)) → (w.alloc (Obj.cells #[] 56)).grownBy w1 (some w.heap.size) →
          ∃ ro m cp r, v' = .slice ro m cp ∧ RowAt w1 ro m cp r ∧ Num r (val xs) ∧ m ≤ n ∧ Fresh w.heap.size ro ∧ Below w.heap.size w w1 := fun htop v' w1 ho hg => by
        rw [Nat.zero_add, List.nil_append] at ho
        obtain ⟨a, c, e, hr⟩ := RowAt.owns ho (limbs_take HM.out k)
        exact ⟨a, k, c, _, e, hr, Num.ofTl HM.out ⟨by have := HL.out; omega, HZ.out, htop⟩, hk, Fresh.owns ho e, below_grown _ hg (Nat.le_refl _)⟩
      have hnews : ∀ j u, ((xs.take k).map (Value.int .u64))[j]? = some u → (w.alloc (Obj.cells #[] 56)).cell? ((⟨b, off, none⟩ : Addr).add j) = some u := fun j u hj => by
        have hjk : j < k := by
          rcases Nat.lt_or_ge j k with h' | h'
          · exact h'
          · rw [List.getElem?_eq_none (by simp; omega)] at hj; simp at hj
        have hjl : j < xs.length := by have := HL.out; omega
        rw [Addr.add_lit, World.cell?_alloc_past _ _ _ (by exact hlt), HC.out j hjl]
        simp [hjk, hjl] at hj
        simp [hjl, hj]
      have hnl : ((xs.take k).map (Value.int .u64)).length = k * 1 := by have := HL.out; simp; omega
      have MN : Hid _ := main
      have HN : Hid _ := hnews
      have HNL : Hid _ := hnl
      clear main hnews hnl
      by_cases hk0 : k = 0
      · subst hk0
        go_wp2_with (at_builtin; refine wpList_append_own _ rfl (.tmp 20) (.tmp 23) 42 rfl w.heap.size 56 i0 (.int .u64 0) 1 8 Tryz.underlying42 hi hz0 hz1 hz2 rfl (by decide) _ 0 [] rfl (owns0 w) ⟨b, off, none⟩ 0 cap ((xs.take 0).map (Value.int .u64)) rfl HNL.out HN.out (ints_one _) (by unfold maxLen; omega) (by omega) (by simp) ?_)
        intro v' w1 hown' hgrow _
        obtain ⟨ro, m, cp, r, e, h1⟩ := MN.out (by simp) v' w1 hown' hgrow
        rw [e]
        go_wp2
        go_ret
        exact ⟨ro, m, cp, r, rfl, h1⟩
      · obtain ⟨m, rfl⟩ := Nat.exists_eq_succ_of_ne_zero hk0
        have hck := HC.out m (by have := HL.out; omega)
        obtain ⟨x, hx⟩ : ∃ x, x = xs.getD m 0 := ⟨_, rfl⟩
        rw [← hx] at hck
        have HX : Hid (x = xs.getD m 0) := hx
        clear hx
        by_cases hx0 : x = 0
        · have HX0 : Hid (x = 0) := hx0
          have hb0 : (x == 0) = true := by simp [hx0]
          clear hx0
          go_wp2
          go_round
          case rel =>
            refine ⟨m, by omega, by go_num, fun j hj => ?_⟩
            by_cases e : j = m
            · rw [e, ← HX.out]; exact HX0.out
            · exact HZ.out j (by omega)
          case measure => simp [intOf]
        · have hb0 : (x == 0) = false := by simp [hx0]
          go_wp2_with (at_builtin; refine wpList_append_own _ rfl (.tmp 20) (.tmp 23) 42 rfl w.heap.size 56 i0 (.int .u64 0) 1 8 Tryz.underlying42 hi hz0 hz1 hz2 rfl (by decide) _ 0 [] rfl (owns0 w) ⟨b, off, none⟩ (m + 1) cap ((xs.take (m + 1)).map (Value.int .u64)) rfl HNL.out HN.out (ints_one _) (by unfold maxLen; omega) (by omega) (by simp) ?_)
          intro v' w1 hown' hgrow _
          obtain ⟨ro, m', cp, r, e, h1⟩ := MN.out (fun _ => by show xs.getD m 0 ≠ 0; rw [← HX.out]; exact hx0) v' w1 (by rw [Nat.zero_add, List.nil_append, List.map_take]; exact hown') hgrow
          rw [e]
          go_wp2
          go_ret
          exact ⟨ro, m', cp, r, rfl, h1⟩

theorem rtrim_any (ao : Option Addr) (n cap : Nat) (xs : List Int) (w : World) (h : RowAt w ao n cap xs) (hn : n ≤ 900000) :
    Calls Tryz.prog 119 #[.slice ao n cap] w fun e w' => ∃ ro m cp r, e = .returned (.slice ro m cp) ∧ RowAt w' ro m cp r ∧ Num r (val xs) ∧ m ≤ n ∧ Below w.heap.size w w' :=
  (rtrim_fresh ao n cap xs w h hn).mono fun _ _ ⟨ro, m, cp, r, h1, h2, h3, h4, _, h6⟩ => ⟨ro, m, cp, r, h1, h2, h3, h4, h6⟩
end Go.Proofs.YtnedghhcidohnaaGreat
