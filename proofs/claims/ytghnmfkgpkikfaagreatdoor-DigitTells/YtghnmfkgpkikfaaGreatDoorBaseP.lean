/-
  digit.Print and digit.Base, at any row; digit.lifted.
-/
import Derived.Test.YtghnmfkgpkikfaaGreatDoorPrint
import Derived.Test.YtghnmfkgpkikfaaGreatDoorJ2
namespace Go.Proofs.YtghnmfkgpkikfaaGreatDoor
open Go.RowKit

set_option maxHeartbeats 1000000 in
theorem print_any (ao : Option Addr) (na ca : Nat) (xs : List Int) (w : World) (ha : RowAt w ao na ca xs) (ht : Tab w) :
    Calls Tryz.prog 13 #[.slice ao na ca] w fun e w' => ∃ s, e = .returned (.string ⟨s.toArray⟩) ∧ PrintOut xs s ∧ Below w.heap.size w w' := by
  by_cases hm : May xs
  · exact (callsIn_wide.1 (print_may ao na ca xs w ha hm ht)).mono fun e w' ⟨s, h1, h2, h3⟩ => ⟨s, h1, ⟨fun n => absurd hm n, fun _ => h2⟩, h3⟩
  · have HA : Hid (RowAt w ao na ca xs) := ha
    have HM : Hid (¬ May xs) := hm
    clear ha hm ht
    go_enter Tryz.func13, Tryz.ntmps13
    go_wp2_with fail
    refine (may_val _ _ _ xs _ HA.out false (no_iff HM.out)).mono ?_
    rintro e w1 ⟨rfl, rfl⟩
    go_wp2_with fail
    go_ret
    exact ⟨[], rfl, ⟨fun _ => rfl, fun h => absurd h HM.out⟩, Below.refl _ _⟩

theorem Dig.limbs {b : Int} (hb : b < BB) {l : List Int} {v : Int} (h : Dig b l v) : Limbs l := fun x hx => ⟨(h.digs x hx).1, by have := (h.digs x hx).2; omega⟩

set_option maxHeartbeats 1000000 in
theorem collect_any (b : Int) (hb2 : 2 ≤ b) (hbB : b < BB) (Ba Bb : Nat) (ao : Option Addr) (na ca : Nat) (xs : List Int) (hm : May xs) (w : World)
    (hBa : Ba < w.heap.size) (hBb : Bb < w.heap.size) (hca : w.cell? ⟨Ba, 0, none⟩ = some (.slice ao na ca)) (hcb : w.cell? ⟨Bb, 0, none⟩ = some (.int .u64 b)) (hr : RowAt w ao na ca xs) :
    Calls Tryz.prog 26 #[.func (.func 46) #[] #[.pointer (some ⟨Ba, 0, none⟩), .pointer (some ⟨Bb, 0, none⟩)]] w fun e w' => ∃ ro m c l, e = .returned (.slice ro m c) ∧ RowAt w' ro m c l ∧ Dig b l (val xs) ∧ Below w.heap.size w w' := by
  have h := callsIn_wide.1 (appendSeq_any b hb2 hbB Ba Bb ao na ca xs hm w hBa hBb hca hcb hr)
  have H : Hid (∀ u : Unit, Calls Tryz.prog 45 #[.slice none 0 0, .func (.func 46) #[] #[.pointer (some ⟨Ba, 0, none⟩), .pointer (some ⟨Bb, 0, none⟩)]] w _) := fun _ => h
  clear h hca hcb hr hBa hBb
  go_enter Tryz.func26, Tryz.ntmps26
  go_wp2_with fail
  refine (H.out ()).mono ?_
  rintro e w1 ⟨v, l, rfl, h1, h2, h3⟩
  obtain ⟨ro, c, rfl, hrow⟩ := RowAt.owns h2 (h1.limbs hbB)
  have H1 : Hid (RowAt w1 ro l.length c l ∧ Dig b l (val xs) ∧ Below w.heap.size w w1) := ⟨hrow, h1, h3⟩
  clear h1 h2 h3 hrow
  go_wp2_with fail
  go_ret
  exact ⟨ro, _, c, l, rfl, H1.out.1, H1.out.2.1, H1.out.2.2⟩

set_option maxHeartbeats 1000000 in
theorem base_any (ao : Option Addr) (na ca : Nat) (xs : List Int) (b : Int) (w : World) (ha : RowAt w ao na ca xs) (hb1 : b < BB) :
    Calls Tryz.prog 11 #[.slice ao na ca, .int .u64 b] w fun e w' => ∃ ro m c l, e = .returned (.slice ro m c) ∧ RowAt w' ro m c l ∧ BaseOut xs b l ∧ Below w.heap.size w w' := by
  have HA : Hid (RowAt w ao na ca xs ∧ b < BB) := ⟨ha, hb1⟩
  clear ha hb1
  by_cases hm : May xs
  · have HM : Hid (May xs) := hm
    clear hm
    by_cases hb : b < 2
    · have HB : Hid (b < 2) := hb
      go_enter Tryz.func11, Tryz.ntmps11
      go_wp2_with fail
      refine (may_val _ _ _ xs _ HA.out.1 true (yes_iff HM.out)).mono ?_
      rintro e w1 ⟨rfl, rfl⟩
      go_wp2_with fail
      go_ret
      exact ⟨none, 0, 0, [], rfl, RowAt.nil _, ⟨fun _ => rfl, fun _ h => absurd HB.out (Int.not_lt.2 h)⟩, Below.refl _ _⟩
    · have HB : Hid (2 ≤ b) := Int.not_lt.1 hb
      go_enter Tryz.func11, Tryz.ntmps11
      go_wp2_with fail
      refine (may_val _ _ _ xs _ HA.out.1 true (yes_iff HM.out)).mono ?_
      rintro e w1 ⟨rfl, rfl⟩
      go_wp2_with fail
      refine (iter_any _ _ _ _ _).mono ?_
      rintro e w1 ⟨rfl, rfl⟩
      have cA := (Boxed.new w 23 (.slice ao na ca)).alloc (.cells #[.int .u64 b] 24)
      have cB := Boxed.new (w.alloc (.cells #[.slice ao na ca] 23)) 24 (.int .u64 b)
      have hB0 : Below w.heap.size w ((w.alloc (.cells #[.slice ao na ca] 23)).alloc (.cells #[.int .u64 b] 24)) := ((Below.refl _ w).alloc (Nat.le_refl _) _).alloc (by simp) _
      rw [World.size_alloc] at cB
      obtain ⟨W0, hW0⟩ : ∃ W0, (w.alloc (.cells #[.slice ao na ca] 23)).alloc (.cells #[.int .u64 b] 24) = W0 := ⟨_, rfl⟩
      rw [hW0] at cA cB hB0 ⊢
      have H0 : Hid (Boxed W0 w.heap.size 23 (.slice ao na ca) ∧ Boxed W0 (w.heap.size + 1) 24 (.int .u64 b) ∧ Below w.heap.size w W0) := ⟨cA, cB, hB0⟩
      clear hW0 cA cB hB0
      go_wp2_with fail
      refine (collect_any b HB.out HA.out.2 _ _ ao na ca xs HM.out _ H0.out.1.lt H0.out.2.1.lt H0.out.1.cell H0.out.2.1.cell (HA.out.1.below H0.out.2.2)).mono ?_
      rintro e w2 ⟨ro, m, c, l, rfl, h1, h2, h3⟩
      have H1 : Hid (RowAt w2 ro m c l ∧ Dig b l (val xs) ∧ Below w.heap.size w w2) := ⟨h1, h2, chain H0.out.2.2 h3⟩
      clear h1 h2 h3
      go_wp2_with fail
      go_ret
      exact ⟨ro, m, c, l, rfl, H1.out.1, ⟨fun h => absurd ⟨HM.out, HB.out⟩ h, fun _ _ => H1.out.2.1⟩, H1.out.2.2⟩
  · have HM : Hid (¬ May xs) := hm
    clear hm
    go_enter Tryz.func11, Tryz.ntmps11
    go_wp2_with fail
    refine (may_val _ _ _ xs _ HA.out.1 false (no_iff HM.out)).mono ?_
    rintro e w1 ⟨rfl, rfl⟩
    go_wp2_with fail
    go_ret
    exact ⟨none, 0, 0, [], rfl, RowAt.nil _, ⟨fun _ => rfl, fun h _ => absurd h HM.out⟩, Below.refl _ _⟩

theorem num_may1 {r : List Int} {x : Int} (h : Num r x) (hx : x < BB) : May r := h.may.2 (by
  have : BB ≤ Big := by unfold Big BB; decide
  omega)

set_option maxHeartbeats 1000000 in
/-- digit.lifted: the digits go one place up. -/
theorem lifted_any (ao : Option Addr) (na ca : Nat) (xs : List Int) (v b d : Int) (w : World) (ha : RowAt w ao na ca xs) (hx : Num xs v) (hv : v < Big) (hb0 : 0 ≤ b) (hb1 : b < BB) (hd0 : 0 ≤ d) (hd1 : d < BB) :
    Calls Tryz.prog 24 #[.slice ao na ca, .int .u64 b, .int .u64 d] w fun e w' => ∃ ro m c r k, e = .returned (.tuple #[.slice ro m c, .int .i64 k]) ∧ RowAt w' ro m c r ∧ Out True False (d + b * v) r k ∧ Below w.heap.size w w' := by
  have HA : Hid (RowAt w ao na ca xs ∧ Num xs v ∧ v < Big ∧ 0 ≤ b ∧ b < BB ∧ 0 ≤ d ∧ d < BB) := ⟨ha, hx, hv, hb0, hb1, hd0, hd1⟩
  clear ha hx hv hb0 hb1 hd0 hd1
  go_enter Tryz.func24, Tryz.ntmps24
  go_wp2_with fail
  refine (of_any b _ HA.out.2.2.2.1 HA.out.2.2.2.2.1).mono ?_
  rintro e w1 ⟨bo, bn, bc, bs, rfl, d1, d2, d3, d4⟩
  have D1 : Hid (RowAt w1 bo bn bc bs ∧ Num bs b ∧ Below w.heap.size w w1) := ⟨d1, d2, d4⟩
  clear d1 d2 d3 d4
  go_wp2_with fail
  refine (nmul_any _ _ _ _ _ _ xs bs _ (HA.out.1.below D1.out.2.2) D1.out.1).mono ?_
  rintro e w2 ⟨uo, un, uc, u, k, rfl, e1, e2, e3⟩
  have hval : val xs * val bs = b * v := by rw [HA.out.2.1.val, D1.out.2.1.val, Int.mul_comm]
  rw [hval] at e2
  have hok : May xs ∧ May bs := ⟨HA.out.2.1.may.2 HA.out.2.2.1, num_may1 D1.out.2.1 HA.out.2.2.2.2.1⟩
  have E1 : Hid (RowAt w2 uo un uc u ∧ Below w.heap.size w w2) := ⟨e1, chain D1.out.2.2 e3⟩
  clear e1 e3 hval
  by_cases hbig : Big ≤ b * v
  · obtain ⟨rfl, rfl⟩ := e2.is_big hok (fun f => f) hbig
    have HBG : Hid (Big ≤ d + b * v) := by have := HA.out.2.2.2.2.2.1; exact (by omega : Big ≤ d + b * v)
    clear e2 hok hbig
    go_wp2_with fail
    go_ret2
    exact ⟨none, 0, 0, [], 21, rfl, RowAt.nil _, .big trivial (fun f => f) HBG.out, E1.out.2⟩
  · obtain ⟨rfl, hu⟩ := e2.ok_num hok (fun f => f) (Int.not_le.1 hbig)
    have HU : Hid (Num u (b * v) ∧ b * v < Big) := ⟨hu, Int.not_le.1 hbig⟩
    clear e2 hok hbig hu
    go_wp2_with fail
    refine (of_any d _ HA.out.2.2.2.2.2.1 HA.out.2.2.2.2.2.2).mono ?_
    rintro e w3 ⟨co, cn, cc, cs, rfl, f1, f2, f3, f4⟩
    have F1 : Hid (RowAt w3 co cn cc cs ∧ Num cs d ∧ Below w2.heap.size w2 w3) := ⟨f1, f2, f4⟩
    clear f1 f2 f3 f4
    go_wp2_with fail
    refine (nadd_any _ _ _ _ _ _ u cs _ (E1.out.1.below F1.out.2.2) F1.out.1).mono ?_
    rintro e w4 ⟨ro, rn, rc, r, k, rfl, g1, g2, g3⟩
    have G1 : Hid (RowAt w4 ro rn rc r ∧ Out True False (d + b * v) r k ∧ Below w.heap.size w w4) := ⟨g1, by
      have hval : val u + val cs = d + b * v := by rw [HU.out.1.val, F1.out.2.1.val, Int.add_comm]
      rw [hval] at g2
      exact g2.to ⟨HU.out.1.may.2 HU.out.2, num_may1 F1.out.2.1 HA.out.2.2.2.2.2.2⟩ trivial rfl, chain E1.out.2 (chain F1.out.2.2 g3)⟩
    clear g1 g2 g3
    go_wp2_with fail
    go_ret2
    exact ⟨ro, rn, rc, r, k, rfl, G1.out.1, G1.out.2.1, G1.out.2.2⟩

end Go.Proofs.YtghnmfkgpkikfaaGreatDoor
