/-
  PressGets.
-/
import Derived.Test.YtnedghhcidohnaaGreatPressDc
import Derived.Test.YtnedghhcidohnaaGreatPressBa
import Derived.Test.YtnedghhcidohnaaGreatLC1
namespace Go.Proofs.YtnedghhcidohnaaGreat
open Go.RowKit

set_option maxRecDepth 100000 in
set_option maxHeartbeats 4000000 in
theorem gets_b (o : Int) (s : List UInt8) (w : World) (hs : s.length ≤ 9223372036854775807) :
    Calls Tryz.prog 4 #[.int .i64 o, .string (str s)] w fun e w' => e = .returned (.bool true) ∧ Below w.heap.size w w' := by
  have hsz : ((str s).size : Int) = (s.length : Int) := by rw [str_size]
  by_cases hL : s.length ≤ 3000
  · have hL' : ¬ (3000 : Int) < ((str s).size : Int) := by omega
    have hL2 : ((str s).size : Int) ≤ 3000 := by omega
    have hL0 : (0 : Int) ≤ ((str s).size : Int) := by omega
    have HL : Hid (s.length ≤ 3000) := hL
    clear hL hs hsz
    go_enter Tryz.func4, Tryz.ntmps4
    go_wp2_with fail
    refine (shown_b _).mono ?_
    rintro e w1 ⟨rfl, q1⟩
    have H1 : Hid (Below w.heap.size w w1) := q1
    clear q1
    obtain ⟨res, hres⟩ := GetIs.ex o s
    obtain ⟨rls, hrls⟩ := GetLs.ex o s
    have HS : Hid (GetIs o s res ∧ GetLs o s rls ∧ s.length ≤ 700000) := ⟨hres, hrls, by have := HL.out; omega⟩
    clear hres hrls
    go_wp2_with fail
    refine (get_b o s res _ HS.out.1 HS.out.2.2).mono ?_
    rintro e w2 ⟨lo, n, cap, ps, ls, R, k, rfl, q1, q2, q3, q4⟩
    have H2 : Hid (PolyAt w2 lo n cap ps ls ∧ Told res ls R k ∧ Below w.heap.size w w2) := ⟨q1, q2, chain H1.out q4⟩
    have hR : ((str R).size : Int) ≤ 3000 := by rw [str_size]; have := HL.out; omega
    clear q1 q2 q3 q4
    go_wp2_with fail
    refine (rgetPoly_b o s res _ HS.out.1 HS.out.2.2).mono ?_
    rintro e w3 ⟨lo', n', cap', qs, ms, R', k', rfl, q1, q2, q3, q4, _⟩
    obtain ⟨rfl, rfl, rfl⟩ := H2.out.2.1.one q2
    have H3 : Hid (PolyAt w3 lo n cap ps ls ∧ PolyAt w3 lo' n' cap' qs ls ∧ Below w.heap.size w w3) := ⟨H2.out.1.below q4, q1, chain H2.out.2.2 q4⟩
    clear q1 q2 q3 q4 H2
    go_wp2_with fail
    refine (getList_b o s rls _ HS.out.2.1 HS.out.2.2).mono ?_
    rintro e w4 ⟨po, pn, pc, lss, T, j, rfl, q1, q2, q3, q4⟩
    have H4 : Hid (PolyAt w4 lo n cap ps ls ∧ PolyAt w4 lo' n' cap' qs ls ∧ ListAt w4 po pn lss ∧ Told rls lss T j ∧ Below w.heap.size w w4) := ⟨H3.out.1.below q4, H3.out.2.1.below q4, q1, q2, chain H3.out.2.2 q4⟩
    have hT : ((str T).size : Int) ≤ 3000 := by rw [str_size]; have := HL.out; omega
    clear q1 q2 q3 q4 H3
    go_wp2_with fail
    refine (rgetList_b o s rls _ HS.out.2.1 HS.out.2.2).mono ?_
    rintro e w5 ⟨po', pn', pc', mss, T', j', rfl, q1, q2, q3, q4⟩
    obtain ⟨rfl, rfl, rfl⟩ := H4.out.2.2.2.1.one q2
    have hpn : pn' = pn := by have := q1.len; have := H4.out.2.2.1.len; omega
    subst hpn
    have H5 : Hid (PolyAt w5 lo n cap ps ls ∧ PolyAt w5 lo' n' cap' qs ls ∧ ListAt w5 po pn' lss ∧ ListAt w5 po' pn' lss ∧ Below w.heap.size w w5) := ⟨H4.out.1.below q4, H4.out.2.1.below q4, H4.out.2.2.1.below q4, q1, chain H4.out.2.2.2.2 q4⟩
    clear q1 q2 q3 q4 H4
    go_wp2_with fail
    refine (rsame_b _ _ _ _ ls _ _ _ _ ls _ H5.out.1 H5.out.2.1 true ⟨fun _ => rfl, fun _ => rfl⟩).mono ?_
    rintro e w6 ⟨rfl, q1⟩
    have H6 : Hid (ListAt w6 po pn' lss ∧ ListAt w6 po' pn' lss ∧ Below w.heap.size w w6) := ⟨H5.out.2.2.1.below q1, H5.out.2.2.2.1.below q1, chain H5.out.2.2.2.2 q1⟩
    clear q1 H5
    go_wp2_with fail
    refine (sameList_b po pn' _ po' _ lss _ H6.out.1 H6.out.2.1).mono ?_
    rintro e w7 ⟨rfl, q1⟩
    have H7 : Hid (Below w.heap.size w w7) := chain H6.out.2.2 q1
    clear q1 H6
    go_wp2_with fail
    go_ret
    exact ⟨rfl, H7.out⟩
  · have hL' : (3000 : Int) < ((str s).size : Int) := by omega
    have hLm : ((str s).size : Int) ≤ 9223372036854775807 := by omega
    clear hL hs hsz
    go_enter Tryz.func4, Tryz.ntmps4
    go_wp2_with fail
    refine (shown_b _).mono ?_
    rintro e w1 ⟨rfl, q1⟩
    have H1 : Hid (Below w.heap.size w w1) := q1
    clear q1
    go_wp2_with fail
    go_ret
    exact ⟨rfl, H1.out⟩
end Go.Proofs.YtnedghhcidohnaaGreat
