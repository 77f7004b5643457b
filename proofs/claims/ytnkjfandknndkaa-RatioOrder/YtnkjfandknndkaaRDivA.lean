/-
  The reference's Div of layer 3: both of one limb.
-/
import Derived.Test.YtnkjfandknndkaaRDivMath
import Derived.Test.YtnkjfandknndkaaRTimes
import Derived.Test.YtnkjfandknndkaaNatBase
import Derived.Test.YtnkjfandknndkaaRAdd
import Derived.Test.YtnkjfandknndkaaQuot
import Derived.Deep.CutRange
import Derived.Deep.RegionHeld3
namespace Go.Proofs.Ytnkjfandknndkaa
open Go.RowKit
attribute [local go_sem ↓] Go.wp_at_zero Go.wp_at_succ

set_option maxRecDepth 100000 in
set_option maxHeartbeats 4000000 in
theorem rqdiv_one (ao bo : Option Addr) (na ca nb cb : Nat) (xs ys : List Int) (w : World) (ha : RowAt w ao na ca xs) (hb : RowAt w bo nb cb ys) (hx : May xs) (hy : May ys) (hz : val ys ≠ 0) (h1 : na = 1) (h2 : nb = 1) :
    Calls Try.prog 34 #[.slice ao na ca, .slice bo nb cb] w fun e w' => ∃ qo qn qc q ro rn rc r k, e = .returned (.tuple #[.slice qo qn qc, .slice ro rn rc, .int .i64 k]) ∧ RowAt w' qo qn qc q ∧ RowAt w' ro rn rc r ∧ DivOut xs ys q r k ∧ Below w.heap.size w w' := by
  subst h1 h2
  have HA : Hid (RowAt w ao 1 ca xs) := ha
  have HB : Hid (RowAt w bo 1 cb ys) := hb
  have HX : Hid (May xs) := hx
  have HY : Hid (May ys) := hy
  have HZ : Hid (val ys ≠ 0) := hz
  clear ha hb hx hy hz
  have lx := HA.out.len
  have lY := HB.out.len
  obtain ⟨ab, aoff, rfl, halt, hac⟩ := HA.out.cells (by intro e; rw [e] at lx; simp at lx)
  obtain ⟨bb, boff, rfl, hblt, hbc⟩ := HB.out.cells (by intro e; rw [e] at lY; simp at lY)
  have ca0 := hac 0 (by omega)
  have cb0 := hbc 0 (by omega)
  rw [← lim_nat] at ca0 cb0
  have ex : lim xs 0 = val xs := by
    rw [← pv_val xs 1 (by omega)]
    simp [pv]
  have ey : lim ys 0 = val ys := by
    rw [← pv_val ys 1 (by omega)]
    simp [pv]
  have bx := lim_bd HA.out.limbs 0
  have bY := lim_bd HB.out.limbs 0
  rw [ex] at bx
  rw [ey] at bY
  rw [show ((0 : Nat) : Int) = 0 from rfl, ex, Nat.add_zero] at ca0
  rw [show ((0 : Nat) : Int) = 0 from rfl, ey, Nat.add_zero] at cb0
  obtain ⟨x, hx⟩ : ∃ x, x = val xs := ⟨_, rfl⟩
  obtain ⟨y, hy⟩ : ∃ y, y = val ys := ⟨_, rfl⟩
  rw [← hx] at ca0 bx
  rw [← hy] at cb0 bY
  have hyn : y ≠ 0 := by rw [hy]; exact HZ.out
  obtain ⟨xq, hxq⟩ : ∃ v, x / y = v := ⟨_, rfl⟩
  obtain ⟨xr, hxr⟩ : ∃ v, x % y = v := ⟨_, rfl⟩
  have q0 : 0 ≤ xq := by rw [← hxq]; exact Int.ediv_nonneg bx.1 bY.1
  have q1 : xq < BB := by have h := Int.ediv_le_self y bx.1; have := bx.2; omega
  have r0 : 0 ≤ xr := by rw [← hxr]; exact Int.emod_nonneg x hyn
  have r1 : xr < BB := by
    have h := Int.emod_lt_of_pos x (show 0 < y by have := bY.1; omega)
    have := bY.2
    omega
  have ht1 : IntKind.u64.wrap (x.tdiv y) = xq := by
    rw [Int.tdiv_eq_ediv_of_nonneg bx.1, hxq, IntKind.wrap_u64]
    unfold BB at q1
    omega
  have ht2 : x.tmod y = xr := by rw [Int.tmod_eq_emod_of_nonneg bx.1, hxr]
  have x0 := bx.1
  have y0 := bY.1
  have x9 : x ≤ 18446744073709551615 := by have := bx.2; unfold BB at this; omega
  have y9 : y ≤ 18446744073709551615 := by have := bY.2; unfold BB at this; omega
  have QB : Hid ((0 ≤ xq ∧ xq < BB) ∧ (0 ≤ xr ∧ xr < BB)) := ⟨⟨q0, q1⟩, r0, r1⟩
  have HQR : Hid (xq = val xs / val ys ∧ xr = val xs % val ys) := by rw [← hxq, ← hxr, hx, hy]; exact ⟨rfl, rfl⟩
  clear hac hbc ex ey bx bY lx lY hxq hxr hx hy q1 r1
  go_enter Try.func34, Try.ntmps34
  go_wp2_with fail
  refine (rmay_val _ _ _ xs _ HA.out true (yes_iff HX.out)).mono ?_
  rintro e w1 ⟨rfl, rfl⟩
  go_wp2_with fail
  refine (rmay_val _ _ _ ys _ HB.out true (yes_iff HY.out)).mono ?_
  rintro e w1 ⟨rfl, rfl⟩
  go_wp2_with fail
  go_region_held3 (fun w' => w'.cell? ⟨ab, aoff, none⟩ = some (.int .u64 x) ∧ w'.cell? ⟨bb, boff, none⟩ = some (.int .u64 y)) (first | go_keep | (refine ⟨?_, ?_⟩; (rw [bz.cell (p := ⟨ab, aoff, none⟩) halt]; assumption); (rw [bz.cell (p := ⟨bb, boff, none⟩) hblt]; assumption)))
    (first
      | (go_at_call_of 38 (Value.int IntKind.u64 xq); refine (rof_any xq _ QB.out.1.1 QB.out.1.2).mono ?_; rintro e w2 ⟨qo, qm, qc, q, rfl, g1, g2, g3, g4⟩; have bz := (Below.refl w.heap.size w).drew.trans g4)
      | (go_at_call 38; refine (rof_any xr _ QB.out.2.1 QB.out.2.2).mono ?_; rintro e w3 ⟨ro, rm, rc, r, rfl, k1, k2, k3, k4⟩; have by1 := g1.below k4; have bz := bz.trans (k4.mono bz.size)))
  have T1 : Hid (RowAt w3 qo qm qc q) := by1
  have T2 : Hid (RowAt w3 ro rm rc r) := k1
  have T3 : Hid (Num q (val xs / val ys)) := by
    rw [HQR.out.1] at g2
    exact g2
  have T4 : Hid (Num r (val xs % val ys)) := by
    rw [HQR.out.2] at k2
    exact k2
  have T5 : Hid (Below w.heap.size w w3) := bz
  clear by1 g1 g2 g3 g4 k1 k2 k3 k4 bz
  go_wp2_with fail
  go_ret3
  exact ⟨qo, qm, qc, q, ro, rm, rc, r, 0, rfl, T1.out, T2.out, .fine ⟨HX.out, HY.out⟩ HZ.out T3.out T4.out, T5.out⟩

end Go.Proofs.Ytnkjfandknndkaa
