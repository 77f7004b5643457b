/-
  The closure of limb.Add: one limb of a sum, and the carry that it leaves.
-/
import Derived.Test.YtghnmfkgpkikfaaDoorAdd1
import Derived.Deep.RegionHeld3
import Derived.Deep.DrawnRows
namespace Go.Proofs.YtghnmfkgpkikfaaDoor
open Go.RowKit
attribute [local go_sem ↓] Go.wp_at_zero Go.wp_at_succ

set_option maxHeartbeats 4000000 in
theorem add1_any (ao bo : Option Addr) (na ca nb cb pa pb pc : Nat) (xs ys : List Int) (i : Nat) (c : Int) (w : World) (hi : i ≤ 1000000)
    (ha : RowAt w ao na ca xs) (hb : RowAt w bo nb cb ys) (hpa : w.cell? ⟨pa, 0, none⟩ = some (.slice ao na ca)) (hpb : w.cell? ⟨pb, 0, none⟩ = some (.slice bo nb cb))
    (hpc : w.cell? ⟨pc, 0, none⟩ = some (.int .u64 c)) (hfc : w.frozen? ⟨pc, 0, none⟩ = false) (hc0 : 0 ≤ c) (hc1 : c ≤ 1) :
    Calls Tryd.prog 93 #[.int .i64 i, .pointer (some ⟨pa, 0, none⟩), .pointer (some ⟨pb, 0, none⟩), .pointer (some ⟨pc, 0, none⟩)] w fun e w' =>
      e = .returned (.int .u64 ((lim xs i + lim ys i + c) % BB)) ∧ Eqw w' (w.setCell ⟨pc, 0, none⟩ (.int .u64 ((lim xs i + lim ys i + c) / BB))) := by
  have lx := (lim_bd ha.limbs i).1
  have ly := (lim_bd hb.limbs i).1
  have hadd := fun w => add64_any (lim xs i) (lim ys i) c w lx ly hc0 hc1
  go_enter Tryd.func93, Tryd.ntmps93
  go_wp2
  go_region_with (first
    | (go_at_call_of 95 (Value.slice ao na ca); refine (at_any _ _ _ xs _ _ ?_ ?_ ?_).mono ?_; exact ha.drew; omega; omega; rintro e w1 ⟨rfl, rfl⟩)
    | (go_at_call_of 95 (Value.slice bo nb cb); refine (at_any _ _ _ ys _ _ ?_ ?_ ?_).mono ?_; exact hb.drew; omega; omega; rintro e w1 ⟨rfl, rfl⟩))
  all_goals (go_wp2; go_ret; exact ⟨rfl, rfl, rfl, rfl, rfl⟩)

end Go.Proofs.YtghnmfkgpkikfaaDoor
