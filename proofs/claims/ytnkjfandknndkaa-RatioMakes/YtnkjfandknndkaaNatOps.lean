/-
  nat.Add, nat.Sub, nat.Mul: by nat.within.
-/
import Derived.Test.YtnkjfandknndkaaWithin
import Derived.Test.YtnkjfandknndkaaSub
import Derived.Test.YtnkjfandknndkaaMul
namespace Go.Proofs.Ytnkjfandknndkaa
open Go.RowKit

set_option maxHeartbeats 1000000 in
theorem nmul1_any (ao bo : Option Addr) (na ca nb cb pa pb : Nat) (xs ys : List Int) (w : World) (ha : RowAt w ao na ca xs) (hb : RowAt w bo nb cb ys) (hna : na ≤ 8) (hnb : nb ≤ 8)
    (hpa : w.cell? ⟨pa, 0, none⟩ = some (.slice ao na ca)) (hpb : w.cell? ⟨pb, 0, none⟩ = some (.slice bo nb cb)) :
    Calls Try.prog 69 #[.pointer (some ⟨pa, 0, none⟩), .pointer (some ⟨pb, 0, none⟩)] w fun e w' =>
      ∃ ro m cap r k, e = .returned (.tuple #[.slice ro m cap, .int .i64 k]) ∧ RowAt w' ro m cap r ∧ Below w.heap.size w w' ∧ Raw False (val xs * val ys) r k := by
  have HA : Hid _ := ha
  have HB : Hid _ := hb
  clear ha hb
  go_enter Try.func69, Try.ntmps69
  go_wp2_with fail
  refine (mul_any _ _ _ _ _ _ xs ys _ HA.out HB.out (by omega) (by omega)).mono ?_
  rintro e w1 ⟨ro, m, cap, r, rfl, h1, h2, h3, h4⟩
  have H1 : Hid _ := h1
  have H2 : Hid (Num r (val xs * val ys)) := h2
  have H4 : Hid _ := h4
  clear h1 h2 h3 h4
  go_wp2
  go_ret2
  exact ⟨ro, m, cap, r, 0, rfl, H1.out, H4.out, .inr ⟨fun f => f, rfl, H2.out⟩⟩

set_option maxHeartbeats 1000000 in
theorem nmul_any (ao bo : Option Addr) (na ca nb cb : Nat) (xs ys : List Int) (w : World) (ha : RowAt w ao na ca xs) (hb : RowAt w bo nb cb ys) :
    Calls Try.prog 41 #[.slice ao na ca, .slice bo nb cb] w fun e w' => ∃ ro m cap r k, e = .returned (.tuple #[.slice ro m cap, .int .i64 k]) ∧ RowAt w' ro m cap r ∧ Out (May xs ∧ May ys) (False) (val xs * val ys) r k ∧ Below w.heap.size w w' := by
  have hmf : ∀ (fn : Fn) (first cap : Array Value) (w : World), (Instr.makeFunc fn first cap).run Try.prog w = .ok (.func fn first cap) w := fun _ _ _ _ => rfl
  have hb2 := below2 w (Obj.cells #[Value.slice ao na ca] 23) (Obj.cells #[Value.slice bo nb cb] 23)
  have ra := ha.below hb2
  have rb := hb.below hb2
  have ea : ((w.alloc (Obj.cells #[Value.slice ao na ca] 23)).alloc (Obj.cells #[Value.slice bo nb cb] 23)).heap[w.heap.size]? = some (.cells #[Value.slice ao na ca] 23 (0, 0)) := by
    rw [Below.heap_alloc _ _ _ (by simp)]; exact heap_alloc_new w _
  have eb : ((w.alloc (Obj.cells #[Value.slice ao na ca] 23)).alloc (Obj.cells #[Value.slice bo nb cb] 23)).heap[w.heap.size + 1]? = some (.cells #[Value.slice bo nb cb] 23 (0, 0)) := by
    have := heap_alloc_new (w.alloc (Obj.cells #[Value.slice ao na ca] 23)) (Obj.cells #[Value.slice bo nb cb] 23); simpa using this
  have H := within_any ao bo na ca nb cb xs ys 69 #[.pointer (some ⟨w.heap.size, 0, none⟩), .pointer (some ⟨w.heap.size + 1, 0, none⟩)] (False) (val xs * val ys) _ ra rb (fun _ _ => by simp)
    (fun hx hy => nmul1_any ao bo na ca nb cb w.heap.size (w.heap.size + 1) xs ys _ ra rb (by have := hx.1; have := ha.len; omega) (by have := hy.1; have := hb.len; omega) (cell_of_one ea) (cell_of_one eb))
  have ca' := cell_of_one ea
  have cb' := cell_of_one eb
  have HB2 : Hid _ := hb2
  have HH : Hid (∀ u : Unit, _) := fun _ => H
  clear H ra rb ha hb hb2 ea eb
  go_enter Try.func41, Try.ntmps41
  go_wp2_with fail
  refine (HH.out ()).mono ?_
  rintro e w1 ⟨ro, m, cap, r, k, rfl, h1, h2, h3⟩
  have H1 : Hid _ := h1
  have H2 : Hid (Out (May xs ∧ May ys) (False) (val xs * val ys) r k) := h2
  have H3 : Hid _ := h3
  clear h1 h2 h3 ca' cb'
  go_wp2
  go_ret2
  exact ⟨ro, m, cap, r, k, rfl, H1.out, H2.out, chain HB2.out H3.out⟩

end Go.Proofs.Ytnkjfandknndkaa
