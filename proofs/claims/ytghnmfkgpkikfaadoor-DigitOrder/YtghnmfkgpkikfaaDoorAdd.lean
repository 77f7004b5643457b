/-
  limb.Add: the sum.
-/
import Derived.Test.YtghnmfkgpkikfaaDoorAdd2
namespace Go.Proofs.YtghnmfkgpkikfaaDoor
open Go.RowKit

/-- What the closure of Add holds while the limbs zs have been told. -/
def AddInv (w0 : World) (pa pb pc : Nat) (av bv : Value) (xs ys : List Int) (zs : List Int) (wr : World) : Prop :=
  Below w0.heap.size w0 wr ∧ wr.heap[pa]? = some (.cells #[av] 23 (0, 0)) ∧ wr.heap[pb]? = some (.cells #[bv] 23 (0, 0)) ∧
    ∃ c, wr.heap[pc]? = some (.cells #[.int .u64 c] 22 (0, 0)) ∧ 0 ≤ c ∧ c ≤ 1 ∧ val zs + c * BB ^ zs.length = pv xs zs.length + pv ys zs.length

theorem add_step {v c x y p q P r : Int} (h : v + c * P = p + q) (hr : r = x + y + c) : v + (r % BB) * P + (r / BB) * (P * BB) = (p + x * P) + (q + y * P) := by
  have h1 := Int.emod_add_mul_ediv r BB
  have h2 : (r % BB + BB * (r / BB)) * P = r * P := by rw [h1]
  rw [hr] at h2 ⊢
  grind

theorem carry_bd {x y c : Int} (hx : 0 ≤ x) (hy : 0 ≤ y) (hx1 : x < BB) (hy1 : y < BB) (h0 : 0 ≤ c) (h1 : c ≤ 1) : 0 ≤ (x + y + c) / BB ∧ (x + y + c) / BB ≤ 1 := by
  unfold BB at *
  omega

theorem add_end {v c a b P : Int} (h : v + c * (P * BB) = a + b) (hv : 0 ≤ v) (hP : 0 ≤ P) (ha : a < P) (hb : b < P) (hc : 0 ≤ c) (hc1 : c ≤ 1) : v = a + b := by
  have hB := BB_two
  rcases Int.lt_or_eq_of_le hc with h' | h'
  · have e : c = 1 := by omega
    subst e
    have := Int.mul_le_mul_of_nonneg_left hB hP
    omega
  · subst h'; omega

set_option maxHeartbeats 400000 in
theorem add_core (ao bo : Option Addr) (na ca nb cb pa pb pc n : Nat) (N : Int) (xs ys : List Int) (w0 W : World) (ha : RowAt w0 ao na ca xs) (hb : RowAt w0 bo nb cb ys) (hna : na ≤ n) (hnb : nb ≤ n) (hn : n ≤ 900000) (hN : N = ((n + 1 : Nat) : Int))
    (hbel : Below w0.heap.size w0 W) (hpa : W.heap[pa]? = some (.cells #[.slice ao na ca] 23 (0, 0))) (hpb : W.heap[pb]? = some (.cells #[.slice bo nb cb] 23 (0, 0))) (hpc : W.heap[pc]? = some (.cells #[.int .u64 0] 22 (0, 0)))
    (hca : w0.heap.size ≤ pc) (hac : pa ≠ pc) (hbc : pb ≠ pc) :
    Calls Tryd.prog 79 #[.int .i64 N, .func (.func 93) #[] #[.pointer (some ⟨pa, 0, none⟩), .pointer (some ⟨pb, 0, none⟩), .pointer (some ⟨pc, 0, none⟩)]] W fun e w' =>
      ∃ ro m cap r, e = .returned (.slice ro m cap) ∧ RowAt w' ro m cap r ∧ Num r (val xs + val ys) ∧ m ≤ n + 1 ∧ Below w0.heap.size w0 w' := by
  subst hN
  refine (build_any (n + 1) 93 _ (AddInv w0 pa pb pc (.slice ao na ca) (.slice bo nb cb) xs ys) W (by omega) ?_ (fun _ _ => by simp) ?_ ?_).mono ?_
  · exact ⟨hbel, hpa, hpb, 0, hpc, Int.le_refl _, by omega, by simp [val, pv]⟩
  · rintro zs w1 w2 ⟨h1, h2, h3, c, h4, h5⟩ hb12
    exact ⟨h1.trans (hb12.mono hbel.size), heapAt hb12 (lt_of_block hpa) h2, heapAt hb12 (lt_of_block hpb) h3, c, heapAt hb12 (lt_of_block hpc) h4, h5⟩
  · rintro zs wr hlt ⟨h1, h2, h3, c, h4, hc0, hc1, hval⟩
    have lx := lim_bd ha.limbs zs.length
    have ly := lim_bd hb.limbs zs.length
    have hcb := carry_bd lx.1 ly.1 lx.2 ly.2 hc0 hc1
    have hmod : 0 ≤ (lim xs zs.length + lim ys zs.length + c) % BB ∧ (lim xs zs.length + lim ys zs.length + c) % BB < BB := ⟨Int.emod_nonneg _ (by have := BB_pos; omega), Int.emod_lt_of_pos _ BB_pos⟩
    refine (add1_any ao bo na ca nb cb pa pb pc xs ys zs.length c wr (by omega) (ha.below h1) (hb.below h1) (cell_of_one h2) (cell_of_one h3) (cell_of_one h4) (free_of_one h4) hc0 hc1).mono ?_
    rintro e w' ⟨rfl, hq⟩
    refine ⟨_, rfl, hmod.1, hmod.2, ⟨?_, ?_, ?_, _, ?_, hcb.1, hcb.2, ?_⟩, ?_, ?_⟩
    · exact hq.below (h1.setCell hca _)
    · rw [hq.heap, Below.heap_setCell _ _ _ _ hac]; exact h2
    · rw [hq.heap, Below.heap_setCell _ _ _ _ hbc]; exact h3
    · rw [hq.heap]; exact one_setCell h4
    · rw [val_snoc, List.length_append, List.length_singleton, pw_succ, pv, pv]
      exact add_step hval rfl
    · intro k hk
      rw [hq.heap, Below.heap_setCell _ _ _ _ (by have := lt_of_block hpc; show k ≠ pc; omega)]
    · rw [hq.heap]; simp [World.setCell]
  · rintro e w' ⟨ro, cap, m, zs, rfl, hlen, hlm, htl, hrow, h1, -, -, c, -, hc0, hc1, hval⟩
    refine ⟨ro, m, cap, _, rfl, hrow, ?_, by have := htl.1; omega, h1⟩
    have hnum := Num.ofTl hlm htl
    have vb := val_bd hlm
    have e : val zs = val xs + val ys := by
      rw [hlen, pv_val xs _ (by have := ha.len; omega), pv_val ys _ (by have := hb.len; omega), pw_succ] at hval
      have bx := pw_le (show xs.length ≤ n by have := ha.len; omega)
      have by' := pw_le (show ys.length ≤ n by have := hb.len; omega)
      exact add_end hval vb.1 (Int.le_of_lt (pw_pos n)) (Int.lt_of_lt_of_le (val_bd ha.limbs).2 bx) (Int.lt_of_lt_of_le (val_bd hb.limbs).2 by') hc0 hc1
    rw [e] at hnum
    exact hnum

theorem below3 (w : World) (o o' o'' : Obj) : Below w.heap.size w (((w.alloc o).alloc o').alloc o'') := (((Below.refl _ _).alloc (Nat.le_refl _) o).alloc (by simp) o').alloc (by simp; omega) o''

set_option maxHeartbeats 400000 in
theorem add_any (ao bo : Option Addr) (na ca nb cb : Nat) (xs ys : List Int) (w : World) (ha : RowAt w ao na ca xs) (hb : RowAt w bo nb cb ys) (hna : na ≤ 900000) (hnb : nb ≤ 900000) :
    Calls Tryd.prog 73 #[.slice ao na ca, .slice bo nb cb] w fun e w' => ∃ ro m cap r, e = .returned (.slice ro m cap) ∧ RowAt w' ro m cap r ∧ Num r (val xs + val ys) ∧ m ≤ max na nb + 1 ∧ Below w.heap.size w w' := by
  have hmf : ∀ (fn : Fn) (first cap : Array Value) (w : World), (Instr.makeFunc fn first cap).run Tryd.prog w = .ok (.func fn first cap) w := fun _ _ _ _ => rfl
  have H : ∀ n N, na ≤ n → nb ≤ n → n ≤ 900000 → N = ((n + 1 : Nat) : Int) → _ := fun n N h1 h2 h3 h4 => add_core ao bo na ca nb cb w.heap.size (w.heap.size + 1) (w.heap.size + 1 + 1) n N xs ys w
    (((w.alloc (Obj.cells #[Value.slice ao na ca] 23)).alloc (Obj.cells #[Value.slice bo nb cb] 23)).alloc (Obj.cells #[Value.int IntKind.u64 0] 22)) ha hb h1 h2 h3 h4 (below3 _ _ _ _)
    (by rw [Below.heap_alloc _ _ _ (by simp; omega), Below.heap_alloc _ _ _ (by simp)]; exact heap_alloc_new w _)
    (by rw [Below.heap_alloc _ _ _ (by simp)]; have := heap_alloc_new (w.alloc (Obj.cells #[Value.slice ao na ca] 23)) (Obj.cells #[Value.slice bo nb cb] 23); simpa using this)
    (by have := heap_alloc_new ((w.alloc (Obj.cells #[Value.slice ao na ca] 23)).alloc (Obj.cells #[Value.slice bo nb cb] 23)) (Obj.cells #[Value.int IntKind.u64 0] 22); simpa using this)
    (by omega) (by omega) (by omega)
  have HH : Hid _ := H
  clear H
  go_enter Tryd.func73, Tryd.ntmps73
  go_wp2_with fail
  · have hle : na ≤ nb := by omega
    refine (HH.out nb _ hle (Nat.le_refl _) hnb (by omega)).mono ?_
    rintro e w1 ⟨ro, m, cap, r, rfl, h1, h2, h3, h4⟩
    go_wp2
    go_ret
    exact ⟨ro, m, cap, r, rfl, h1, h2, by omega, h4⟩
  · have hle : nb ≤ na := by omega
    refine (HH.out na _ (Nat.le_refl _) hle hna (by omega)).mono ?_
    rintro e w1 ⟨ro, m, cap, r, rfl, h1, h2, h3, h4⟩
    go_wp2
    go_ret
    exact ⟨ro, m, cap, r, rfl, h1, h2, by omega, h4⟩
end Go.Proofs.YtghnmfkgpkikfaaDoor
