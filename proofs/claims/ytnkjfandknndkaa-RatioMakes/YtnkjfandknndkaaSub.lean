/-
  limb.Sub: the difference, or none.
-/
import Derived.Test.YtnkjfandknndkaaSub1
namespace Go.Proofs.Ytnkjfandknndkaa
open Go.RowKit

/-- What the closure of Sub holds while the limbs zs have been told. -/
def SubInv (w0 : World) (pa pb pc : Nat) (av bv : Value) (xs ys : List Int) (zs : List Int) (wr : World) : Prop :=
  Below w0.heap.size w0 wr ∧ wr.heap[pa]? = some (.cells #[av] 22 (0, 0)) ∧ wr.heap[pb]? = some (.cells #[bv] 22 (0, 0)) ∧
    ∃ c, wr.heap[pc]? = some (.cells #[.int .u64 c] 50 (0, 0)) ∧ 0 ≤ c ∧ c ≤ 1 ∧ val zs - c * BB ^ zs.length = pv xs zs.length - pv ys zs.length

theorem bor_is {x y c : Int} (hx : 0 ≤ x) (hy : 0 ≤ y) (hx1 : x < BB) (hy1 : y < BB) (h0 : 0 ≤ c) (h1 : c ≤ 1) : (x - y - c) % BB - bor x y c * BB = x - y - c ∧ 0 ≤ bor x y c ∧ bor x y c ≤ 1 := by
  unfold bor BB at *
  split <;> omega

theorem sub_step {v c x y p q P r b : Int} (h : v - c * P = p - q) (hr : r - b * BB = x - y - c) : v + r * P - b * (P * BB) = (p + x * P) - (q + y * P) := by
  have h2 : (r - b * BB) * P = (x - y - c) * P := by rw [hr]
  grind

set_option maxHeartbeats 400000 in
theorem sub_core (ao bo : Option Addr) (na ca nb cb pa pb pc n : Nat) (xs ys : List Int) (w0 W : World) (ha : RowAt w0 ao na ca xs) (hb : RowAt w0 bo nb cb ys) (hna : na ≤ n) (hnb : nb ≤ n) (hn : n ≤ 900000)
    (hbel : Below w0.heap.size w0 W) (hpa : W.heap[pa]? = some (.cells #[.slice ao na ca] 22 (0, 0))) (hpb : W.heap[pb]? = some (.cells #[.slice bo nb cb] 22 (0, 0))) (hpc : W.heap[pc]? = some (.cells #[.int .u64 0] 50 (0, 0)))
    (hca : w0.heap.size ≤ pc) (hac : pa ≠ pc) (hbc : pb ≠ pc) :
    Calls Try.prog 84 #[.int .i64 n, .func (.func 88) #[] #[.pointer (some ⟨pa, 0, none⟩), .pointer (some ⟨pb, 0, none⟩), .pointer (some ⟨pc, 0, none⟩)]] W fun e w' =>
      ∃ ro m cap r c, e = .returned (.slice ro m cap) ∧ RowAt w' ro m cap r ∧ (m ≤ n ∧ Fresh w0.heap.size ro) ∧ w'.heap[pc]? = some (.cells #[.int .u64 c] 50 (0, 0)) ∧ Below w0.heap.size w0 w' ∧ ((c = 0 ∧ val ys ≤ val xs ∧ Num r (val xs - val ys)) ∨ (c = 1 ∧ val xs < val ys)) := by
  refine (build_fresh n 88 _ (SubInv w0 pa pb pc (.slice ao na ca) (.slice bo nb cb) xs ys) W (by omega) ?_ (fun _ _ => by simp) ?_ ?_).mono ?_
  · exact ⟨hbel, hpa, hpb, 0, hpc, Int.le_refl _, by omega, by simp [val, pv]⟩
  · rintro zs w1 w2 ⟨h1, h2, h3, c, h4, h5⟩ hb12
    exact ⟨h1.trans (hb12.mono hbel.size), heapAt hb12 (lt_of_block hpa) h2, heapAt hb12 (lt_of_block hpb) h3, c, heapAt hb12 (lt_of_block hpc) h4, h5⟩
  · rintro zs wr hlt ⟨h1, h2, h3, c, h4, hc0, hc1, hval⟩
    have lx := lim_bd ha.limbs zs.length
    have ly := lim_bd hb.limbs zs.length
    have hcb := bor_is lx.1 ly.1 lx.2 ly.2 hc0 hc1
    have hmod : 0 ≤ (lim xs zs.length - lim ys zs.length - c) % BB ∧ (lim xs zs.length - lim ys zs.length - c) % BB < BB := ⟨Int.emod_nonneg _ (by have := BB_pos; omega), Int.emod_lt_of_pos _ BB_pos⟩
    refine (sub1_any ao bo na ca nb cb pa pb pc xs ys zs.length c wr (by omega) (ha.below h1) (hb.below h1) (cell_of_one h2) (cell_of_one h3) (cell_of_one h4) (free_of_one h4) hc0 hc1).mono ?_
    rintro e w' ⟨rfl, hq⟩
    refine ⟨_, rfl, hmod.1, hmod.2, ⟨?_, ?_, ?_, _, ?_, hcb.2.1, hcb.2.2, ?_⟩, ?_, ?_⟩
    · exact hq.below (h1.setCell hca _)
    · rw [hq.heap, Below.heap_setCell _ _ _ _ hac]; exact h2
    · rw [hq.heap, Below.heap_setCell _ _ _ _ hbc]; exact h3
    · rw [hq.heap]; exact one_setCell h4
    · rw [val_snoc, List.length_append, List.length_singleton, pw_succ, pv, pv]
      exact sub_step hval hcb.1
    · intro k hk
      rw [hq.heap, Below.heap_setCell _ _ _ _ (by have := lt_of_block hpc; show k ≠ pc; omega)]
    · rw [hq.heap]; simp [World.setCell]
  · rintro e w' ⟨ro, cap, m, zs, rfl, hlen, hlm, htl, hrow, hf, h1, -, -, c, h4, hc0, hc1, hval⟩
    refine ⟨ro, m, cap, _, c, rfl, hrow, ⟨by have := htl.1; omega, hf.mono hbel.size⟩, h4, h1, ?_⟩
    have hnum := Num.ofTl hlm htl
    have vb := val_bd hlm
    rw [hlen, pv_val xs _ (by have := ha.len; omega), pv_val ys _ (by have := hb.len; omega)] at hval
    rw [hlen] at vb
    have hc : c = 0 ∨ c = 1 := by omega
    rcases hc with rfl | rfl
    · refine .inl ⟨rfl, by omega, ?_⟩
      rw [show val zs = val xs - val ys by omega] at hnum
      exact hnum
    · exact .inr ⟨rfl, by omega⟩

theorem below3' (w : World) (o o' o'' : Obj) : Below w.heap.size w (((w.alloc o).alloc o').alloc o'') := (((Below.refl _ _).alloc (Nat.le_refl _) o).alloc (by simp) o').alloc (by simp; omega) o''

set_option maxHeartbeats 400000 in
theorem sub_any (ao bo : Option Addr) (na ca nb cb : Nat) (xs ys : List Int) (w : World) (ha : RowAt w ao na ca xs) (hb : RowAt w bo nb cb ys) (hna : na ≤ 900000) (hnb : nb ≤ 900000) :
    Calls Try.prog 73 #[.slice ao na ca, .slice bo nb cb] w fun e w' => ∃ ro m cap r b, e = .returned (.tuple #[.slice ro m cap, .bool b]) ∧ RowAt w' ro m cap r ∧ (m ≤ max na nb ∧ Fresh w.heap.size ro) ∧ Below w.heap.size w w' ∧
      ((b = true ∧ val ys ≤ val xs ∧ Num r (val xs - val ys)) ∨ (b = false ∧ val xs < val ys ∧ r = [] ∧ m = 0)) := by
  have hmf : ∀ (fn : Fn) (first cap : Array Value) (w : World), (Instr.makeFunc fn first cap).run Try.prog w = .ok (.func fn first cap) w := fun _ _ _ _ => rfl
  have H : ∀ n, na ≤ n → nb ≤ n → n ≤ 900000 → _ := fun n h1 h2 h3 => sub_core ao bo na ca nb cb w.heap.size (w.heap.size + 1) (w.heap.size + 1 + 1) n xs ys w
    (((w.alloc (Obj.cells #[Value.slice ao na ca] 22)).alloc (Obj.cells #[Value.slice bo nb cb] 22)).alloc (Obj.cells #[Value.int IntKind.u64 0] 50)) ha hb h1 h2 h3 (below3' _ _ _ _)
    (by rw [Below.heap_alloc _ _ _ (by simp; omega), Below.heap_alloc _ _ _ (by simp)]; exact heap_alloc_new w _)
    (by rw [Below.heap_alloc _ _ _ (by simp)]; have := heap_alloc_new (w.alloc (Obj.cells #[Value.slice ao na ca] 22)) (Obj.cells #[Value.slice bo nb cb] 22); simpa using this)
    (by have := heap_alloc_new ((w.alloc (Obj.cells #[Value.slice ao na ca] 22)).alloc (Obj.cells #[Value.slice bo nb cb] 22)) (Obj.cells #[Value.int IntKind.u64 0] 50); simpa using this)
    (by omega) (by omega) (by omega)
  have HH : Hid _ := H
  clear H
  go_enter Try.func73, Try.ntmps73
  go_wp2_with fail
  · have hle : na ≤ nb := by omega
    refine (HH.out nb hle (Nat.le_refl _) hnb).mono ?_
    rintro e w1 ⟨ro, m, cap, r, c, rfl, h1, h2, h3, h4, h5⟩
    have hcell := cell_of_one h3
    have HF : Hid _ := h5
    have H2 : Hid _ := h2
    clear h5 h3 h2
    rcases HF.out with ⟨rfl, _⟩ | ⟨rfl, _⟩
    · go_wp2
      go_ret2
      refine ⟨ro, m, cap, r, true, rfl, h1, ⟨by have := H2.out.1; omega, H2.out.2⟩, h4, .inl ⟨rfl, ?_⟩⟩
      rcases HF.out with h | h
      · exact h.2
      · exact absurd h.1 (by decide)
    · go_wp2
      go_ret2
      refine ⟨none, 0, 0, [], false, rfl, RowAt.nil _, ⟨by omega, Fresh.none _⟩, h4, .inr ⟨rfl, ?_, rfl, rfl⟩⟩
      rcases HF.out with h | h
      · exact absurd h.1 (by decide)
      · exact h.2
  · have hle : nb ≤ na := by omega
    refine (HH.out na (Nat.le_refl _) hle hna).mono ?_
    rintro e w1 ⟨ro, m, cap, r, c, rfl, h1, h2, h3, h4, h5⟩
    have hcell := cell_of_one h3
    have HF : Hid _ := h5
    have H2 : Hid _ := h2
    clear h5 h3 h2
    rcases HF.out with ⟨rfl, _⟩ | ⟨rfl, _⟩
    · go_wp2
      go_ret2
      refine ⟨ro, m, cap, r, true, rfl, h1, ⟨by have := H2.out.1; omega, H2.out.2⟩, h4, .inl ⟨rfl, ?_⟩⟩
      rcases HF.out with h | h
      · exact h.2
      · exact absurd h.1 (by decide)
    · go_wp2
      go_ret2
      refine ⟨none, 0, 0, [], false, rfl, RowAt.nil _, ⟨by omega, Fresh.none _⟩, h4, .inr ⟨rfl, ?_, rfl, rfl⟩⟩
      rcases HF.out with h | h
      · exact absurd h.1 (by decide)
      · exact h.2

theorem Num.zero {r : List Int} (h : Num r 0) : r = [] := zero_of_val h.limbs h.trim h.val

theorem sub_ok (ao bo : Option Addr) (na ca nb cb : Nat) (xs ys : List Int) (w : World) (ha : RowAt w ao na ca xs) (hb : RowAt w bo nb cb ys) (hna : na ≤ 900000) (hnb : nb ≤ 900000) (h : val ys ≤ val xs) :
    Calls Try.prog 73 #[.slice ao na ca, .slice bo nb cb] w fun e w' => ∃ ro m cap r, e = .returned (.tuple #[.slice ro m cap, .bool true]) ∧ RowAt w' ro m cap r ∧ Num r (val xs - val ys) ∧ m ≤ max na nb ∧ Below w.heap.size w w' := by
  refine (sub_any ao bo na ca nb cb xs ys w ha hb hna hnb).mono ?_
  rintro e w' ⟨ro, m, cap, r, b, rfl, h1, h2, h3, ⟨rfl, h4, h5⟩ | ⟨_, h4, _⟩⟩
  · exact ⟨ro, m, cap, r, rfl, h1, h5, h2.1, h3⟩
  · omega
theorem sub_fresh (ao bo : Option Addr) (na ca nb cb : Nat) (xs ys : List Int) (w : World) (ha : RowAt w ao na ca xs) (hb : RowAt w bo nb cb ys) (hna : na ≤ 900000) (hnb : nb ≤ 900000) (h : val ys ≤ val xs) :
    Calls Try.prog 73 #[.slice ao na ca, .slice bo nb cb] w fun e w' => ∃ ro m cap r, e = .returned (.tuple #[.slice ro m cap, .bool true]) ∧ RowAt w' ro m cap r ∧ Num r (val xs - val ys) ∧ Fresh w.heap.size ro ∧ Below w.heap.size w w' := by
  refine (sub_any ao bo na ca nb cb xs ys w ha hb hna hnb).mono ?_
  rintro e w' ⟨ro, m, cap, r, b, rfl, h1, h2, h3, ⟨rfl, h4, h5⟩ | ⟨_, h4, _⟩⟩
  · exact ⟨ro, m, cap, r, rfl, h1, h5, h2.2, h3⟩
  · omega
theorem sub_no (ao bo : Option Addr) (na ca nb cb : Nat) (xs ys : List Int) (w : World) (ha : RowAt w ao na ca xs) (hb : RowAt w bo nb cb ys) (hna : na ≤ 900000) (hnb : nb ≤ 900000) (h : val xs < val ys) :
    Calls Try.prog 73 #[.slice ao na ca, .slice bo nb cb] w fun e w' => ∃ ro cap, e = .returned (.tuple #[.slice ro 0 cap, .bool false]) ∧ RowAt w' ro 0 cap [] ∧ Below w.heap.size w w' := by
  refine (sub_any ao bo na ca nb cb xs ys w ha hb hna hnb).mono ?_
  rintro e w' ⟨ro, m, cap, r, b, rfl, h1, h2, h3, ⟨_, h4, _⟩ | ⟨rfl, h4, rfl, rfl⟩⟩
  · omega
  · exact ⟨ro, cap, rfl, h1, h3⟩
theorem sub_zero (ao bo : Option Addr) (na ca nb cb : Nat) (xs ys : List Int) (w : World) (ha : RowAt w ao na ca xs) (hb : RowAt w bo nb cb ys) (hna : na ≤ 900000) (hnb : nb ≤ 900000) (h : val xs = val ys) :
    Calls Try.prog 73 #[.slice ao na ca, .slice bo nb cb] w fun e w' => ∃ ro cap, e = .returned (.tuple #[.slice ro 0 cap, .bool true]) ∧ RowAt w' ro 0 cap [] ∧ Below w.heap.size w w' := by
  refine (sub_ok ao bo na ca nb cb xs ys w ha hb hna hnb (by omega)).mono ?_
  rintro e w' ⟨ro, m, cap, r, rfl, h1, h2, _, h4⟩
  rw [show val xs - val ys = 0 by omega] at h2
  obtain rfl := h2.zero
  obtain rfl := h1.len
  exact ⟨ro, cap, rfl, h1, h4⟩
end Go.Proofs.Ytnkjfandknndkaa
