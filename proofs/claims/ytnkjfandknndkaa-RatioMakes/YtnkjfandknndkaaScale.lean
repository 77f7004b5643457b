/-
  limb.scale: a row times a limb, with limbs of 0 below it.
-/
import Derived.Test.YtnkjfandknndkaaScale1
namespace Go.Proofs.Ytnkjfandknndkaa
open Go.RowKit

/-- The first k limbs of a row with p limbs of 0 below it, as a number. -/
def pvs (xs : List Int) (p : Nat) : Nat → Int
  | 0 => 0
  | k + 1 => pvs xs p k + lim xs ((k : Int) - p) * BB ^ k

theorem pvs_low (xs : List Int) (p k : Nat) (h : k ≤ p) : pvs xs p k = 0 := by
  induction k with
  | zero => rfl
  | succ k ih => rw [pvs, ih (by omega), lim_neg _ _ (by omega)]; simp

theorem pvs_high (xs : List Int) (p k : Nat) : pvs xs p (p + k) = pv xs k * BB ^ p := by
  induction k with
  | zero => rw [Nat.add_zero, pvs_low _ _ _ (Nat.le_refl _), pv]; simp
  | succ k ih =>
    rw [← Nat.add_assoc, pvs, ih, pv, show ((p + k : Nat) : Int) - p = (k : Int) by omega, Nat.add_comm p k, pw_add]
    grind

/-- What the closure of scale holds while the limbs zs have been told. -/
def ScaleInv (w0 : World) (pa pp px pc : Nat) (av : Value) (p : Nat) (x : Int) (xs : List Int) (zs : List Int) (wr : World) : Prop :=
  Below w0.heap.size w0 wr ∧ wr.heap[pa]? = some (.cells #[av] 22 (0, 0)) ∧ wr.heap[pp]? = some (.cells #[.int .i64 p] 3 (0, 0)) ∧ wr.heap[px]? = some (.cells #[.int .u64 x] 50 (0, 0)) ∧
    ∃ c, wr.heap[pc]? = some (.cells #[.int .u64 c] 50 (0, 0)) ∧ 0 ≤ c ∧ c < BB ∧ val zs + c * BB ^ zs.length = pvs xs p zs.length * x

theorem scale_step {v c l x q P : Int} (h : v + c * P = q * x) : v + ((l * x + c) % BB) * P + ((l * x + c) / BB) * (P * BB) = (q + l * P) * x := by
  have h1 := Int.emod_add_mul_ediv (l * x + c) BB
  have h2 : ((l * x + c) % BB + BB * ((l * x + c) / BB)) * P = (l * x + c) * P := by rw [h1]
  grind

theorem scale_end {v c a x P Q : Int} (h : v + c * (P * Q * BB) = a * Q * x) (hv : 0 ≤ v) (hP : 0 < P) (hQ : 0 < Q) (ha : a < P) (ha0 : 0 ≤ a) (hx : x < BB) (hc : 0 ≤ c) : v = a * Q * x := by
  rcases Int.lt_or_eq_of_le hc with h' | h'
  · exfalso
    have h1 : (P * Q * BB) ≤ c * (P * Q * BB) := by
      have hpos : 0 ≤ P * Q * BB := Int.mul_nonneg (Int.le_of_lt (Int.mul_pos hP hQ)) (Int.le_of_lt BB_pos)
      have : (1 : Int) * (P * Q * BB) ≤ c * (P * Q * BB) := Int.mul_le_mul_of_nonneg_right h' hpos
      simpa using this
    have h2 : a * Q * x < P * Q * BB := by
      have q1 : a * Q < P * Q := Int.mul_lt_mul_of_pos_right ha hQ
      have q2 : a * Q * x ≤ a * Q * BB := Int.mul_le_mul_of_nonneg_left (Int.le_of_lt hx) (Int.mul_nonneg ha0 (Int.le_of_lt hQ))
      have q3 : a * Q * BB < P * Q * BB := Int.mul_lt_mul_of_pos_right q1 BB_pos
      omega
    omega
  · subst h'; simpa using h

set_option maxHeartbeats 400000 in
theorem scale_core (ao : Option Addr) (na ca pa pp px pc p : Nat) (N x : Int) (xs : List Int) (w0 W : World) (ha : RowAt w0 ao na ca xs) (hna : na ≤ 400000) (hp : p ≤ 400000) (hx0 : 0 ≤ x) (hx1 : x < BB) (hN : N = ((p + na + 1 : Nat) : Int))
    (hbel : Below w0.heap.size w0 W) (hpa : W.heap[pa]? = some (.cells #[.slice ao na ca] 22 (0, 0))) (hpp : W.heap[pp]? = some (.cells #[.int .i64 p] 3 (0, 0))) (hpx : W.heap[px]? = some (.cells #[.int .u64 x] 50 (0, 0))) (hpc : W.heap[pc]? = some (.cells #[.int .u64 0] 50 (0, 0)))
    (hca : w0.heap.size ≤ pc) (hac : pa ≠ pc) (hbc : pp ≠ pc) (hxc : px ≠ pc) :
    Calls Try.prog 84 #[.int .i64 N, .func (.func 90) #[] #[.pointer (some ⟨pa, 0, none⟩), .pointer (some ⟨pp, 0, none⟩), .pointer (some ⟨px, 0, none⟩), .pointer (some ⟨pc, 0, none⟩)]] W fun e w' =>
      ∃ ro m cap r, e = .returned (.slice ro m cap) ∧ RowAt w' ro m cap r ∧ Num r (val xs * BB ^ p * x) ∧ m ≤ p + na + 1 ∧ Below w0.heap.size w0 w' := by
  subst hN
  refine (build_any (p + na + 1) 90 _ (ScaleInv w0 pa pp px pc (.slice ao na ca) p x xs) W (by omega) ?_ (fun _ _ => by simp) ?_ ?_).mono ?_
  · exact ⟨hbel, hpa, hpp, hpx, 0, hpc, Int.le_refl _, BB_pos, by simp [val, pvs]⟩
  · rintro zs w1 w2 ⟨h1, h2, h3, h3', c, h4, h5⟩ hb12
    exact ⟨h1.trans (hb12.mono hbel.size), heapAt hb12 (lt_of_block hpa) h2, heapAt hb12 (lt_of_block hpp) h3, heapAt hb12 (lt_of_block hpx) h3', c, heapAt hb12 (lt_of_block hpc) h4, h5⟩
  · rintro zs wr hlt ⟨h1, h2, h3, h3', c, h4, hc0, hc1, hval⟩
    have lx := lim_bd ha.limbs (zs.length - p)
    have hm := limb_mul_le lx.1 hx0 lx.2 hx1
    have hcb := scale_bd (lim xs (zs.length - p) * x) c hm.1 hm.2 hc0 hc1
    have hmod := mod_bd (lim xs (zs.length - p) * x + c)
    refine (scale1_any ao na ca pa pp px pc p xs x zs.length c wr (by omega) (by omega) hx0 hx1 (ha.below h1) (cell_of_one h2) (cell_of_one h3) (cell_of_one h3') (cell_of_one h4) (free_of_one h4) hc0 hc1).mono ?_
    rintro e w' ⟨rfl, hq⟩
    refine ⟨_, rfl, hmod.1, hmod.2, ⟨?_, ?_, ?_, ?_, _, ?_, hcb.1, hcb.2, ?_⟩, ?_, ?_⟩
    · exact hq.below (h1.setCell hca _)
    · rw [hq.heap, Below.heap_setCell _ _ _ _ hac]; exact h2
    · rw [hq.heap, Below.heap_setCell _ _ _ _ hbc]; exact h3
    · rw [hq.heap, Below.heap_setCell _ _ _ _ hxc]; exact h3'
    · rw [hq.heap]; exact one_setCell h4
    · rw [val_snoc, List.length_append, List.length_singleton, pw_succ, pvs]
      exact scale_step hval
    · intro k hk
      rw [hq.heap, Below.heap_setCell _ _ _ _ (by have := lt_of_block hpc; show k ≠ pc; omega)]
    · rw [hq.heap]; simp [World.setCell]
  · rintro e w' ⟨ro, cap, m, zs, rfl, hlen, hlm, htl, hrow, h1, -, -, -, c, -, hc0, hc1, hval⟩
    refine ⟨ro, m, cap, _, rfl, hrow, ?_, by have := htl.1; omega, h1⟩
    have hnum := Num.ofTl hlm htl
    have vb := val_bd hlm
    have hb := val_bd ha.limbs
    rw [ha.len] at hb
    have e : val zs = val xs * BB ^ p * x := by
      rw [hlen, Nat.add_assoc, pvs_high, pv_val xs _ (by have := ha.len; omega), ← Nat.add_assoc, pw_succ, pw_add, Int.mul_comm (BB ^ p)] at hval
      exact scale_end hval vb.1 (pw_pos _) (pw_pos _) hb.2 hb.1 hx1 hc0
    rw [e] at hnum
    exact hnum

theorem below4 (w : World) (o o' o'' o3 : Obj) : Below w.heap.size w ((((w.alloc o).alloc o').alloc o'').alloc o3) := ((((Below.refl _ _).alloc (Nat.le_refl _) o).alloc (by simp) o').alloc (by simp <;> omega) o'').alloc (by simp <;> omega) o3

theorem four_blocks (w : World) (o o' o'' o3 : Obj) : ((((w.alloc o).alloc o').alloc o'').alloc o3).heap[w.heap.size]? = some o ∧ ((((w.alloc o).alloc o').alloc o'').alloc o3).heap[w.heap.size + 1]? = some o' ∧
    ((((w.alloc o).alloc o').alloc o'').alloc o3).heap[w.heap.size + 1 + 1]? = some o'' ∧ ((((w.alloc o).alloc o').alloc o'').alloc o3).heap[w.heap.size + 1 + 1 + 1]? = some o3 := by
  refine ⟨?_, ?_, ?_, ?_⟩
  · rw [Below.heap_alloc _ _ _ (by simp <;> omega), Below.heap_alloc _ _ _ (by simp <;> omega), Below.heap_alloc _ _ _ (by simp)]; exact heap_alloc_new w _
  · rw [Below.heap_alloc _ _ _ (by simp <;> omega), Below.heap_alloc _ _ _ (by simp)]; have := heap_alloc_new (w.alloc o) o'; simpa using this
  · rw [Below.heap_alloc _ _ _ (by simp)]; have := heap_alloc_new ((w.alloc o).alloc o') o''; simpa using this
  · have := heap_alloc_new (((w.alloc o).alloc o').alloc o'') o3; simpa using this

set_option maxHeartbeats 400000 in
theorem scale_any (ao : Option Addr) (na ca p : Nat) (x : Int) (xs : List Int) (w : World) (ha : RowAt w ao na ca xs) (hna : na ≤ 400000) (hp : p ≤ 400000) (hx0 : 0 ≤ x) (hx1 : x < BB) :
    Calls Try.prog 76 #[.slice ao na ca, .int .u64 x, .int .i64 p] w fun e w' => ∃ ro m cap r, e = .returned (.slice ro m cap) ∧ RowAt w' ro m cap r ∧ Num r (val xs * BB ^ p * x) ∧ m ≤ p + na + 1 ∧ Below w.heap.size w w' := by
  have hmf : ∀ (fn : Fn) (first cap : Array Value) (w : World), (Instr.makeFunc fn first cap).run Try.prog w = .ok (.func fn first cap) w := fun _ _ _ _ => rfl
  have H4 := four_blocks w (Obj.cells #[Value.slice ao na ca] 22) (Obj.cells #[Value.int IntKind.u64 x] 50) (Obj.cells #[Value.int IntKind.i64 p] 3) (Obj.cells #[Value.int IntKind.u64 0] 50)
  have H : ∀ N, N = ((p + na + 1 : Nat) : Int) → _ := fun N hN => scale_core ao na ca w.heap.size (w.heap.size + 1 + 1) (w.heap.size + 1) (w.heap.size + 1 + 1 + 1) p N x xs w
    ((((w.alloc (Obj.cells #[Value.slice ao na ca] 22)).alloc (Obj.cells #[Value.int IntKind.u64 x] 50)).alloc (Obj.cells #[Value.int IntKind.i64 p] 3)).alloc (Obj.cells #[Value.int IntKind.u64 0] 50)) ha hna hp hx0 hx1 hN (below4 _ _ _ _ _)
    H4.1 H4.2.2.1 H4.2.1 H4.2.2.2 (by omega) (by omega) (by omega) (by omega)
  have HH : Hid _ := H
  have HX : Hid (x < BB) := hx1
  clear H H4 hx1
  go_enter Try.func76, Try.ntmps76
  go_wp2_with fail
  refine (HH.out _ (by omega)).mono ?_
  rintro e w1 ⟨ro, m, cap, r, rfl, h1, h2, h3, h4⟩
  go_wp2
  go_ret
  exact ⟨ro, m, cap, r, rfl, h1, h2, h3, h4⟩
end Go.Proofs.Ytnkjfandknndkaa
