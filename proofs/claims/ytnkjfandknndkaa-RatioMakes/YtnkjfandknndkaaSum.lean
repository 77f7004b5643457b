/-
  limb.sum: all rows, added.
-/
import Derived.Test.YtnkjfandknndkaaSum1
namespace Go.Proofs.Ytnkjfandknndkaa
open Go.RowKit

/-- What the closure of sum holds while the limbs zs have been told. -/
def SumInv (w0 : World) (g k pc pr : Nat) (rs : List Rw) (zs : List Int) (wr : World) : Prop :=
  Below w0.heap.size w0 wr ∧ wr.heap[pr]? = some (.cells #[.slice (some ⟨g, 0, none⟩) k k] 85 (0, 0)) ∧
    ∃ c, wr.heap[pc]? = some (.cells #[.int .u64 c] 50 (0, 0)) ∧ 0 ≤ c ∧ c ≤ k ∧ val zs + c * BB ^ zs.length = spv (rs.map Rw.xs) zs.length

theorem k_BB {k : Nat} (h : k ≤ 900000) : (k : Int) < BB := by unfold BB; omega

set_option maxHeartbeats 400000 in
theorem sum_core (g k pc pr L : Nat) (N : Int) (rs : List Rw) (w0 W : World) (hrs : RowsAt w0 g rs) (hk : rs.length = k) (hk1 : k ≤ 900000) (hL : ∀ j (h : j < rs.length), rs[j].n ≤ L) (hL1 : L ≤ 900000) (hN : N = ((L + 1 : Nat) : Int))
    (hbel : Below w0.heap.size w0 W) (hpr : W.heap[pr]? = some (.cells #[.slice (some ⟨g, 0, none⟩) k k] 85 (0, 0))) (hpc : W.heap[pc]? = some (.cells #[.int .u64 0] 50 (0, 0)))
    (hca : w0.heap.size ≤ pc) (hac : pr ≠ pc) :
    Calls Try.prog 84 #[.int .i64 N, .func (.func 92) #[] #[.pointer (some ⟨pc, 0, none⟩), .pointer (some ⟨pr, 0, none⟩)]] W fun e w' =>
      ∃ ro m cap r, e = .returned (.slice ro m cap) ∧ RowAt w' ro m cap r ∧ Num r (sval (rs.map Rw.xs)) ∧ m ≤ L + 1 ∧ Below w0.heap.size w0 w' := by
  subst hN
  have hlen : ∀ xs ∈ rs.map Rw.xs, xs.length ≤ L := by
    intro xs hxs
    obtain ⟨r, hr, rfl⟩ := List.mem_map.1 hxs
    obtain ⟨j, hj, rfl⟩ := List.getElem_of_mem hr
    rw [(hrs.row j hj).len]
    exact hL j hj
  refine (build_any (L + 1) 92 _ (SumInv w0 g k pc pr rs) W (by omega) ?_ (fun _ _ => by simp) ?_ ?_).mono ?_
  · exact ⟨hbel, hpr, 0, hpc, Int.le_refl _, by omega, by simp [val, spv_zero]⟩
  · rintro zs w1 w2 ⟨h1, h2, c, h4, h5⟩ hb12
    exact ⟨h1.trans (hb12.mono hbel.size), heapAt hb12 (lt_of_block hpr) h2, c, heapAt hb12 (lt_of_block hpc) h4, h5⟩
  · rintro zs wr hlt ⟨h1, h2, c, h4, hc0, hc1, hval⟩
    have hB := k_BB hk1
    have ht := tot_bd hrs.limbs zs.length
    rw [List.length_map, hk] at ht
    have hcb := sum_carry hc0 hc1 ht.1 ht.2
    have hmod := mod_bd (c + tot (rs.map Rw.xs) zs.length)
    refine (sum1_any g k pc pr rs zs.length c wr (by omega) hk hk1 (hrs.below h1) (cell_of_one h2) (cell_of_one h4) (free_of_one h4) hc0 (by omega)).mono ?_
    rintro e w' ⟨rfl, hq⟩
    refine ⟨_, rfl, hmod.1, hmod.2, ⟨?_, ?_, _, ?_, hcb.1, hcb.2, ?_⟩, ?_, ?_⟩
    · exact hq.below (h1.setCell hca _)
    · rw [hq.heap, Below.heap_setCell _ _ _ _ hac]; exact h2
    · rw [hq.heap]; exact one_setCell h4
    · rw [val_snoc, List.length_append, List.length_singleton, pw_succ, spv_succ]
      exact sum_step hval
    · intro k' hk'
      rw [hq.heap, Below.heap_setCell _ _ _ _ (by have := lt_of_block hpc; show k' ≠ pc; omega)]
    · rw [hq.heap]; simp [World.setCell]
  · rintro e w' ⟨ro, cap, m, zs, rfl, hzl, hlm, htl, hrow, h1, -, c, -, hc0, hc1, hval⟩
    refine ⟨ro, m, cap, _, rfl, hrow, ?_, by have := htl.1; omega, h1⟩
    have hnum := Num.ofTl hlm htl
    have vb := val_bd hlm
    have sb := sval_bd hrs.limbs L hlen
    rw [List.length_map, hk] at sb
    have e : val zs = sval (rs.map Rw.xs) := by
      rw [hzl, spv_sval _ _ (fun xs hxs => Nat.le_succ_of_le (hlen xs hxs)), pw_succ] at hval
      exact sum_end hval vb.1 (pw_pos L) hc0 sb.2 (Int.le_of_lt (k_BB hk1))
    rw [e] at hnum
    exact hnum

theorem two_blocks (w : World) (o o' : Obj) : ((w.alloc o).alloc o').heap[w.heap.size]? = some o ∧ ((w.alloc o).alloc o').heap[w.heap.size + 1]? = some o' := by
  refine ⟨?_, ?_⟩
  · rw [Below.heap_alloc _ _ _ (by simp)]; exact heap_alloc_new w _
  · have := heap_alloc_new (w.alloc o) o'; simpa using this
theorem below2 (w : World) (o o' : Obj) : Below w.heap.size w ((w.alloc o).alloc o') := ((Below.refl _ _).alloc (Nat.le_refl _) o).alloc (by simp) o'

set_option maxHeartbeats 1000000 in
theorem sum_any (g k M : Nat) (rs : List Rw) (w : World) (hrs : RowsAt w g rs) (hk : rs.length = k) (hk1 : k ≤ 900000) (hM : ∀ j (h : j < rs.length), rs[j].n ≤ M) (hM1 : M ≤ 900000) :
    Calls Try.prog 77 #[.slice (some ⟨g, 0, none⟩) k k] w fun e w' => ∃ ro m cap r, e = .returned (.slice ro m cap) ∧ RowAt w' ro m cap r ∧ Num r (sval (rs.map Rw.xs)) ∧ m ≤ M + 1 ∧ Below w.heap.size w w' := by
  have hmf : ∀ (fn : Fn) (first cap : Array Value) (w : World), (Instr.makeFunc fn first cap).run Try.prog w = .ok (.func fn first cap) w := fun _ _ _ _ => rfl
  have H4 := two_blocks w (Obj.cells #[.slice (some ⟨g, 0, none⟩) k k] 85) (Obj.cells #[Value.int IntKind.u64 0] 50)
  have H : ∀ L N, (∀ j (h : j < rs.length), rs[j].n ≤ L) → L ≤ 900000 → N = ((L + 1 : Nat) : Int) → _ := fun L N h1 h2 h3 => sum_core g k (w.heap.size + 1) w.heap.size L N rs w
    ((w.alloc (Obj.cells #[.slice (some ⟨g, 0, none⟩) k k] 85)).alloc (Obj.cells #[Value.int IntKind.u64 0] 50)) hrs hk hk1 h1 h2 h3 (below2 _ _ _) H4.1 H4.2 (by omega) (by omega)
  have HH : Hid _ := H
  have HR : Hid (RowsAt (w.alloc (Obj.cells #[.slice (some ⟨g, 0, none⟩) k k] 85)) g rs) := hrs.below ((Below.refl _ _).alloc (Nat.le_refl _) _)
  have HK : Hid (rs.length = k) := hk
  have HM : Hid (∀ j (h : j < rs.length), rs[j].n ≤ M) := hM
  clear H H4 hrs hk hM
  go_enter Try.func77, Try.ntmps77
  go_wp2
  go_loop [3, 5, 9] (fun l _ j => ∃ (q L : Nat), q ≤ k ∧ j = .int .i64 q ∧ l = .int .i64 L ∧ L ≤ M ∧ (∀ j (h : j < rs.length), j < q → rs[j].n ≤ L)) (fun _ _ j => k - (intOf j).toNat)
  case atStart => exact ⟨0, 0, Nat.zero_le _, rfl, rfl, Nat.zero_le _, fun j h h' => absurd h' (Nat.not_lt_zero _)⟩
  case round =>
    obtain ⟨q, L, hq, rfl, rfl, hLM, hz⟩ := hrel
    have HZ : Hid (∀ j (h : j < rs.length), j < q → rs[j].n ≤ L) := hz
    clear hz
    by_cases hlt : q < k
    · have hql : q < rs.length := by have := HK.out; omega
      have hcell := HR.out.cell q hql
      have hnM := HM.out q hql
      obtain ⟨n, hn⟩ : ∃ n, n = rs[q].n := ⟨_, rfl⟩
      rw [← hn] at hcell hnM
      generalize rs[q].ao = ao at hcell
      generalize rs[q].cap = cap at hcell
      have HN : Hid (n = rs[q].n) := hn
      have HQ : Hid (q < rs.length) := hql
      clear hn
      rcases Nat.lt_or_ge L n with hLn | hLn
      · go_wp2_with fail
        go_round
        case rel =>
          refine ⟨q + 1, n, by omega, by go_num, rfl, hnM, fun j h hj => ?_⟩
          by_cases e : j = q
          · subst e; rw [HN.out]; exact Nat.le_refl _
          · have := HZ.out j h (by omega); omega
        case measure => simp [intOf]; omega
      · go_wp2_with fail
        go_round
        case rel =>
          refine ⟨q + 1, L, by omega, by go_num, rfl, hLM, fun j h hj => ?_⟩
          by_cases e : j = q
          · subst e; rw [← HN.out]; exact hLn
          · exact HZ.out j h (by omega)
        case measure => simp [intOf]; omega
    · go_wp2_with fail
      refine (HH.out L _ (fun j h => HZ.out j h (by have := HK.out; omega)) (by omega) (by omega)).mono ?_
      rintro e w1 ⟨ro, m, cap, r, rfl, h1, h2, h3, h4⟩
      go_wp2
      go_ret
      exact ⟨ro, m, cap, r, rfl, h1, h2, by omega, h4⟩
end Go.Proofs.Ytnkjfandknndkaa
