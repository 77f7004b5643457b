/-
  Joined: Add1 · Sum1 · Sum · Scale1 · Scale · Mul · Sub1 · Sub · Less · Shift · Trim · Add.
-/
import Derived.Deep.DrawnRows
import Derived.Deep.RegionHeld3
import Derived.Test.YtnedghhcidohnaaGreatJC1
import Derived.Test.YtnedghhcidohnaaGreatJA1
import Derived.Test.YtnedghhcidohnaaGreatJB1

/-! The closure of limb.Add: one limb of a sum, and the carry that it leaves. -/
namespace Go.Proofs.YtnedghhcidohnaaGreat
open Go.RowKit
attribute [local go_sem ↓] Go.wp_at_zero Go.wp_at_succ

theorem add64_any (x y c : Int) (w : World) (hx : 0 ≤ x) (hy : 0 ≤ y) (hc0 : 0 ≤ c) (hc : c ≤ 1) :
    (callFunc 155 #[.int .u64 x, .int .u64 y, .int .u64 c]).run Tryz.prog w = .ok (.value (.tuple #[.int .u64 ((x + y + c) % BB), .int .u64 ((x + y + c) / BB)])) w := by
  rw [run_callFunc_extern (e := add64Entry) Tryz.func155 (by kernel_rfl) rfl rfl rfl, run_add64 x y c hx hy hc0 hc w]
  rfl

end Go.Proofs.YtnedghhcidohnaaGreat

/-! The closure of limb.sum: one limb of a sum of rows, and the carry that it leaves. -/
namespace Go.Proofs.YtnedghhcidohnaaGreat
open Go.RowKit

/-- A row in memory: where it begins, its length, its capacity, its limbs. -/
structure Rw where
  ao : Option Addr
  n : Nat
  cap : Nat
  xs : List Int

def Rw.v (r : Rw) : Value := .slice r.ao r.n r.cap

/-- Block g holds the rows rs, one behind the other. -/
structure RowsAt (w : World) (g : Nat) (rs : List Rw) : Prop where
  lt : g < w.heap.size
  cell : ∀ j (h : j < rs.length), w.cell? ⟨g, j, none⟩ = some (.slice rs[j].ao rs[j].n rs[j].cap)
  row : ∀ j (h : j < rs.length), RowAt w rs[j].ao rs[j].n rs[j].cap rs[j].xs

theorem RowsAt.below {w w' : World} {g : Nat} {rs : List Rw} (h : RowsAt w g rs) (hb : Below w.heap.size w w') : RowsAt w' g rs :=
  ⟨Nat.lt_of_lt_of_le h.lt hb.size, fun j hj => (hb.cell (p := ⟨g, j, none⟩) h.lt).trans (h.cell j hj), fun j hj => (h.row j hj).below hb⟩

theorem RowsAt.limbs {w : World} {g : Nat} {rs : List Rw} (h : RowsAt w g rs) : ∀ xs ∈ rs.map Rw.xs, Limbs xs := by
  intro xs hxs
  obtain ⟨r, hr, rfl⟩ := List.mem_map.1 hxs
  obtain ⟨j, hj, rfl⟩ := List.getElem_of_mem hr
  exact (h.row j hj).limbs

theorem tot_take (rs : List Rw) (i : Int) (j : Nat) (h : j < rs.length) : tot ((rs.map Rw.xs).take (j + 1)) i = tot ((rs.map Rw.xs).take j) i + lim rs[j].xs i := by
  rw [List.take_succ_eq_append_getElem (by simpa using h), tot_snoc]
  simp

theorem sum1_round {tv nv l s s' : Int} {q : Nat} (ht : 0 ≤ tv) (ht1 : tv < BB) (hl : 0 ≤ l) (hl1 : l < BB) (hn0 : 0 ≤ nv) (hn : nv ≤ q) (hq : q ≤ 900000) (h : tv + nv * BB = s) (hs : s' = s + l) :
    0 ≤ (tv + l) % BB ∧ 0 ≤ IntKind.u64.wrap (nv + (tv + l) / BB) ∧ IntKind.u64.wrap (nv + (tv + l) / BB) ≤ ((q + 1 : Nat) : Int) ∧ (tv + l) % BB < BB ∧ (tv + l) % BB + IntKind.u64.wrap (nv + (tv + l) / BB) * BB = s' := by
  have e : IntKind.u64.wrap (nv + (tv + l) / BB) = nv + (tv + l) / BB := by
    rw [wrapU, Int.emod_eq_of_lt]
    · unfold BB at *; omega
    · unfold BB at *; omega
  rw [e]
  unfold BB at *
  omega

set_option maxHeartbeats 1000000 in
theorem sum1_any (g k pc pr : Nat) (rs : List Rw) (i : Nat) (c : Int) (w : World) (hi : i ≤ 1000000) (hk : rs.length = k) (hk1 : k ≤ 900000)
    (hrs : RowsAt w g rs) (hpr : w.cell? ⟨pr, 0, none⟩ = some (.slice (some ⟨g, 0, none⟩) k k))
    (hpc : w.cell? ⟨pc, 0, none⟩ = some (.int .u64 c)) (hfc : w.frozen? ⟨pc, 0, none⟩ = false) (hc0 : 0 ≤ c) (hc1 : c < BB) :
    Calls Tryz.prog 156 #[.int .i64 i, .pointer (some ⟨pc, 0, none⟩), .pointer (some ⟨pr, 0, none⟩)] w fun e w' =>
      e = .returned (.int .u64 ((c + tot (rs.map Rw.xs) i) % BB)) ∧ Eqw w' (w.setCell ⟨pc, 0, none⟩ (.int .u64 ((c + tot (rs.map Rw.xs) i) / BB))) := by
  have HK : Hid (rs.length = k) := hk
  have HR : Hid (RowsAt w g rs) := hrs
  have HC : Hid (0 ≤ c ∧ c < BB) := ⟨hc0, hc1⟩
  clear hk hrs hc0 hc1
  go_enter Tryz.func156, Tryz.ntmps156
  go_wp2
  go_loop [5, 6, 8, 9, 13] (fun t nx _ _ j => ∃ (q : Nat) (tv nv : Int), q ≤ k ∧ j = .int .i64 q ∧ t = .int .u64 tv ∧ nx = .int .u64 nv ∧ 0 ≤ tv ∧ 0 ≤ nv ∧ nv ≤ q ∧ (tv < BB ∧ tv + nv * BB = c + tot ((rs.map Rw.xs).take q) i)) (fun _ _ _ _ j => k - (intOf j).toNat)
  case atStart => exact ⟨0, c, 0, Nat.zero_le _, rfl, rfl, rfl, HC.out.1, Int.le_refl _, Int.le_refl _, HC.out.2, by simp [tot]⟩
  case round =>
    obtain ⟨q, tv, nv, hq, rfl, rfl, rfl, ht0, hn0, hn1, heq⟩ := hrel
    have HE : Hid (tv < BB ∧ tv + nv * BB = c + tot ((rs.map Rw.xs).take q) i) := heq
    clear heq
    by_cases hlt : q < k
    · have hql : q < rs.length := by have := HK.out; omega
      have hcell := HR.out.cell q hql
      have hrow := HR.out.row q hql
      have htt := tot_take rs i q hql
      generalize rs[q].ao = ao at *
      generalize rs[q].n = n at *
      generalize rs[q].cap = cap at *
      generalize rs[q].xs = xs at *
      have hl := lim_bd hrow.limbs i
      have hadd := fun w => add64_any tv (lim xs i) 0 w ht0 hl.1 (Int.le_refl _) (by omega)
      have HRO : Hid (RowAt w ao n cap xs) := hrow
      have HT : Hid _ := htt
      have HL : Hid (0 ≤ lim xs i ∧ lim xs i < BB) := hl
      clear hrow htt hl hql
      go_wp2_with fail
      refine (at_any _ _ _ xs _ _ HRO.out (by omega) (by omega)).mono ?_
      rintro e w1 ⟨rfl, hw⟩
      subst hw
      go_wp2_with fail
      go_roundw
      case rel =>
        have hr := sum1_round ht0 HE.out.1 HL.out.1 HL.out.2 hn0 hn1 (by omega) HE.out.2 (show c + tot ((rs.map Rw.xs).take (q + 1)) i = _ by rw [HT.out, ← Int.add_assoc])
        exact ⟨q + 1, _, _, by omega, by go_num, rfl, rfl, hr⟩
      case measure => simp [intOf]; omega
    · have hqk : q = k := by omega
      have HQ : Hid (q = k) := hqk
      clear hqk
      go_wp2_with fail
      go_ret
      have he := HE.out
      rw [HQ.out, List.take_of_length_le (by have := HK.out; simp; omega)] at he
      obtain ⟨e1, e2⟩ := div_of he.2 ht0 he.1
      refine ⟨ret_int e1, ?_⟩
      rw [← e2]
      exact ⟨rfl, rfl, rfl, rfl⟩
end Go.Proofs.YtnedghhcidohnaaGreat

/-! limb.sum: all rows, added. -/
namespace Go.Proofs.YtnedghhcidohnaaGreat
open Go.RowKit

/-- What the closure of sum holds while the limbs zs have been told. -/
def SumInv (w0 : World) (g k pc pr : Nat) (rs : List Rw) (zs : List Int) (wr : World) : Prop :=
  Below w0.heap.size w0 wr ∧ wr.heap[pr]? = some (.cells #[.slice (some ⟨g, 0, none⟩) k k] 178 (0, 0)) ∧
    ∃ c, wr.heap[pc]? = some (.cells #[.int .u64 c] 56 (0, 0)) ∧ 0 ≤ c ∧ c ≤ k ∧ val zs + c * BB ^ zs.length = spv (rs.map Rw.xs) zs.length

theorem k_BB {k : Nat} (h : k ≤ 900000) : (k : Int) < BB := by unfold BB; omega

set_option maxHeartbeats 400000 in
theorem sum_core (g k pc pr L : Nat) (N : Int) (rs : List Rw) (w0 W : World) (hrs : RowsAt w0 g rs) (hk : rs.length = k) (hk1 : k ≤ 900000) (hL : ∀ j (h : j < rs.length), rs[j].n ≤ L) (hL1 : L ≤ 900000) (hN : N = ((L + 1 : Nat) : Int))
    (hbel : Below w0.heap.size w0 W) (hpr : W.heap[pr]? = some (.cells #[.slice (some ⟨g, 0, none⟩) k k] 178 (0, 0))) (hpc : W.heap[pc]? = some (.cells #[.int .u64 0] 56 (0, 0)))
    (hca : w0.heap.size ≤ pc) (hac : pr ≠ pc) :
    Calls Tryz.prog 140 #[.int .i64 N, .func (.func 156) #[] #[.pointer (some ⟨pc, 0, none⟩), .pointer (some ⟨pr, 0, none⟩)]] W fun e w' =>
      ∃ ro m cap r, e = .returned (.slice ro m cap) ∧ RowAt w' ro m cap r ∧ Num r (sval (rs.map Rw.xs)) ∧ m ≤ L + 1 ∧ Below w0.heap.size w0 w' := by
  subst hN
  have hlen : ∀ xs ∈ rs.map Rw.xs, xs.length ≤ L := by
    intro xs hxs
    obtain ⟨r, hr, rfl⟩ := List.mem_map.1 hxs
    obtain ⟨j, hj, rfl⟩ := List.getElem_of_mem hr
    rw [(hrs.row j hj).len]
    exact hL j hj
  refine (build_any (L + 1) 156 _ (SumInv w0 g k pc pr rs) W (by omega) ?_ (fun _ _ => by simp) ?_ ?_).mono ?_
  · exact ⟨hbel, hpr, 0, hpc, Int.le_refl _, by omega, by simp [val, spv_zero]⟩
  · rintro zs w1 w2 ⟨h1, h2, c, h4, h5⟩ hb12
    exact ⟨h1.trans (hb12.mono hbel.size), heapAt hb12 (lt_of_block hpr) h2, c, heapAt hb12 (lt_of_block hpc) h4, h5⟩
  · rintro zs wr hlt ⟨h1, h2, c, h4, hc0, hc1, hval⟩
    have hB := k_BB hk1
    have ht := tot_bd hrs.limbs zs.length
    rw [List.length_map, hk] at ht
    have hcb := sum_carry hc0 hc1 ht.1 ht.2
    have hmod := mod_bd (c + tot (rs.map Rw.xs) zs.length)
    refine (sum1_any g k pc pr rs zs.length c wr (by omega) hk hk1 (hrs.below h1) (cell_of_one h2) (cell_of_one h4) (free_of_one h4) hc0 (by omega)).mono ?_
    rintro e w' ⟨rfl, hq⟩
    refine ⟨_, rfl, hmod.1, hmod.2, ⟨?_, ?_, _, ?_, hcb.1, hcb.2, ?_⟩, ?_, ?_⟩
    · exact hq.below (h1.setCell hca _)
    · rw [hq.heap, Below.heap_setCell _ _ _ _ hac]; exact h2
    · rw [hq.heap]; exact one_setCell h4
    · rw [val_snoc, List.length_append, List.length_singleton, pw_succ, spv_succ]
      exact sum_step hval
    · intro k' hk'
      rw [hq.heap, Below.heap_setCell _ _ _ _ (by have := lt_of_block hpc; show k' ≠ pc; omega)]
    · rw [hq.heap]; simp [World.setCell]
  · rintro e w' ⟨ro, cap, m, zs, rfl, hzl, hlm, htl, hrow, h1, -, c, -, hc0, hc1, hval⟩
    refine ⟨ro, m, cap, _, rfl, hrow, ?_, by have := htl.1; omega, h1⟩
    have hnum := Num.ofTl hlm htl
    have vb := val_bd hlm
    have sb := sval_bd hrs.limbs L hlen
    rw [List.length_map, hk] at sb
    have e : val zs = sval (rs.map Rw.xs) := by
      rw [hzl, spv_sval _ _ (fun xs hxs => Nat.le_succ_of_le (hlen xs hxs)), pw_succ] at hval
      exact sum_end hval vb.1 (pw_pos L) hc0 sb.2 (Int.le_of_lt (k_BB hk1))
    rw [e] at hnum
    exact hnum

theorem two_blocks (w : World) (o o' : Obj) : ((w.alloc o).alloc o').heap[w.heap.size]? = some o ∧ ((w.alloc o).alloc o').heap[w.heap.size + 1]? = some o' := by
  refine ⟨?_, ?_⟩
  · rw [Below.heap_alloc _ _ _ (by simp)]; exact heap_alloc_new w _
  · have := heap_alloc_new (w.alloc o) o'; simpa using this
theorem below2 (w : World) (o o' : Obj) : Below w.heap.size w ((w.alloc o).alloc o') := ((Below.refl _ _).alloc (Nat.le_refl _) o).alloc (by simp) o'

set_option maxHeartbeats 1000000 in
theorem sum_any (g k M : Nat) (rs : List Rw) (w : World) (hrs : RowsAt w g rs) (hk : rs.length = k) (hk1 : k ≤ 900000) (hM : ∀ j (h : j < rs.length), rs[j].n ≤ M) (hM1 : M ≤ 900000) :
    Calls Tryz.prog 149 #[.slice (some ⟨g, 0, none⟩) k k] w fun e w' => ∃ ro m cap r, e = .returned (.slice ro m cap) ∧ RowAt w' ro m cap r ∧ Num r (sval (rs.map Rw.xs)) ∧ m ≤ M + 1 ∧ Below w.heap.size w w' := by
  have hmf : ∀ (fn : Fn) (first cap : Array Value) (w : World), (Instr.makeFunc fn first cap).run Tryz.prog w = .ok (.func fn first cap) w := fun _ _ _ _ => rfl
  have H4 := two_blocks w (Obj.cells #[.slice (some ⟨g, 0, none⟩) k k] 178) (Obj.cells #[Value.int IntKind.u64 0] 56)
  have H : ∀ L N, (∀ j (h : j < rs.length), rs[j].n ≤ L) → L ≤ 900000 → N = ((L + 1 : Nat) : Int) → _ := fun L N h1 h2 h3 => sum_core g k (w.heap.size + 1) w.heap.size L N rs w
    ((w.alloc (Obj.cells #[.slice (some ⟨g, 0, none⟩) k k] 178)).alloc (Obj.cells #[Value.int IntKind.u64 0] 56)) hrs hk hk1 h1 h2 h3 (below2 _ _ _) H4.1 H4.2 (by omega) (by omega)
  have HH : Hid _ := H
  have HR : Hid (RowsAt (w.alloc (Obj.cells #[.slice (some ⟨g, 0, none⟩) k k] 178)) g rs) := hrs.below ((Below.refl _ _).alloc (Nat.le_refl _) _)
  have HK : Hid (rs.length = k) := hk
  have HM : Hid (∀ j (h : j < rs.length), rs[j].n ≤ M) := hM
  clear H H4 hrs hk hM
  go_enter Tryz.func149, Tryz.ntmps149
  go_wp2
  go_loop [3, 5, 9] (fun l _ j => ∃ (q L : Nat), q ≤ k ∧ j = .int .i64 q ∧ l = .int .i64 L ∧ L ≤ M ∧ (∀ j (h : j < rs.length), j < q → rs[j].n ≤ L)) (fun _ _ j => k - (intOf j).toNat)
  case atStart => exact ⟨0, 0, Nat.zero_le _, rfl, rfl, Nat.zero_le _, fun j h h' => absurd h' (Nat.not_lt_zero _)⟩
  case round =>
    obtain ⟨q, L, hq, rfl, rfl, hLM, hz⟩ := hrel
    have HZ : Hid (∀ j (h : j < rs.length), j < q → rs[j].n ≤ L) := hz
    clear hz
    by_cases hlt : q < k
    · have hql : q < rs.length := by have := HK.out; omega
      have hcell := HR.out.cell q hql
      have hnM := HM.out q hql
      obtain ⟨n, hn⟩ : ∃ n, n = rs[q].n := ⟨_, rfl⟩
      rw [← hn] at hcell hnM
      generalize rs[q].ao = ao at hcell
      generalize rs[q].cap = cap at hcell
      have HN : Hid (n = rs[q].n) := hn
      have HQ : Hid (q < rs.length) := hql
      clear hn
      rcases Nat.lt_or_ge L n with hLn | hLn
      · go_wp2_with fail
        go_round
        case rel =>
          refine ⟨q + 1, n, by omega, by go_num, rfl, hnM, fun j h hj => ?_⟩
          by_cases e : j = q
          · subst e; rw [HN.out]; exact Nat.le_refl _
          · have := HZ.out j h (by omega); omega
        case measure => simp [intOf]; omega
      · go_wp2_with fail
        go_round
        case rel =>
          refine ⟨q + 1, L, by omega, by go_num, rfl, hLM, fun j h hj => ?_⟩
          by_cases e : j = q
          · subst e; rw [← HN.out]; exact hLn
          · exact HZ.out j h (by omega)
        case measure => simp [intOf]; omega
    · go_wp2_with fail
      refine (HH.out L _ (fun j h => HZ.out j h (by have := HK.out; omega)) (by omega) (by omega)).mono ?_
      rintro e w1 ⟨ro, m, cap, r, rfl, h1, h2, h3, h4⟩
      go_wp2
      go_ret
      exact ⟨ro, m, cap, r, rfl, h1, h2, by omega, h4⟩
end Go.Proofs.YtnedghhcidohnaaGreat

/-! The closure of limb.scale: one limb of a product by a limb, and the carry that it leaves. -/
namespace Go.Proofs.YtnedghhcidohnaaGreat
open Go.RowKit

theorem scale_c (P c : Int) (h0 : 0 ≤ P) (hP : P ≤ (BB - 1) * (BB - 1)) (hc0 : 0 ≤ c) (hc : c < BB) : IntKind.u64.wrap (P / BB + (P % BB + c) / BB) = (P + c) / BB := by
  rw [wrapU]
  unfold BB at *
  omega
theorem scale_bd (P c : Int) (h0 : 0 ≤ P) (hP : P ≤ (BB - 1) * (BB - 1)) (hc0 : 0 ≤ c) (hc : c < BB) : 0 ≤ (P + c) / BB ∧ (P + c) / BB < BB := by
  unfold BB at *
  omega
theorem limb_mul_le {x y : Int} (hx : 0 ≤ x) (hy : 0 ≤ y) (hxB : x < BB) (hyB : y < BB) : 0 ≤ x * y ∧ x * y ≤ (BB - 1) * (BB - 1) :=
  ⟨Int.mul_nonneg hx hy, Int.mul_le_mul (by omega) (by omega) hy (by have := BB_pos; omega)⟩

theorem mul64_q (x y : Int) (w : World) (hx : 0 ≤ x) (hy : 0 ≤ y) (hxB : x < BB) (hyB : y < BB) :
    Calls Tryz.prog 154 #[.int .u64 x, .int .u64 y] w fun e w' => e = .returned (.tuple #[.int .u64 (x * y / BB), .int .u64 (x * y % BB)]) ∧ w' = w :=
  (mul64_any x y w hx hy hxB hyB).mono fun _ _ h => ⟨h.1, h.2.symm⟩

set_option maxHeartbeats 1000000 in
theorem scale1_any (ao : Option Addr) (na ca pa pp px pc p : Nat) (xs : List Int) (x : Int) (i : Nat) (c : Int) (w : World) (hi : i ≤ 3000000) (hp : p ≤ 1000000) (hx0 : 0 ≤ x) (hx1 : x < BB)
    (ha : RowAt w ao na ca xs) (hpa : w.cell? ⟨pa, 0, none⟩ = some (.slice ao na ca)) (hpp : w.cell? ⟨pp, 0, none⟩ = some (.int .i64 p)) (hpx : w.cell? ⟨px, 0, none⟩ = some (.int .u64 x))
    (hpc : w.cell? ⟨pc, 0, none⟩ = some (.int .u64 c)) (hfc : w.frozen? ⟨pc, 0, none⟩ = false) (hc0 : 0 ≤ c) (hc1 : c < BB) :
    Calls Tryz.prog 153 #[.int .i64 i, .pointer (some ⟨pa, 0, none⟩), .pointer (some ⟨pp, 0, none⟩), .pointer (some ⟨px, 0, none⟩), .pointer (some ⟨pc, 0, none⟩)] w fun e w' =>
      e = .returned (.int .u64 ((lim xs (i - p) * x + c) % BB)) ∧ Eqw w' (w.setCell ⟨pc, 0, none⟩ (.int .u64 ((lim xs (i - p) * x + c) / BB))) := by
  have lx := lim_bd ha.limbs (i - p)
  have hm := limb_mul_le lx.1 hx0 lx.2 hx1
  have hlo := mod_bd (lim xs (i - p) * x)
  have hadd := fun w => add64_any (lim xs (i - p) * x % BB) c 0 w hlo.1 hc0 (Int.le_refl _) (by omega)
  have hw : IntKind.i64.wrap ((i : Int) - (p : Int)) = (i : Int) - (p : Int) := IntWalk.i64_in _ ⟨by omega, by omega⟩
  have HA : Hid (RowAt w ao na ca xs) := ha
  have LX : Hid (0 ≤ lim xs (i - p) ∧ lim xs (i - p) < BB) := lx
  have HX : Hid (0 ≤ x ∧ x < BB) := ⟨hx0, hx1⟩
  have HM : Hid (0 ≤ lim xs (i - p) * x ∧ lim xs (i - p) * x ≤ (BB - 1) * (BB - 1)) := hm
  have HC : Hid (c < BB) := hc1
  clear ha lx hm hlo hx0 hx1 hc1
  go_enter Tryz.func153, Tryz.ntmps153
  go_wp2
  go_quiet ((first | (go_at_call 147; exact Calls.quiet_of_same (at_any _ _ _ xs _ _ (HA.out.drewN _) (by omega) (by omega))) | (go_at_call 154; exact Calls.quiet_of_same (mul64_q _ _ _ LX.out.1 HX.out.1 LX.out.2 HX.out.2))))
  go_wp2
  go_ret
  have hcc := scale_c (lim xs (i - p) * x) c HM.out.1 HM.out.2 hc0 HC.out
  refine ⟨ret_int rfl, ?_⟩
  rw [← hcc]
  exact ⟨rfl, rfl, rfl, rfl⟩
end Go.Proofs.YtnedghhcidohnaaGreat

/-! limb.scale: a row times a limb, with limbs of 0 below it. -/
namespace Go.Proofs.YtnedghhcidohnaaGreat
open Go.RowKit

/-- The first k limbs of a row with p limbs of 0 below it, as a number. -/
def pvs (xs : List Int) (p : Nat) : Nat → Int
  | 0 => 0
  | k + 1 => pvs xs p k + lim xs ((k : Int) - p) * BB ^ k

theorem pvs_low (xs : List Int) (p k : Nat) (h : k ≤ p) : pvs xs p k = 0 := by
  induction k with
  | zero => rfl
  | succ k ih => rw [pvs, ih (by omega), lim_neg _ _ (by omega)]; simp

theorem pvs_high (xs : List Int) (p k : Nat) : pvs xs p (p + k) = pv xs k * BB ^ p := by
  induction k with
  | zero => rw [Nat.add_zero, pvs_low _ _ _ (Nat.le_refl _), pv]; simp
  | succ k ih =>
    rw [← Nat.add_assoc, pvs, ih, pv, show ((p + k : Nat) : Int) - p = (k : Int) by omega, Nat.add_comm p k, pw_add]
    grind

/-- What the closure of scale holds while the limbs zs have been told. -/
def ScaleInv (w0 : World) (pa pp px pc : Nat) (av : Value) (p : Nat) (x : Int) (xs : List Int) (zs : List Int) (wr : World) : Prop :=
  Below w0.heap.size w0 wr ∧ wr.heap[pa]? = some (.cells #[av] 42 (0, 0)) ∧ wr.heap[pp]? = some (.cells #[.int .i64 p] 3 (0, 0)) ∧ wr.heap[px]? = some (.cells #[.int .u64 x] 56 (0, 0)) ∧
    ∃ c, wr.heap[pc]? = some (.cells #[.int .u64 c] 56 (0, 0)) ∧ 0 ≤ c ∧ c < BB ∧ val zs + c * BB ^ zs.length = pvs xs p zs.length * x

theorem scale_step {v c l x q P : Int} (h : v + c * P = q * x) : v + ((l * x + c) % BB) * P + ((l * x + c) / BB) * (P * BB) = (q + l * P) * x := by
  have h1 := Int.emod_add_mul_ediv (l * x + c) BB
  have h2 : ((l * x + c) % BB + BB * ((l * x + c) / BB)) * P = (l * x + c) * P := by rw [h1]
  grind

theorem scale_end {v c a x P Q : Int} (h : v + c * (P * Q * BB) = a * Q * x) (hv : 0 ≤ v) (hP : 0 < P) (hQ : 0 < Q) (ha : a < P) (ha0 : 0 ≤ a) (hx : x < BB) (hc : 0 ≤ c) : v = a * Q * x := by
  rcases Int.lt_or_eq_of_le hc with h' | h'
  · exfalso
    have h1 : (P * Q * BB) ≤ c * (P * Q * BB) := by
      have hpos : 0 ≤ P * Q * BB := Int.mul_nonneg (Int.le_of_lt (Int.mul_pos hP hQ)) (Int.le_of_lt BB_pos)
      have : (1 : Int) * (P * Q * BB) ≤ c * (P * Q * BB) := Int.mul_le_mul_of_nonneg_right h' hpos
      simpa using this
    have h2 : a * Q * x < P * Q * BB := by
      have q1 : a * Q < P * Q := Int.mul_lt_mul_of_pos_right ha hQ
      have q2 : a * Q * x ≤ a * Q * BB := Int.mul_le_mul_of_nonneg_left (Int.le_of_lt hx) (Int.mul_nonneg ha0 (Int.le_of_lt hQ))
      have q3 : a * Q * BB < P * Q * BB := Int.mul_lt_mul_of_pos_right q1 BB_pos
      omega
    omega
  · subst h'; simpa using h

set_option maxHeartbeats 400000 in
theorem scale_core (ao : Option Addr) (na ca pa pp px pc p : Nat) (N x : Int) (xs : List Int) (w0 W : World) (ha : RowAt w0 ao na ca xs) (hna : na ≤ 400000) (hp : p ≤ 400000) (hx0 : 0 ≤ x) (hx1 : x < BB) (hN : N = ((p + na + 1 : Nat) : Int))
    (hbel : Below w0.heap.size w0 W) (hpa : W.heap[pa]? = some (.cells #[.slice ao na ca] 42 (0, 0))) (hpp : W.heap[pp]? = some (.cells #[.int .i64 p] 3 (0, 0))) (hpx : W.heap[px]? = some (.cells #[.int .u64 x] 56 (0, 0))) (hpc : W.heap[pc]? = some (.cells #[.int .u64 0] 56 (0, 0)))
    (hca : w0.heap.size ≤ pc) (hac : pa ≠ pc) (hbc : pp ≠ pc) (hxc : px ≠ pc) :
    Calls Tryz.prog 140 #[.int .i64 N, .func (.func 153) #[] #[.pointer (some ⟨pa, 0, none⟩), .pointer (some ⟨pp, 0, none⟩), .pointer (some ⟨px, 0, none⟩), .pointer (some ⟨pc, 0, none⟩)]] W fun e w' =>
      ∃ ro m cap r, e = .returned (.slice ro m cap) ∧ RowAt w' ro m cap r ∧ Num r (val xs * BB ^ p * x) ∧ m ≤ p + na + 1 ∧ Below w0.heap.size w0 w' := by
  subst hN
  refine (build_any (p + na + 1) 153 _ (ScaleInv w0 pa pp px pc (.slice ao na ca) p x xs) W (by omega) ?_ (fun _ _ => by simp) ?_ ?_).mono ?_
  · exact ⟨hbel, hpa, hpp, hpx, 0, hpc, Int.le_refl _, BB_pos, by simp [val, pvs]⟩
  · rintro zs w1 w2 ⟨h1, h2, h3, h3', c, h4, h5⟩ hb12
    exact ⟨h1.trans (hb12.mono hbel.size), heapAt hb12 (lt_of_block hpa) h2, heapAt hb12 (lt_of_block hpp) h3, heapAt hb12 (lt_of_block hpx) h3', c, heapAt hb12 (lt_of_block hpc) h4, h5⟩
  · rintro zs wr hlt ⟨h1, h2, h3, h3', c, h4, hc0, hc1, hval⟩
    have lx := lim_bd ha.limbs (zs.length - p)
    have hm := limb_mul_le lx.1 hx0 lx.2 hx1
    have hcb := scale_bd (lim xs (zs.length - p) * x) c hm.1 hm.2 hc0 hc1
    have hmod := mod_bd (lim xs (zs.length - p) * x + c)
    refine (scale1_any ao na ca pa pp px pc p xs x zs.length c wr (by omega) (by omega) hx0 hx1 (ha.below h1) (cell_of_one h2) (cell_of_one h3) (cell_of_one h3') (cell_of_one h4) (free_of_one h4) hc0 hc1).mono ?_
    rintro e w' ⟨rfl, hq⟩
    refine ⟨_, rfl, hmod.1, hmod.2, ⟨?_, ?_, ?_, ?_, _, ?_, hcb.1, hcb.2, ?_⟩, ?_, ?_⟩
    · exact hq.below (h1.setCell hca _)
    · rw [hq.heap, Below.heap_setCell _ _ _ _ hac]; exact h2
    · rw [hq.heap, Below.heap_setCell _ _ _ _ hbc]; exact h3
    · rw [hq.heap, Below.heap_setCell _ _ _ _ hxc]; exact h3'
    · rw [hq.heap]; exact one_setCell h4
    · rw [val_snoc, List.length_append, List.length_singleton, pw_succ, pvs]
      exact scale_step hval
    · intro k hk
      rw [hq.heap, Below.heap_setCell _ _ _ _ (by have := lt_of_block hpc; show k ≠ pc; omega)]
    · rw [hq.heap]; simp [World.setCell]
  · rintro e w' ⟨ro, cap, m, zs, rfl, hlen, hlm, htl, hrow, h1, -, -, -, c, -, hc0, hc1, hval⟩
    refine ⟨ro, m, cap, _, rfl, hrow, ?_, by have := htl.1; omega, h1⟩
    have hnum := Num.ofTl hlm htl
    have vb := val_bd hlm
    have hb := val_bd ha.limbs
    rw [ha.len] at hb
    have e : val zs = val xs * BB ^ p * x := by
      rw [hlen, Nat.add_assoc, pvs_high, pv_val xs _ (by have := ha.len; omega), ← Nat.add_assoc, pw_succ, pw_add, Int.mul_comm (BB ^ p)] at hval
      exact scale_end hval vb.1 (pw_pos _) (pw_pos _) hb.2 hb.1 hx1 hc0
    rw [e] at hnum
    exact hnum

theorem below4 (w : World) (o o' o'' o3 : Obj) : Below w.heap.size w ((((w.alloc o).alloc o').alloc o'').alloc o3) := ((((Below.refl _ _).alloc (Nat.le_refl _) o).alloc (by simp) o').alloc (by simp <;> omega) o'').alloc (by simp <;> omega) o3

theorem four_blocks (w : World) (o o' o'' o3 : Obj) : ((((w.alloc o).alloc o').alloc o'').alloc o3).heap[w.heap.size]? = some o ∧ ((((w.alloc o).alloc o').alloc o'').alloc o3).heap[w.heap.size + 1]? = some o' ∧
    ((((w.alloc o).alloc o').alloc o'').alloc o3).heap[w.heap.size + 1 + 1]? = some o'' ∧ ((((w.alloc o).alloc o').alloc o'').alloc o3).heap[w.heap.size + 1 + 1 + 1]? = some o3 := by
  refine ⟨?_, ?_, ?_, ?_⟩
  · rw [Below.heap_alloc _ _ _ (by simp <;> omega), Below.heap_alloc _ _ _ (by simp <;> omega), Below.heap_alloc _ _ _ (by simp)]; exact heap_alloc_new w _
  · rw [Below.heap_alloc _ _ _ (by simp <;> omega), Below.heap_alloc _ _ _ (by simp)]; have := heap_alloc_new (w.alloc o) o'; simpa using this
  · rw [Below.heap_alloc _ _ _ (by simp)]; have := heap_alloc_new ((w.alloc o).alloc o') o''; simpa using this
  · have := heap_alloc_new (((w.alloc o).alloc o').alloc o'') o3; simpa using this

set_option maxHeartbeats 400000 in
theorem scale_any (ao : Option Addr) (na ca p : Nat) (x : Int) (xs : List Int) (w : World) (ha : RowAt w ao na ca xs) (hna : na ≤ 400000) (hp : p ≤ 400000) (hx0 : 0 ≤ x) (hx1 : x < BB) :
    Calls Tryz.prog 148 #[.slice ao na ca, .int .u64 x, .int .i64 p] w fun e w' => ∃ ro m cap r, e = .returned (.slice ro m cap) ∧ RowAt w' ro m cap r ∧ Num r (val xs * BB ^ p * x) ∧ m ≤ p + na + 1 ∧ Below w.heap.size w w' := by
  have hmf : ∀ (fn : Fn) (first cap : Array Value) (w : World), (Instr.makeFunc fn first cap).run Tryz.prog w = .ok (.func fn first cap) w := fun _ _ _ _ => rfl
  have H4 := four_blocks w (Obj.cells #[Value.slice ao na ca] 42) (Obj.cells #[Value.int IntKind.u64 x] 56) (Obj.cells #[Value.int IntKind.i64 p] 3) (Obj.cells #[Value.int IntKind.u64 0] 56)
  have H : ∀ N, N = ((p + na + 1 : Nat) : Int) → _ := fun N hN => scale_core ao na ca w.heap.size (w.heap.size + 1 + 1) (w.heap.size + 1) (w.heap.size + 1 + 1 + 1) p N x xs w
    ((((w.alloc (Obj.cells #[Value.slice ao na ca] 42)).alloc (Obj.cells #[Value.int IntKind.u64 x] 56)).alloc (Obj.cells #[Value.int IntKind.i64 p] 3)).alloc (Obj.cells #[Value.int IntKind.u64 0] 56)) ha hna hp hx0 hx1 hN (below4 _ _ _ _ _)
    H4.1 H4.2.2.1 H4.2.1 H4.2.2.2 (by omega) (by omega) (by omega) (by omega)
  have HH : Hid _ := H
  have HX : Hid (x < BB) := hx1
  clear H H4 hx1
  go_enter Tryz.func148, Tryz.ntmps148
  go_wp2_with fail
  refine (HH.out _ (by omega)).mono ?_
  rintro e w1 ⟨ro, m, cap, r, rfl, h1, h2, h3, h4⟩
  go_wp2
  go_ret
  exact ⟨ro, m, cap, r, rfl, h1, h2, h3, h4⟩
end Go.Proofs.YtnedghhcidohnaaGreat

/-! limb.Mul: the product. -/
namespace Go.Proofs.YtnedghhcidohnaaGreat
open Go.RowKit

theorem Tryz.info42 : (Tryz.prog.info? 42).map (fun i => (i.zero, i.size, i.bytes)) = some (some (.slice none 0 0), 1, 24) := by kernel_rfl

theorem trimLen_q (ao : Option Addr) (n cap m : Nat) (xs : List Int) (w : World) (h : RowAt w ao n cap xs) (hm : Tl xs m) :
    Calls Tryz.prog 141 #[.slice ao n cap] w fun e w' => e = .returned (.int .i64 m) ∧ w' = w := by
  refine (trimLen_any ao n cap xs w h).mono ?_
  rintro e w' ⟨k, rfl, hk, hw⟩
  rw [tl_one hk hm]
  exact ⟨rfl, hw⟩

theorem RowAt.cut {w : World} {ao : Option Addr} {n cap : Nat} {xs : List Int} (h : RowAt w ao n cap xs) (m : Nat) (hm : m ≤ n) : RowAt w ao m cap (xs.take m) := by
  have hl := h.len
  refine ⟨by simp; omega, limbs_take h.limbs m, by have := h.fits; omega, h.most, h.bare, fun hne => ?_⟩
  obtain ⟨b, off, e, hb, hc⟩ := h.cells (fun e => hne (by simp [e]))
  refine ⟨b, off, e, hb, fun j hj => ?_⟩
  simp only [List.length_take] at hj
  rw [hc j (by omega)]
  simp [show j < m by omega]

theorem RowAt.apart {w : World} {ao : Option Addr} {n cap : Nat} {xs : List Int} (h : RowAt w ao n cap xs) {G k : Nat} {f : Nat → Value} (hr : w.rowIs G 42 k f) (hf : ∀ t i, f t ≠ .int .u64 i) (q : Nat) (u : Value) :
    RowAt (w.setCell ⟨G, q, none⟩ u) ao n cap xs := by
  refine ⟨h.len, h.limbs, h.fits, h.most, h.bare, fun hne => ?_⟩
  obtain ⟨b, off, e, hb, hc⟩ := h.cells hne
  have hpos : 0 < xs.length := List.length_pos_iff.2 hne
  have hbG : b ≠ G := by
    intro e
    subst e
    obtain ⟨c, h1, h2, h3⟩ := hr
    have h4 := hc 0 hpos
    simp only [World.cell?, h1] at h4
    rcases Nat.lt_or_ge (off + 0) k with h5 | h5
    · rw [h3 _ h5] at h4
      exact hf _ _ (Option.some.inj h4)
    · rw [Array.getElem?_eq_none (by omega)] at h4
      simp at h4
  refine ⟨b, off, e, by simpa [World.setCell] using hb, fun j hj => ?_⟩
  rw [World.cell?_of_block (w := w) (Below.heap_setCell w ⟨G, q, none⟩ u b hbG)]
  exact hc j hj

theorem sval_prod (a : Int) (ys : List Int) (rs : List Rw) (h : ∀ t (h : t < rs.length), val rs[t].xs = a * BB ^ t * lim ys t) : ∀ k, k ≤ rs.length → sval ((rs.map Rw.xs).take k) = a * pv ys k
  | 0, _ => by simp [sval, pv]
  | k + 1, hk => by
    rw [List.take_succ_eq_append_getElem (by simp; omega), sval_snoc, sval_prod a ys rs h k (by omega), pv]
    simp only [List.getElem_map]
    rw [h k hk]
    grind

/-- What the row of rows holds while rs have been told. -/
def filled (rs : List Rw) (t : Nat) : Value := (rs[t]?.map Rw.v).getD (.slice none 0 0)
theorem filled_slice (rs : List Rw) (t : Nat) (i : Int) : filled rs t ≠ .int .u64 i := by
  unfold filled
  cases rs[t]? <;> simp [Rw.v]
theorem filled_at (rs : List Rw) (t : Nat) (h : t < rs.length) : filled rs t = .slice rs[t].ao rs[t].n rs[t].cap := by simp [filled, h, Rw.v]

/-- What the loop of Mul holds behind q rounds. -/
structure MulInv (w : World) (G m1 m2 : Nat) (xs ys : List Int) (q : Nat) (rs : List Rw) (wr : World) : Prop where
  len : rs.length = q
  bel : Below w.heap.size w wr
  rows : wr.rowIs G 42 m2 (filled rs)
  row : ∀ t (h : t < rs.length), RowAt wr rs[t].ao rs[t].n rs[t].cap rs[t].xs
  num : ∀ t (h : t < rs.length), Num rs[t].xs (val xs * BB ^ t * lim ys t)
  size : ∀ t (h : t < rs.length), rs[t].n ≤ t + m1 + 1

theorem MulInv.rowsAt {w : World} {G m1 m2 q : Nat} {xs ys : List Int} {rs : List Rw} {wr : World} (h : MulInv w G m1 m2 xs ys q rs wr) (hq : q = m2) : RowsAt wr G rs :=
  ⟨h.rows.lt, fun j hj => by rw [h.rows.cell (by have := h.len; omega), filled_at rs j hj], h.row⟩

theorem MulInv.next {w : World} {G m1 m2 : Nat} {xs ys : List Int} {q : Nat} {rs : List Rw} {wr w1 : World} (h : MulInv w G m1 m2 xs ys q rs wr) (hG : w.heap.size ≤ G) (hq : q < m2) (hb : Below wr.heap.size wr w1) (r : Rw) (hr : RowAt w1 r.ao r.n r.cap r.xs) (hn : Num r.xs (val xs * BB ^ q * lim ys q)) (hs : r.n ≤ q + m1 + 1) :
    MulInv w G m1 m2 xs ys (q + 1) (rs ++ [r]) (w1.setCell ⟨G, q, none⟩ (.slice r.ao r.n r.cap)) := by
  have hl := h.len
  have hrow1 : w1.rowIs G 42 m2 (filled rs) := h.rows.of_block (hb.block G h.rows.lt)
  have cases : ∀ t (ht : t < (rs ++ [r]).length), (∃ h' : t < rs.length, (rs ++ [r])[t] = rs[t]) ∨ (t = q ∧ (rs ++ [r])[t] = r) := by
    intro t ht
    by_cases e : t < rs.length
    · exact .inl ⟨e, by rw [List.getElem_append_left e]⟩
    · simp at ht
      have e2 : t = q := by omega
      subst e2
      exact .inr ⟨rfl, by rw [List.getElem_append_right (by omega)]; simp [hl]⟩
  refine ⟨by simp [hl], (h.bel.trans (hb.mono h.bel.size)).setCell hG _, ?_, ?_, ?_, ?_⟩
  · refine (World.rowIs.set hrow1 q _).congr fun t ht => ?_
    by_cases e : t = q
    · subst e; simp [filled, ← hl, Rw.v]
    · rw [if_neg e]
      unfold filled
      by_cases e2 : t < rs.length
      · rw [List.getElem?_append_left e2]
      · rw [List.getElem?_eq_none (by omega), List.getElem?_eq_none (by simp; omega)]
  · intro t ht
    rcases cases t ht with ⟨h', e⟩ | ⟨rfl, e⟩
    · rw [e]; exact ((h.row t h').below hb).apart hrow1 (filled_slice rs) _ _
    · rw [e]; exact hr.apart hrow1 (filled_slice rs) _ _
  · intro t ht
    rcases cases t ht with ⟨h', e⟩ | ⟨rfl, e⟩
    · rw [e]; exact h.num t h'
    · rw [e]; exact hn
  · intro t ht
    rcases cases t ht with ⟨h', e⟩ | ⟨rfl, e⟩
    · rw [e]; exact h.size t h'
    · rw [e]; exact hs

set_option maxHeartbeats 1000000 in
theorem mul_any (ao bo : Option Addr) (na ca nb cb : Nat) (xs ys : List Int) (w : World) (ha : RowAt w ao na ca xs) (hb : RowAt w bo nb cb ys) (hna : na ≤ 100000) (hnb : nb ≤ 100000) :
    Calls Tryz.prog 138 #[.slice ao na ca, .slice bo nb cb] w fun e w' => ∃ ro m cap r, e = .returned (.slice ro m cap) ∧ RowAt w' ro m cap r ∧ Num r (val xs * val ys) ∧ m ≤ na + nb + 2 ∧ Below w.heap.size w w' := by
  obtain ⟨m1, t1⟩ := tl_ex xs
  obtain ⟨m2, t2⟩ := tl_ex ys
  have l1 := ha.len
  have l2 := hb.len
  have h1 : m1 ≤ na := by have := t1.1; omega
  have h2 : m2 ≤ nb := by have := t2.1; omega
  have hca : (m1 : Int) ≤ (ca : Int) := by have := ha.fits; omega
  have hcb : (m2 : Int) ≤ (cb : Int) := by have := hb.fits; omega
  have HA : Hid (RowAt w ao na ca xs) := ha
  have HB : Hid (RowAt w bo nb cb ys) := hb
  have T1 : Hid (Tl xs m1) := t1
  have T2 : Hid (Tl ys m2) := t2
  clear ha hb t1 t2 l1 l2
  have hmk := run_make_row' (P := Tryz.prog) 178 42 (.slice none 0 0) 24 Tryz.underlying178 Tryz.info42 rfl .i64 .i64 m2 (by omega) (by omega)
  have start : ∀ nq, MulInv w w.heap.size m1 m2 xs ys 0 [] ((w.drewN nq).alloc (Obj.cells (madeCells #[.slice none 0 0] m2) 42)) := fun nq =>
    ⟨rfl, (below_drewN (Below.refl _ _) nq).alloc (Nat.le_refl _) _, (World.rowIs_made (w.drewN nq) _ m2 42).congr (fun t _ => by simp [filled]), fun t h => absurd h (Nat.not_lt_zero _), fun t h => absurd h (Nat.not_lt_zero _), fun t h => absurd h (Nat.not_lt_zero _)⟩
  have fin : ∀ q rs wr, MulInv w w.heap.size m1 m2 xs ys q rs wr → q = m2 → sval (rs.map Rw.xs) = val xs * val ys := fun q rs wr h e => by
    subst e
    have hp := sval_prod (val xs) ys rs (fun t ht => (h.num t ht).val) rs.length (Nat.le_refl _)
    rw [List.take_of_length_le (by simp)] at hp
    rw [hp, h.len, ← val_take_pv ys q T2.out.1, T2.out.val]
  have ST : Hid _ := start
  have FI : Hid _ := fin
  clear start fin
  by_cases hm0 : m2 = 0
  · subst hm0
    have hm2 : ∀ w, (Instr.makeSlice 178 (.int .i64 0) (.int .i64 0)).run Tryz.prog w = .ok (.slice (some ⟨w.heap.size, 0, none⟩) 0 0) (w.alloc (.cells (madeCells #[.slice none 0 0] 0) 42)) := hmk
    clear hmk
    go_enter Tryz.func138, Tryz.ntmps138
    go_wp2
    go_quiet ((first | (go_at_call_of 141 (Value.slice ao na ca); exact Calls.quiet_of_same (trimLen_q _ _ _ m1 xs _ (HA.out.drewN _) T1.out)) | (go_at_call_of 141 (Value.slice bo nb cb); exact Calls.quiet_of_same (trimLen_q _ _ _ 0 ys _ (HB.out.drewN _) T2.out))))
    go_wp2
    refine wp_loop_rounds 1 ?_
    rw [rounds_succ]
    go_wp2_with fail
    refine (sum_any _ 0 (m1 + 1) [] _ ((ST.out nq).rowsAt rfl) rfl (by omega) (fun j h => absurd h (Nat.not_lt_zero _)) (by omega)).mono ?_
    rintro e w1 ⟨ro, m, cap, r, rfl, h1, h2, h3, h4⟩
    go_wp2
    go_ret
    exact ⟨ro, m, cap, r, rfl, h1, by rw [FI.out _ _ _ (ST.out nq) rfl] at h2; exact h2, by omega, (ST.out nq).bel.trans (h4.mono (ST.out nq).bel.size)⟩
  · have hc2 := HB.out.cut m2 h2
    obtain ⟨b, off, rfl, hlt, hcc⟩ := hc2.cells (by intro e; have h := hc2.len; rw [e] at h; simp at h; omega)
    have HC : Hid (∀ q, q < m2 → w.cell? ⟨b, off + q, none⟩ = some (.int .u64 (lim ys q))) := fun q hq => by
      rw [hcc q (by rw [hc2.len]; exact hq), lim_nat]
      simp [hq]
    clear hc2 hcc
    go_enter Tryz.func138, Tryz.ntmps138
    go_wp2
    go_quiet ((first | (go_at_call_of 141 (Value.slice ao na ca); exact Calls.quiet_of_same (trimLen_q _ _ _ m1 xs _ (HA.out.drewN _) T1.out)) | (go_at_call_of 141 (Value.slice (some ⟨b, off, none⟩) nb cb); exact Calls.quiet_of_same (trimLen_q _ _ _ m2 ys _ (HB.out.drewN _) T2.out))))
    go_wp2
    go_loopw [21, 6, 7] (fun j _ _ wr => ∃ (q : Nat) (rs : List Rw), q ≤ m2 ∧ j = .int .i64 q ∧ MulInv w w.heap.size m1 m2 xs ys q rs wr) (fun j _ _ _ => m2 - (intOf j).toNat)
    case atStart => exact ⟨0, [], Nat.zero_le _, rfl, ST.out nq⟩
    case round =>
      obtain ⟨q, rs, hq, rfl, hinv⟩ := hrel
      have HI : Hid (MulInv w w.heap.size m1 m2 xs ys q rs wr) := hinv
      by_cases hlt2 : q < m2
      · have hcell : wr.cell? ⟨b, off + q, none⟩ = some (.int .u64 (lim ys q)) := (hinv.bel.cell (p := ⟨b, off + q, none⟩) hlt).trans (HC.out q hlt2)
        obtain ⟨y, hy⟩ : ∃ y, y = lim ys q := ⟨_, rfl⟩
        rw [← hy] at hcell
        have HY : Hid (y = lim ys q) := hy
        have HYB : Hid (0 ≤ y ∧ y < BB) := by rw [hy]; exact lim_bd HB.out.limbs q
        clear hinv hy
        go_wp2_with fail
        refine (scale_any _ _ _ _ _ (xs.take m1) _ ((HA.out.cut m1 h1).below HI.out.bel) (by omega) (by omega) HYB.out.1 HYB.out.2).mono ?_
        rintro e w1 ⟨ro, m, cap, r, rfl, g1, g2, g3, g4⟩
        have hrow1 := HI.out.rows.of_block (g4.block _ HI.out.rows.lt)
        have hce := hrow1.cell hlt2
        have hfr := hrow1.frozen q
        have NX : Hid _ := HI.out.next (Nat.le_refl _) hlt2 g4 ⟨ro, m, cap, r⟩ g1 (by rw [← HY.out, ← T1.out.val]; exact g2) g3
        clear hrow1 g1 g2 g3 g4 HI
        go_wp2_with fail
        go_roundw
        case rel => exact ⟨q + 1, _, by omega, by go_num, NX.out⟩
        case measure => simp [intOf]; omega
      · have hqm : q = m2 := by omega
        clear hinv
        subst hqm
        go_wp2_with fail
        refine (sum_any _ _ (q + m1 + 1) rs _ (HI.out.rowsAt rfl) HI.out.len (by omega) (fun j h => by have := HI.out.size j h; have := HI.out.len; omega) (by omega)).mono ?_
        rintro e w1 ⟨ro, m, cap, r, rfl, g1, g2, g3, g4⟩
        go_wp2
        go_ret
        exact ⟨ro, m, cap, r, rfl, g1, by rw [FI.out _ _ _ HI.out rfl] at g2; exact g2, by omega, HI.out.bel.trans (g4.mono HI.out.bel.size)⟩
end Go.Proofs.YtnedghhcidohnaaGreat

/-! The closure of limb.Sub: one limb of a difference, and what it borrows. -/
namespace Go.Proofs.YtnedghhcidohnaaGreat
open Go.RowKit
attribute [local go_sem ↓] Go.wp_at_zero Go.wp_at_succ

/-- What a difference of limbs borrows. -/
def bor (x y b : Int) : Int := if x < y + b then 1 else 0

theorem sub64_any (x y b : Int) (w : World) (hx : 0 ≤ x) (hy : 0 ≤ y) (hb0 : 0 ≤ b) (hb : b ≤ 1) (hxB : x < BB) (hyB : y < BB) :
    (callFunc 146 #[.int .u64 x, .int .u64 y, .int .u64 b]).run Tryz.prog w = .ok (.value (.tuple #[.int .u64 ((x - y - b) % BB), .int .u64 (bor x y b)])) w := by
  obtain ⟨X, rfl⟩ := Int.eq_ofNat_of_zero_le hx
  obtain ⟨Y, rfl⟩ := Int.eq_ofNat_of_zero_le hy
  have fin : ∀ k : Nat, k ≤ 1 → Value.tuple #[.int .u64 (((X + 18446744073709551616 - Y - k) % 18446744073709551616 : Nat) : Int), .int .u64 (((if X < Y + k then 1 else 0) : Nat) : Int)] = .tuple #[.int .u64 (((X : Int) - Y - k) % BB), .int .u64 (bor X Y k)] := by
    intro k hk
    have e1 : (((X + 18446744073709551616 - Y - k) % 18446744073709551616 : Nat) : Int) = ((X : Int) - Y - k) % BB := by
      unfold BB at *
      omega
    have e2 : (((if X < Y + k then 1 else 0) : Nat) : Int) = bor X Y k := by
      unfold bor
      by_cases h : X < Y + k
      · rw [if_pos h, if_pos (by omega)]; rfl
      · rw [if_neg h, if_neg (by omega)]; rfl
    rw [e1, e2]
  rcases (show b = ((0 : Nat) : Int) ∨ b = ((1 : Nat) : Int) by omega) with rfl | rfl
  · rw [← fin 0 (by omega), run_callFunc_extern Tryz.func146 (by kernel_rfl) rfl rfl rfl]
    rfl
  · rw [← fin 1 (by omega), run_callFunc_extern Tryz.func146 (by kernel_rfl) rfl rfl rfl]
    rfl


set_option maxHeartbeats 4000000 in
theorem sub1_any (ao bo : Option Addr) (na ca nb cb pa pb pc : Nat) (xs ys : List Int) (i : Nat) (c : Int) (w : World) (hi : i ≤ 1000000)
    (ha : RowAt w ao na ca xs) (hb : RowAt w bo nb cb ys) (hpa : w.cell? ⟨pa, 0, none⟩ = some (.slice ao na ca)) (hpb : w.cell? ⟨pb, 0, none⟩ = some (.slice bo nb cb))
    (hpc : w.cell? ⟨pc, 0, none⟩ = some (.int .u64 c)) (hfc : w.frozen? ⟨pc, 0, none⟩ = false) (hc0 : 0 ≤ c) (hc1 : c ≤ 1) :
    Calls Tryz.prog 145 #[.int .i64 i, .pointer (some ⟨pa, 0, none⟩), .pointer (some ⟨pb, 0, none⟩), .pointer (some ⟨pc, 0, none⟩)] w fun e w' =>
      e = .returned (.int .u64 ((lim xs i - lim ys i - c) % BB)) ∧ Eqw w' (w.setCell ⟨pc, 0, none⟩ (.int .u64 (bor (lim xs i) (lim ys i) c))) := by
  have lx := lim_bd ha.limbs i
  have ly := lim_bd hb.limbs i
  have hadd := fun w => sub64_any (lim xs i) (lim ys i) c w lx.1 ly.1 hc0 hc1 lx.2 ly.2
  clear lx ly
  go_enter Tryz.func145, Tryz.ntmps145
  go_wp2
  go_region_with (first
    | (go_at_call_of 147 (Value.slice ao na ca); refine (at_any _ _ _ xs _ _ ?_ ?_ ?_).mono ?_; exact ha.drew; omega; omega; rintro e w1 ⟨rfl, rfl⟩)
    | (go_at_call_of 147 (Value.slice bo nb cb); refine (at_any _ _ _ ys _ _ ?_ ?_ ?_).mono ?_; exact hb.drew; omega; omega; rintro e w1 ⟨rfl, rfl⟩))
  all_goals (go_wp2; go_ret; exact ⟨rfl, rfl, rfl, rfl, rfl⟩)

end Go.Proofs.YtnedghhcidohnaaGreat

/-! limb.Sub: the difference, or none. -/
namespace Go.Proofs.YtnedghhcidohnaaGreat
open Go.RowKit

/-- What the closure of Sub holds while the limbs zs have been told. -/
def SubInv (w0 : World) (pa pb pc : Nat) (av bv : Value) (xs ys : List Int) (zs : List Int) (wr : World) : Prop :=
  Below w0.heap.size w0 wr ∧ wr.heap[pa]? = some (.cells #[av] 42 (0, 0)) ∧ wr.heap[pb]? = some (.cells #[bv] 42 (0, 0)) ∧
    ∃ c, wr.heap[pc]? = some (.cells #[.int .u64 c] 56 (0, 0)) ∧ 0 ≤ c ∧ c ≤ 1 ∧ val zs - c * BB ^ zs.length = pv xs zs.length - pv ys zs.length

theorem bor_is {x y c : Int} (hx : 0 ≤ x) (hy : 0 ≤ y) (hx1 : x < BB) (hy1 : y < BB) (h0 : 0 ≤ c) (h1 : c ≤ 1) : (x - y - c) % BB - bor x y c * BB = x - y - c ∧ 0 ≤ bor x y c ∧ bor x y c ≤ 1 := by
  unfold bor BB at *
  split <;> omega

theorem sub_step {v c x y p q P r b : Int} (h : v - c * P = p - q) (hr : r - b * BB = x - y - c) : v + r * P - b * (P * BB) = (p + x * P) - (q + y * P) := by
  have h2 : (r - b * BB) * P = (x - y - c) * P := by rw [hr]
  grind

set_option maxHeartbeats 400000 in
theorem sub_core (ao bo : Option Addr) (na ca nb cb pa pb pc n : Nat) (xs ys : List Int) (w0 W : World) (ha : RowAt w0 ao na ca xs) (hb : RowAt w0 bo nb cb ys) (hna : na ≤ n) (hnb : nb ≤ n) (hn : n ≤ 900000)
    (hbel : Below w0.heap.size w0 W) (hpa : W.heap[pa]? = some (.cells #[.slice ao na ca] 42 (0, 0))) (hpb : W.heap[pb]? = some (.cells #[.slice bo nb cb] 42 (0, 0))) (hpc : W.heap[pc]? = some (.cells #[.int .u64 0] 56 (0, 0)))
    (hca : w0.heap.size ≤ pc) (hac : pa ≠ pc) (hbc : pb ≠ pc) :
    Calls Tryz.prog 140 #[.int .i64 n, .func (.func 145) #[] #[.pointer (some ⟨pa, 0, none⟩), .pointer (some ⟨pb, 0, none⟩), .pointer (some ⟨pc, 0, none⟩)]] W fun e w' =>
      ∃ ro m cap r c, e = .returned (.slice ro m cap) ∧ RowAt w' ro m cap r ∧ (m ≤ n ∧ Fresh w0.heap.size ro) ∧ w'.heap[pc]? = some (.cells #[.int .u64 c] 56 (0, 0)) ∧ Below w0.heap.size w0 w' ∧ ((c = 0 ∧ val ys ≤ val xs ∧ Num r (val xs - val ys)) ∨ (c = 1 ∧ val xs < val ys)) := by
  refine (build_fresh n 145 _ (SubInv w0 pa pb pc (.slice ao na ca) (.slice bo nb cb) xs ys) W (by omega) ?_ (fun _ _ => by simp) ?_ ?_).mono ?_
  · exact ⟨hbel, hpa, hpb, 0, hpc, Int.le_refl _, by omega, by simp [val, pv]⟩
  · rintro zs w1 w2 ⟨h1, h2, h3, c, h4, h5⟩ hb12
    exact ⟨h1.trans (hb12.mono hbel.size), heapAt hb12 (lt_of_block hpa) h2, heapAt hb12 (lt_of_block hpb) h3, c, heapAt hb12 (lt_of_block hpc) h4, h5⟩
  · rintro zs wr hlt ⟨h1, h2, h3, c, h4, hc0, hc1, hval⟩
    have lx := lim_bd ha.limbs zs.length
    have ly := lim_bd hb.limbs zs.length
    have hcb := bor_is lx.1 ly.1 lx.2 ly.2 hc0 hc1
    have hmod : 0 ≤ (lim xs zs.length - lim ys zs.length - c) % BB ∧ (lim xs zs.length - lim ys zs.length - c) % BB < BB := ⟨Int.emod_nonneg _ (by have := BB_pos; omega), Int.emod_lt_of_pos _ BB_pos⟩
    refine (sub1_any ao bo na ca nb cb pa pb pc xs ys zs.length c wr (by omega) (ha.below h1) (hb.below h1) (cell_of_one h2) (cell_of_one h3) (cell_of_one h4) (free_of_one h4) hc0 hc1).mono ?_
    rintro e w' ⟨rfl, hq⟩
    refine ⟨_, rfl, hmod.1, hmod.2, ⟨?_, ?_, ?_, _, ?_, hcb.2.1, hcb.2.2, ?_⟩, ?_, ?_⟩
    · exact hq.below (h1.setCell hca _)
    · rw [hq.heap, Below.heap_setCell _ _ _ _ hac]; exact h2
    · rw [hq.heap, Below.heap_setCell _ _ _ _ hbc]; exact h3
    · rw [hq.heap]; exact one_setCell h4
    · rw [val_snoc, List.length_append, List.length_singleton, pw_succ, pv, pv]
      exact sub_step hval hcb.1
    · intro k hk
      rw [hq.heap, Below.heap_setCell _ _ _ _ (by have := lt_of_block hpc; show k ≠ pc; omega)]
    · rw [hq.heap]; simp [World.setCell]
  · rintro e w' ⟨ro, cap, m, zs, rfl, hlen, hlm, htl, hrow, hf, h1, -, -, c, h4, hc0, hc1, hval⟩
    refine ⟨ro, m, cap, _, c, rfl, hrow, ⟨by have := htl.1; omega, hf.mono hbel.size⟩, h4, h1, ?_⟩
    have hnum := Num.ofTl hlm htl
    have vb := val_bd hlm
    rw [hlen, pv_val xs _ (by have := ha.len; omega), pv_val ys _ (by have := hb.len; omega)] at hval
    rw [hlen] at vb
    have hc : c = 0 ∨ c = 1 := by omega
    rcases hc with rfl | rfl
    · refine .inl ⟨rfl, by omega, ?_⟩
      rw [show val zs = val xs - val ys by omega] at hnum
      exact hnum
    · exact .inr ⟨rfl, by omega⟩

theorem below3' (w : World) (o o' o'' : Obj) : Below w.heap.size w (((w.alloc o).alloc o').alloc o'') := (((Below.refl _ _).alloc (Nat.le_refl _) o).alloc (by simp) o').alloc (by simp; omega) o''

set_option maxHeartbeats 400000 in
theorem sub_any (ao bo : Option Addr) (na ca nb cb : Nat) (xs ys : List Int) (w : World) (ha : RowAt w ao na ca xs) (hb : RowAt w bo nb cb ys) (hna : na ≤ 900000) (hnb : nb ≤ 900000) :
    Calls Tryz.prog 137 #[.slice ao na ca, .slice bo nb cb] w fun e w' => ∃ ro m cap r b, e = .returned (.tuple #[.slice ro m cap, .bool b]) ∧ RowAt w' ro m cap r ∧ (m ≤ max na nb ∧ Fresh w.heap.size ro) ∧ Below w.heap.size w w' ∧
      ((b = true ∧ val ys ≤ val xs ∧ Num r (val xs - val ys)) ∨ (b = false ∧ val xs < val ys ∧ r = [] ∧ m = 0)) := by
  have hmf : ∀ (fn : Fn) (first cap : Array Value) (w : World), (Instr.makeFunc fn first cap).run Tryz.prog w = .ok (.func fn first cap) w := fun _ _ _ _ => rfl
  have H : ∀ n, na ≤ n → nb ≤ n → n ≤ 900000 → _ := fun n h1 h2 h3 => sub_core ao bo na ca nb cb w.heap.size (w.heap.size + 1) (w.heap.size + 1 + 1) n xs ys w
    (((w.alloc (Obj.cells #[Value.slice ao na ca] 42)).alloc (Obj.cells #[Value.slice bo nb cb] 42)).alloc (Obj.cells #[Value.int IntKind.u64 0] 56)) ha hb h1 h2 h3 (below3' _ _ _ _)
    (by rw [Below.heap_alloc _ _ _ (by simp; omega), Below.heap_alloc _ _ _ (by simp)]; exact heap_alloc_new w _)
    (by rw [Below.heap_alloc _ _ _ (by simp)]; have := heap_alloc_new (w.alloc (Obj.cells #[Value.slice ao na ca] 42)) (Obj.cells #[Value.slice bo nb cb] 42); simpa using this)
    (by have := heap_alloc_new ((w.alloc (Obj.cells #[Value.slice ao na ca] 42)).alloc (Obj.cells #[Value.slice bo nb cb] 42)) (Obj.cells #[Value.int IntKind.u64 0] 56); simpa using this)
    (by omega) (by omega) (by omega)
  have HH : Hid _ := H
  clear H
  go_enter Tryz.func137, Tryz.ntmps137
  go_wp2_with fail
  · have hle : na ≤ nb := by omega
    refine (HH.out nb hle (Nat.le_refl _) hnb).mono ?_
    rintro e w1 ⟨ro, m, cap, r, c, rfl, h1, h2, h3, h4, h5⟩
    have hcell := cell_of_one h3
    have HF : Hid _ := h5
    have H2 : Hid _ := h2
    clear h5 h3 h2
    rcases HF.out with ⟨rfl, _⟩ | ⟨rfl, _⟩
    · go_wp2
      go_ret2
      refine ⟨ro, m, cap, r, true, rfl, h1, ⟨by have := H2.out.1; omega, H2.out.2⟩, h4, .inl ⟨rfl, ?_⟩⟩
      rcases HF.out with h | h
      · exact h.2
      · exact absurd h.1 (by decide)
    · go_wp2
      go_ret2
      refine ⟨none, 0, 0, [], false, rfl, RowAt.nil _, ⟨by omega, Fresh.none _⟩, h4, .inr ⟨rfl, ?_, rfl, rfl⟩⟩
      rcases HF.out with h | h
      · exact absurd h.1 (by decide)
      · exact h.2
  · have hle : nb ≤ na := by omega
    refine (HH.out na (Nat.le_refl _) hle hna).mono ?_
    rintro e w1 ⟨ro, m, cap, r, c, rfl, h1, h2, h3, h4, h5⟩
    have hcell := cell_of_one h3
    have HF : Hid _ := h5
    have H2 : Hid _ := h2
    clear h5 h3 h2
    rcases HF.out with ⟨rfl, _⟩ | ⟨rfl, _⟩
    · go_wp2
      go_ret2
      refine ⟨ro, m, cap, r, true, rfl, h1, ⟨by have := H2.out.1; omega, H2.out.2⟩, h4, .inl ⟨rfl, ?_⟩⟩
      rcases HF.out with h | h
      · exact h.2
      · exact absurd h.1 (by decide)
    · go_wp2
      go_ret2
      refine ⟨none, 0, 0, [], false, rfl, RowAt.nil _, ⟨by omega, Fresh.none _⟩, h4, .inr ⟨rfl, ?_, rfl, rfl⟩⟩
      rcases HF.out with h | h
      · exact absurd h.1 (by decide)
      · exact h.2

theorem Num.zero {r : List Int} (h : Num r 0) : r = [] := zero_of_val h.limbs h.trim h.val

theorem sub_ok (ao bo : Option Addr) (na ca nb cb : Nat) (xs ys : List Int) (w : World) (ha : RowAt w ao na ca xs) (hb : RowAt w bo nb cb ys) (hna : na ≤ 900000) (hnb : nb ≤ 900000) (h : val ys ≤ val xs) :
    Calls Tryz.prog 137 #[.slice ao na ca, .slice bo nb cb] w fun e w' => ∃ ro m cap r, e = .returned (.tuple #[.slice ro m cap, .bool true]) ∧ RowAt w' ro m cap r ∧ Num r (val xs - val ys) ∧ m ≤ max na nb ∧ Below w.heap.size w w' := by
  refine (sub_any ao bo na ca nb cb xs ys w ha hb hna hnb).mono ?_
  rintro e w' ⟨ro, m, cap, r, b, rfl, h1, h2, h3, ⟨rfl, h4, h5⟩ | ⟨_, h4, _⟩⟩
  · exact ⟨ro, m, cap, r, rfl, h1, h5, h2.1, h3⟩
  · omega
theorem sub_fresh (ao bo : Option Addr) (na ca nb cb : Nat) (xs ys : List Int) (w : World) (ha : RowAt w ao na ca xs) (hb : RowAt w bo nb cb ys) (hna : na ≤ 900000) (hnb : nb ≤ 900000) (h : val ys ≤ val xs) :
    Calls Tryz.prog 137 #[.slice ao na ca, .slice bo nb cb] w fun e w' => ∃ ro m cap r, e = .returned (.tuple #[.slice ro m cap, .bool true]) ∧ RowAt w' ro m cap r ∧ Num r (val xs - val ys) ∧ Fresh w.heap.size ro ∧ Below w.heap.size w w' := by
  refine (sub_any ao bo na ca nb cb xs ys w ha hb hna hnb).mono ?_
  rintro e w' ⟨ro, m, cap, r, b, rfl, h1, h2, h3, ⟨rfl, h4, h5⟩ | ⟨_, h4, _⟩⟩
  · exact ⟨ro, m, cap, r, rfl, h1, h5, h2.2, h3⟩
  · omega
theorem sub_no (ao bo : Option Addr) (na ca nb cb : Nat) (xs ys : List Int) (w : World) (ha : RowAt w ao na ca xs) (hb : RowAt w bo nb cb ys) (hna : na ≤ 900000) (hnb : nb ≤ 900000) (h : val xs < val ys) :
    Calls Tryz.prog 137 #[.slice ao na ca, .slice bo nb cb] w fun e w' => ∃ ro cap, e = .returned (.tuple #[.slice ro 0 cap, .bool false]) ∧ RowAt w' ro 0 cap [] ∧ Below w.heap.size w w' := by
  refine (sub_any ao bo na ca nb cb xs ys w ha hb hna hnb).mono ?_
  rintro e w' ⟨ro, m, cap, r, b, rfl, h1, h2, h3, ⟨_, h4, _⟩ | ⟨rfl, h4, rfl, rfl⟩⟩
  · omega
  · exact ⟨ro, cap, rfl, h1, h3⟩
theorem sub_zero (ao bo : Option Addr) (na ca nb cb : Nat) (xs ys : List Int) (w : World) (ha : RowAt w ao na ca xs) (hb : RowAt w bo nb cb ys) (hna : na ≤ 900000) (hnb : nb ≤ 900000) (h : val xs = val ys) :
    Calls Tryz.prog 137 #[.slice ao na ca, .slice bo nb cb] w fun e w' => ∃ ro cap, e = .returned (.tuple #[.slice ro 0 cap, .bool true]) ∧ RowAt w' ro 0 cap [] ∧ Below w.heap.size w w' := by
  refine (sub_ok ao bo na ca nb cb xs ys w ha hb hna hnb (by omega)).mono ?_
  rintro e w' ⟨ro, m, cap, r, rfl, h1, h2, _, h4⟩
  rw [show val xs - val ys = 0 by omega] at h2
  obtain rfl := h2.zero
  obtain rfl := h1.len
  exact ⟨ro, cap, rfl, h1, h4⟩
end Go.Proofs.YtnedghhcidohnaaGreat

/-! The closure of quot.divide: a row less a multiple of the divisor. -/
namespace Go.Proofs.YtnedghhcidohnaaGreat
open Go.RowKit
attribute [local go_sem ↓] Go.wp_at_zero Go.wp_at_succ

theorem one_row (w : World) (t : Int) (h0 : 0 ≤ t) (h1 : t < BB) : RowAt (w.alloc (Obj.cells #[.int .u64 t] 56)) (some ⟨w.heap.size, 0, none⟩) 1 1 [t] := RowAt.laid w [t] (by intro y hy; simp at hy; subst hy; exact ⟨h0, h1⟩) (by simp [maxLen])

set_option maxRecDepth 100000 in
set_option maxHeartbeats 1000000 in
theorem less_yes (ro bo : Option Addr) (nr cr nb cb pr pb : Nat) (rs bs : List Int) (t : Int) (w : World) (hr : RowAt w ro nr cr rs) (hb : RowAt w bo nb cb bs) (hnr : nr ≤ 5000) (hnb : nb ≤ 5000) (t0 : 0 ≤ t) (t1 : t < BB)
    (hpr : w.cell? ⟨pr, 0, none⟩ = some (.slice ro nr cr)) (hpb : w.cell? ⟨pb, 0, none⟩ = some (.slice bo nb cb)) (hlr : pr < w.heap.size) (hlb : pb < w.heap.size) (hle : val bs * t ≤ val rs) :
    Calls Tryz.prog 136 #[.int .u64 t, .pointer (some ⟨pr, 0, none⟩), .pointer (some ⟨pb, 0, none⟩)] w fun e w' =>
      ∃ so m cap s, e = .returned (.tuple #[.slice so m cap, .bool true]) ∧ RowAt w' so m cap s ∧ Num s (val rs - val bs * t) ∧ Fresh w.heap.size so ∧ Below w.heap.size w w' := by
  have HR : Hid _ := hr
  have HB : Hid _ := hb
  have HL : Hid (val bs * t ≤ val rs) := hle
  have hB0 : Below w.heap.size w w.drew := (Below.refl _ _).drew
  have hB1 : Below w.heap.size w (w.drew.alloc (Obj.cells #[.int .u64 t] 56)) := hB0.alloc (by simp) _
  have HB1 : Hid _ := hB1
  have H1 : Hid (RowAt (w.drew.alloc (Obj.cells #[.int .u64 t] 56)) (some ⟨w.heap.size, 0, none⟩) 1 1 [t]) := one_row w.drew t t0 t1
  clear hr hb hle hB0 hB1
  go_enter Tryz.func136, Tryz.ntmps136
  go_wp2
  go_region_held3 (fun w' => w'.cell? ⟨pr, 0, none⟩ = some (.slice ro nr cr) ∧ w'.cell? ⟨pb, 0, none⟩ = some (.slice bo nb cb)) (first | go_keep | (refine ⟨?_, ?_⟩; (rw [b2.cell hlr]; assumption); (rw [b2.cell hlb]; assumption)))
    (first
      | (go_at_call 138; refine (mul_any _ _ _ _ _ _ bs [t] _ (HB.out.below HB1.out) H1.out (by omega) (by omega)).mono ?_; rintro e w1 ⟨mo, mm, mc, ms, rfl, h1, h2, h3, h4⟩; have b2 := chain HB1.out h4)
      | (go_at_call 137; refine (sub_fresh _ _ _ _ _ _ rs ms _ (HR.out.below b2) h1 (by omega) (by omega) (by rw [h2.val]; simpa [val] using HL.out)).mono ?_; rintro e w2 ⟨so, sm, sc, ss, rfl, g1, g2, g3, g4⟩; have b2 := chain b2 g4))
  have G1 : Hid _ := g1
  have G2 : Hid (Num ss (val rs - val bs * t)) := by
    show Num ss (val rs - val bs * t)
    rw [h2.val, show val [t] = t by simp [val]] at g2
    exact g2
  have GF : Hid (Fresh w.heap.size so) := g3.mono (Nat.le_trans HB1.out.size h4.size)
  have BB2 : Hid (Below w.heap.size w w2) := b2
  clear h1 h2 h3 h4 g1 g2 g3 g4 HB1 H1
  go_wp2
  go_ret2
  exact ⟨so, sm, sc, ss, rfl, G1.out, G2.out, GF.out, BB2.out⟩
set_option maxRecDepth 100000 in
set_option maxHeartbeats 1000000 in
theorem less_no (ro bo : Option Addr) (nr cr nb cb pr pb : Nat) (rs bs : List Int) (t : Int) (w : World) (hr : RowAt w ro nr cr rs) (hb : RowAt w bo nb cb bs) (hnr : nr ≤ 5000) (hnb : nb ≤ 5000) (t0 : 0 ≤ t) (t1 : t < BB)
    (hpr : w.cell? ⟨pr, 0, none⟩ = some (.slice ro nr cr)) (hpb : w.cell? ⟨pb, 0, none⟩ = some (.slice bo nb cb)) (hlr : pr < w.heap.size) (hlb : pb < w.heap.size) (hlt : val rs < val bs * t) :
    Calls Tryz.prog 136 #[.int .u64 t, .pointer (some ⟨pr, 0, none⟩), .pointer (some ⟨pb, 0, none⟩)] w fun e w' =>
      ∃ so cap, e = .returned (.tuple #[.slice so 0 cap, .bool false]) ∧ Below w.heap.size w w' := by
  have HR : Hid _ := hr
  have HB : Hid _ := hb
  have HL : Hid (val rs < val bs * t) := hlt
  have hB0 : Below w.heap.size w w.drew := (Below.refl _ _).drew
  have hB1 : Below w.heap.size w (w.drew.alloc (Obj.cells #[.int .u64 t] 56)) := hB0.alloc (by simp) _
  have HB1 : Hid _ := hB1
  have H1 : Hid (RowAt (w.drew.alloc (Obj.cells #[.int .u64 t] 56)) (some ⟨w.heap.size, 0, none⟩) 1 1 [t]) := one_row w.drew t t0 t1
  clear hr hb hlt hB0 hB1
  go_enter Tryz.func136, Tryz.ntmps136
  go_wp2
  go_region_held3 (fun w' => w'.cell? ⟨pr, 0, none⟩ = some (.slice ro nr cr) ∧ w'.cell? ⟨pb, 0, none⟩ = some (.slice bo nb cb)) (first | go_keep | (refine ⟨?_, ?_⟩; (rw [b2.cell hlr]; assumption); (rw [b2.cell hlb]; assumption)))
    (first
      | (go_at_call 138; refine (mul_any _ _ _ _ _ _ bs [t] _ (HB.out.below HB1.out) H1.out (by omega) (by omega)).mono ?_; rintro e w1 ⟨mo, mm, mc, ms, rfl, h1, h2, h3, h4⟩; have b2 := chain HB1.out h4)
      | (go_at_call 137; refine (sub_no _ _ _ _ _ _ rs ms _ (HR.out.below b2) h1 (by omega) (by omega) (by rw [h2.val]; simpa [val] using HL.out)).mono ?_; rintro e w2 ⟨so, sc, rfl, g1, g4⟩; have b2 := chain b2 g4))
  have BB2 : Hid (Below w.heap.size w w2) := b2
  clear h1 h2 h3 h4 g1 g4 HB1 H1
  go_wp2
  go_ret2
  exact ⟨so, sc, rfl, BB2.out⟩
end Go.Proofs.YtnedghhcidohnaaGreat

/-! limb.Shift: a row times a power of 2, or by one, rounded down. -/
namespace Go.Proofs.YtnedghhcidohnaaGreat
open Go.RowKit

/-- What the closures of both shifts hold. -/
def ShInv (w0 : World) (pa pl pr : Nat) (av : Value) (l r : Nat) (wr : World) : Prop :=
  Below w0.heap.size w0 wr ∧ wr.heap[pa]? = some (.cells #[av] 42 (0, 0)) ∧ wr.heap[pl]? = some (.cells #[.int .i64 l] 3 (0, 0)) ∧ wr.heap[pr]? = some (.cells #[.int .i64 r] 3 (0, 0))

theorem ShInv.keep {w0 : World} {pa pl pr : Nat} {av : Value} {l r : Nat} {W w1 w2 : World} (hW : ShInv w0 pa pl pr av l r W) (h : ShInv w0 pa pl pr av l r w1) (hb : Below W.heap.size w1 w2) : ShInv w0 pa pl pr av l r w2 :=
  ⟨h.1.trans (hb.mono hW.1.size), heapAt hb (lt_of_block hW.2.1) h.2.1, heapAt hb (lt_of_block hW.2.2.1) h.2.2.1, heapAt hb (lt_of_block hW.2.2.2) h.2.2.2⟩
theorem ShInv.eqw {w0 : World} {pa pl pr : Nat} {av : Value} {l r : Nat} {w1 w2 : World} (h : ShInv w0 pa pl pr av l r w1) (hq : Eqw w2 w1) : ShInv w0 pa pl pr av l r w2 :=
  ⟨hq.below h.1, by rw [hq.heap]; exact h.2.1, by rw [hq.heap]; exact h.2.2.1, by rw [hq.heap]; exact h.2.2.2⟩

set_option maxHeartbeats 400000 in
theorem up_core (ao : Option Addr) (na ca pa pl pr l r : Nat) (N : Int) (xs : List Int) (w0 W : World) (ha : RowAt w0 ao na ca xs) (hna : na ≤ 400000) (hl : l ≤ 400000) (hr : r ≤ 63) (hN : N = ((l + (na + 1) : Nat) : Int))
    (hW : ShInv w0 pa pl pr (.slice ao na ca) l r W) :
    Calls Tryz.prog 140 #[.int .i64 N, .func (.func 152) #[] #[.pointer (some ⟨pa, 0, none⟩), .pointer (some ⟨pl, 0, none⟩), .pointer (some ⟨pr, 0, none⟩)]] W fun e w' =>
      ∃ ro m cap rr, e = .returned (.slice ro m cap) ∧ RowAt w' ro m cap rr ∧ Num rr (val xs * 2 ^ (64 * l + r)) ∧ m ≤ l + (na + 1) ∧ Below w0.heap.size w0 w' := by
  subst hN
  refine (build_any (l + (na + 1)) 152 _ (fun zs wr => ShInv w0 pa pl pr (.slice ao na ca) l r wr ∧ val zs + lim xs ((zs.length : Int) - l - 1) / 2 ^ (64 - r) * BB ^ zs.length = 2 ^ r * pvu xs l zs.length) W (by omega) ?_ (fun _ _ => by simp) ?_ ?_).mono ?_
  · refine ⟨hW, ?_⟩
    rw [lim_neg _ _ (by simp; omega)]
    simp [val, pvu]
  · rintro zs w1 w2 ⟨h1, h2⟩ hb12
    exact ⟨hW.keep h1 hb12, h2⟩
  · rintro zs wr hlt ⟨h1, hval⟩
    have hb := upv_bd ha.limbs l hr zs.length
    refine (up1_any ao na ca pa pl pr l r xs zs.length wr (by omega) (by omega) hr (ha.below h1.1) (cell_of_one h1.2.1) (cell_of_one h1.2.2.1) (cell_of_one h1.2.2.2)).mono ?_
    rintro e w' ⟨rfl, hq⟩
    refine ⟨_, rfl, hb.1, hb.2.1, ⟨h1.eqw hq, ?_⟩, ?_, ?_⟩
    · rw [val_snoc, List.length_append, List.length_singleton, pw_succ, pvu, show (((zs.length + 1 : Nat) : Int) - l - 1) = (zs.length : Int) - l by omega]
      exact up_step (by omega) hval
    · intro k hk; rw [hq.heap]
    · rw [hq.heap]
  · rintro e w' ⟨ro, cap, m, zs, rfl, hlen, hlm, htl, hrow, h1, hval⟩
    refine ⟨ro, m, cap, _, rfl, hrow, ?_, by have := htl.1; omega, h1.1⟩
    have hnum := Num.ofTl hlm htl
    have e : val zs = val xs * 2 ^ (64 * l + r) := by
      rw [hlen, pvu_high, pv_val xs _ (by have := ha.len; omega), show (((l + (na + 1) : Nat) : Int) - l - 1) = (na : Int) by omega, lim_past _ _ (by have := ha.len; omega)] at hval
      rw [pow_split]
      simp at hval
      rw [hval]
      grind
    rw [e] at hnum
    exact hnum

set_option maxHeartbeats 400000 in
theorem dn_core (ao : Option Addr) (na ca pa pl pr l r n : Nat) (N : Int) (xs : List Int) (w0 W : World) (ha : RowAt w0 ao na ca xs) (hna : na ≤ 400000) (hl : l ≤ 400000) (hr : r ≤ 63) (hn : n = na - l) (hN : N = (n : Int))
    (hW : ShInv w0 pa pl pr (.slice ao na ca) l r W) :
    Calls Tryz.prog 140 #[.int .i64 N, .func (.func 151) #[] #[.pointer (some ⟨pa, 0, none⟩), .pointer (some ⟨pl, 0, none⟩), .pointer (some ⟨pr, 0, none⟩)]] W fun e w' =>
      ∃ ro m cap rr, e = .returned (.slice ro m cap) ∧ RowAt w' ro m cap rr ∧ Num rr (val xs / 2 ^ (64 * l + r)) ∧ m ≤ na ∧ Below w0.heap.size w0 w' := by
  subst hN
  refine (build_any n 151 _ (fun zs wr => ShInv w0 pa pl pr (.slice ao na ca) l r wr ∧ 2 ^ r * val zs + lim xs l % 2 ^ r = pvd xs l zs.length + lim xs ((zs.length : Int) + l) % 2 ^ r * BB ^ zs.length) W (by omega) ?_ (fun _ _ => by simp) ?_ ?_).mono ?_
  · refine ⟨hW, ?_⟩
    simp [val, pvd]
  · rintro zs w1 w2 ⟨h1, h2⟩ hb12
    exact ⟨hW.keep h1 hb12, h2⟩
  · rintro zs wr hlt ⟨h1, hval⟩
    have hb := dnv_bd ha.limbs l hr zs.length
    refine (dn1_any ao na ca pa pl pr l r xs zs.length wr (by omega) (by omega) hr (ha.below h1.1) (cell_of_one h1.2.1) (cell_of_one h1.2.2.1) (cell_of_one h1.2.2.2)).mono ?_
    rintro e w' ⟨rfl, hq⟩
    refine ⟨_, rfl, hb.1, hb.2.1, ⟨h1.eqw hq, ?_⟩, ?_, ?_⟩
    · rw [val_snoc, List.length_append, List.length_singleton, pw_succ, pvd, show (((zs.length + 1 : Nat) : Int) + l) = (zs.length : Int) + l + 1 by omega]
      exact dn_step (by omega) hval
    · intro k hk; rw [hq.heap]
    · rw [hq.heap]
  · rintro e w' ⟨ro, cap, m, zs, rfl, hlen, hlm, htl, hrow, h1, hval⟩
    refine ⟨ro, m, cap, _, rfl, hrow, ?_, by have := htl.1; omega, h1.1⟩
    have hnum := Num.ofTl hlm htl
    have e : val zs = val xs / 2 ^ (64 * l + r) := by
      have hxl := ha.len
      rw [hlen, show ((n : Int) + l) = ((n + l : Nat) : Int) by omega, lim_past xs (n + l) (by omega), val_drop ha.limbs l n (by omega)] at hval
      simp at hval
      rw [pow_split, ← Int.ediv_ediv_of_nonneg (Int.le_of_lt (pw_pos l))]
      exact dn_end hval (Int.emod_nonneg _ (by have := two_pos r; omega)) (Int.emod_lt_of_pos _ (two_pos r))
    rw [e] at hnum
    exact hnum

theorem three_blocks (w : World) (o o' o'' : Obj) : (((w.alloc o).alloc o').alloc o'').heap[w.heap.size]? = some o ∧ (((w.alloc o).alloc o').alloc o'').heap[w.heap.size + 1]? = some o' ∧ (((w.alloc o).alloc o').alloc o'').heap[w.heap.size + 1 + 1]? = some o'' := by
  refine ⟨?_, ?_, ?_⟩
  · rw [Below.heap_alloc _ _ _ (by simp <;> omega), Below.heap_alloc _ _ _ (by simp)]; exact heap_alloc_new w _
  · rw [Below.heap_alloc _ _ _ (by simp)]; have := heap_alloc_new (w.alloc o) o'; simpa using this
  · have := heap_alloc_new ((w.alloc o).alloc o') o''; simpa using this
theorem below3s (w : World) (o o' o'' : Obj) : Below w.heap.size w (((w.alloc o).alloc o').alloc o'') := (((Below.refl _ _).alloc (Nat.le_refl _) o).alloc (by simp) o').alloc (by simp <;> omega) o''

theorem sh_start (w : World) (v : Value) (n : Nat) : ShInv w w.heap.size (w.heap.size + 1) (w.heap.size + 1 + 1) v (n / 64) (n % 64)
    (((w.alloc (Obj.cells #[v] 42)).alloc (Obj.cells #[Value.int IntKind.i64 ((n : Int) / 64)] 3)).alloc (Obj.cells #[Value.int IntKind.i64 ((n : Int) % 64)] 3)) := by
  have h := three_blocks w (Obj.cells #[v] 42) (Obj.cells #[Value.int IntKind.i64 ((n : Int) / 64)] 3) (Obj.cells #[Value.int IntKind.i64 ((n : Int) % 64)] 3)
  exact ⟨below3s _ _ _ _, h.1, h.2.1, h.2.2⟩

set_option maxHeartbeats 400000 in
theorem shiftUp_any (ao : Option Addr) (na ca n : Nat) (xs : List Int) (w : World) (ha : RowAt w ao na ca xs) (hna : na ≤ 300000) (hn : n ≤ 1000) :
    Calls Tryz.prog 144 #[.slice ao na ca, .int .i64 n] w fun e w' => ∃ ro m cap r, e = .returned (.slice ro m cap) ∧ RowAt w' ro m cap r ∧ Num r (val xs * 2 ^ n) ∧ m ≤ na + 17 ∧ Below w.heap.size w w' := by
  have hmf : ∀ (fn : Fn) (first cap : Array Value) (w : World), (Instr.makeFunc fn first cap).run Tryz.prog w = .ok (.func fn first cap) w := fun _ _ _ _ => rfl
  have HA : Hid (RowAt w ao na ca xs) := ha
  have HS : Hid _ := sh_start w (.slice ao na ca) n
  clear ha
  go_enter Tryz.func144, Tryz.ntmps144
  go_wp2_with fail
  refine (up_core ao na ca _ _ _ (n / 64) (n % 64) _ xs w _ HA.out (by omega) (by omega) (by omega) (by omega) HS.out).mono ?_
  rintro e w1 ⟨ro, m, cap, r, rfl, h1, h2, h3, h4⟩
  go_wp2
  go_ret
  exact ⟨ro, m, cap, r, rfl, h1, by rw [show 64 * (n / 64) + n % 64 = n by omega] at h2; exact h2, by omega, h4⟩

set_option maxHeartbeats 400000 in
theorem shiftDown_any (ao : Option Addr) (na ca n : Nat) (xs : List Int) (w : World) (ha : RowAt w ao na ca xs) (hna : na ≤ 300000) (hn : n ≤ 100000) :
    Calls Tryz.prog 143 #[.slice ao na ca, .int .i64 n] w fun e w' => ∃ ro m cap r, e = .returned (.slice ro m cap) ∧ RowAt w' ro m cap r ∧ Num r (val xs / 2 ^ n) ∧ m ≤ na ∧ Below w.heap.size w w' := by
  have hmf : ∀ (fn : Fn) (first cap : Array Value) (w : World), (Instr.makeFunc fn first cap).run Tryz.prog w = .ok (.func fn first cap) w := fun _ _ _ _ => rfl
  have HA : Hid (RowAt w ao na ca xs) := ha
  have HS : Hid _ := sh_start w (.slice ao na ca) n
  clear ha
  rcases Nat.lt_or_ge na (n / 64) with hlt | hge
  · have hlt' : (na : Int) - (n : Int) / 64 < 0 := by omega
    go_enter Tryz.func143, Tryz.ntmps143
    go_wp2_with fail
    refine (dn_core ao na ca _ _ _ (n / 64) (n % 64) (na - n / 64) _ xs w _ HA.out (by omega) (by omega) (by omega) rfl (by omega) HS.out).mono ?_
    rintro e w1 ⟨ro, m, cap, r, rfl, h1, h2, h3, h4⟩
    go_wp2
    go_ret
    exact ⟨ro, m, cap, r, rfl, h1, by rw [show 64 * (n / 64) + n % 64 = n by omega] at h2; exact h2, h3, h4⟩
  · have hge' : 0 ≤ (na : Int) - (n : Int) / 64 := by omega
    go_enter Tryz.func143, Tryz.ntmps143
    go_wp2_with fail
    refine (dn_core ao na ca _ _ _ (n / 64) (n % 64) (na - n / 64) _ xs w _ HA.out (by omega) (by omega) (by omega) rfl (by omega) HS.out).mono ?_
    rintro e w1 ⟨ro, m, cap, r, rfl, h1, h2, h3, h4⟩
    go_wp2
    go_ret
    exact ⟨ro, m, cap, r, rfl, h1, by rw [show 64 * (n / 64) + n % 64 = n by omega] at h2; exact h2, h3, h4⟩

set_option maxRecDepth 100000 in
set_option maxHeartbeats 400000 in
theorem shift_any (ao : Option Addr) (na ca : Nat) (n : Int) (xs : List Int) (w : World) (ha : RowAt w ao na ca xs) (hna : na ≤ 300000) (hn0 : -9223372036854775808 ≤ n) (hn1 : n ≤ 9223372036854775807) :
    Calls Tryz.prog 135 #[.slice ao na ca, .int .i64 n] w fun e w' => ∃ ro m cap r, e = .returned (.slice ro m cap) ∧ RowAt w' ro m cap r ∧ Num r (shiftI (val xs) n) ∧ m ≤ na + 17 ∧ Below w.heap.size w w' := by
  obtain ⟨m1, t1⟩ := tl_ex xs
  have h1 : m1 ≤ na := by have := t1.1; have := ha.len; omega
  have hca : (m1 : Int) ≤ (ca : Int) := by have := ha.fits; omega
  have HA : Hid (RowAt w ao na ca xs) := ha
  have T1 : Hid (Tl xs m1) := t1
  clear ha t1
  by_cases hl : n < -100000
  · go_enter Tryz.func135, Tryz.ntmps135
    go_wp2_with fail
    go_ret
    exact ⟨none, 0, 0, [], rfl, RowAt.nil _, by rw [shiftI, if_pos hl]; exact Num.nil, by omega, Below.refl _ _⟩
  · by_cases hz : n < 0
    · obtain ⟨k, hk⟩ := Int.eq_ofNat_of_zero_le (show 0 ≤ -n by omega)
      have hk1 : k ≤ 100000 := by omega
      have HK : Hid (-n = (k : Int)) := hk
      clear hk
      go_enter Tryz.func135, Tryz.ntmps135
      go_wp2_with fail
      refine (trimLen_q _ _ _ m1 xs _ HA.out T1.out).mono ?_
      rintro e w1 ⟨rfl, hw⟩
      subst hw
      go_wp2_with fail
      rw [HK.out]
      refine (shiftDown_any _ _ _ k (xs.take m1) _ (HA.out.cut m1 h1) (by omega) hk1).mono ?_
      rintro e w2 ⟨ro, m, cap, r, rfl, g1, g2, g3, g4⟩
      go_wp2
      go_ret
      refine ⟨ro, m, cap, r, rfl, g1, ?_, by omega, g4⟩
      rw [T1.out.val] at g2
      rw [shiftI, if_neg (by omega), if_pos (by omega), HK.out]
      exact g2
    · rcases Int.lt_or_le 1000 n with hge | hlt
      · go_enter Tryz.func135, Tryz.ntmps135
        go_wp2_with fail
        refine (trimLen_q _ _ _ m1 xs _ HA.out T1.out).mono ?_
        rintro e w1 ⟨rfl, hw⟩
        subst hw
        go_wp2_with fail
        refine (shiftUp_any _ _ _ 1000 (xs.take m1) _ (HA.out.cut m1 h1) (by omega) (by omega)).mono ?_
        rintro e w2 ⟨ro, m, cap, r, rfl, g1, g2, g3, g4⟩
        go_wp2
        go_ret
        refine ⟨ro, m, cap, r, rfl, g1, ?_, by omega, g4⟩
        rw [T1.out.val] at g2
        rw [shiftI, if_neg (by omega), if_neg (by omega), show (min n 1000).toNat = 1000 by omega]
        exact g2
      · obtain ⟨k, rfl⟩ := Int.eq_ofNat_of_zero_le (show 0 ≤ n by omega)
        have hk1 : k ≤ 1000 := by omega
        go_enter Tryz.func135, Tryz.ntmps135
        go_wp2_with fail
        refine (trimLen_q _ _ _ m1 xs _ HA.out T1.out).mono ?_
        rintro e w1 ⟨rfl, hw⟩
        subst hw
        go_wp2_with fail
        refine (shiftUp_any _ _ _ k (xs.take m1) _ (HA.out.cut m1 h1) (by omega) hk1).mono ?_
        rintro e w2 ⟨ro, m, cap, r, rfl, g1, g2, g3, g4⟩
        go_wp2
        go_ret
        refine ⟨ro, m, cap, r, rfl, g1, ?_, by omega, g4⟩
        rw [T1.out.val] at g2
        rw [shiftI, if_neg (by omega), if_neg (by omega), show (min (k : Int) 1000).toNat = k by omega]
        exact g2
end Go.Proofs.YtnedghhcidohnaaGreat

/-! limb.Trim: the one row of the same number. -/
namespace Go.Proofs.YtnedghhcidohnaaGreat
open Go.RowKit

set_option maxHeartbeats 400000 in
theorem trim1_any (ao : Option Addr) (na ca pa : Nat) (xs : List Int) (i : Nat) (w : World) (hi : i < na)
    (ha : RowAt w ao na ca xs) (hpa : w.cell? ⟨pa, 0, none⟩ = some (.slice ao na ca)) :
    Calls Tryz.prog 142 #[.int .i64 i, .pointer (some ⟨pa, 0, none⟩)] w fun e w' => e = .returned (.int .u64 (lim xs i)) ∧ w' = w := by
  obtain ⟨b, off, rfl, hlt, hc⟩ := ha.cells (by intro e; have := ha.len; rw [e] at this; simp at this; omega)
  have hck := hc i (by have := ha.len; omega)
  rw [← lim_nat] at hck
  clear hc ha
  have hi' : (i : Int) < (na : Int) := by omega
  go_enter Tryz.func142, Tryz.ntmps142
  go_wp2
  go_ret
  exact ⟨rfl, rfl⟩

/-- What the closure of Trim holds while the limbs zs have been told. -/
def TrimInv (w0 : World) (pa : Nat) (av : Value) (xs : List Int) (zs : List Int) (wr : World) : Prop :=
  Below w0.heap.size w0 wr ∧ wr.heap[pa]? = some (.cells #[av] 42 (0, 0)) ∧ val zs = pv xs zs.length

set_option maxHeartbeats 400000 in
theorem trim_core (ao : Option Addr) (na ca pa m1 : Nat) (xs : List Int) (w0 W : World) (ha : RowAt w0 ao na ca xs) (hna : na ≤ 900000) (t1 : Tl xs m1) (hbel : Below w0.heap.size w0 W) (hpa : W.heap[pa]? = some (.cells #[.slice ao na ca] 42 (0, 0))) :
    Calls Tryz.prog 140 #[.int .i64 m1, .func (.func 142) #[] #[.pointer (some ⟨pa, 0, none⟩)]] W fun e w' =>
      ∃ ro m cap r, e = .returned (.slice ro m cap) ∧ RowAt w' ro m cap r ∧ Num r (val xs) ∧ m ≤ na ∧ Below w0.heap.size w0 w' := by
  have hm : m1 ≤ na := by have := t1.1; have := ha.len; omega
  refine (build_any m1 142 _ (TrimInv w0 pa (.slice ao na ca) xs) W (by omega) ?_ (fun _ _ => by simp) ?_ ?_).mono ?_
  · exact ⟨hbel, hpa, by simp [val, pv]⟩
  · rintro zs w1 w2 ⟨h1, h2, h3⟩ hb12
    exact ⟨h1.trans (hb12.mono hbel.size), heapAt hb12 (lt_of_block hpa) h2, h3⟩
  · rintro zs wr hlt ⟨h1, h2, hval⟩
    have lx := lim_bd ha.limbs zs.length
    refine (trim1_any ao na ca pa xs zs.length wr (by omega) (ha.below h1) (cell_of_one h2)).mono ?_
    rintro e w' ⟨rfl, rfl⟩
    refine ⟨_, rfl, lx.1, lx.2, ⟨h1, h2, ?_⟩, fun _ _ => rfl, rfl⟩
    rw [val_snoc, List.length_append, List.length_singleton, pv, hval]
  · rintro e w' ⟨ro, cap, m, zs, rfl, hlen, hlm, htl, hrow, h1, -, hval⟩
    refine ⟨ro, m, cap, _, rfl, hrow, ?_, by have := htl.1; omega, h1⟩
    have hnum := Num.ofTl hlm htl
    rw [hval, hlen, ← val_take_pv xs m1 t1.1, t1.val] at hnum
    exact hnum

set_option maxHeartbeats 400000 in
theorem trim_any (ao : Option Addr) (na ca : Nat) (xs : List Int) (w : World) (ha : RowAt w ao na ca xs) (hna : na ≤ 900000) :
    Calls Tryz.prog 132 #[.slice ao na ca] w fun e w' => ∃ ro m cap r, e = .returned (.slice ro m cap) ∧ RowAt w' ro m cap r ∧ Num r (val xs) ∧ m ≤ na ∧ Below w.heap.size w w' := by
  have hmf : ∀ (fn : Fn) (first cap : Array Value) (w : World), (Instr.makeFunc fn first cap).run Tryz.prog w = .ok (.func fn first cap) w := fun _ _ _ _ => rfl
  obtain ⟨m1, t1⟩ := tl_ex xs
  have H : _ := trim_core ao na ca w.heap.size m1 xs w (w.alloc (Obj.cells #[.slice ao na ca] 42)) ha hna t1 ((Below.refl _ _).alloc (Nat.le_refl _) _) (heap_alloc_new w _)
  have HT : Hid (Tl xs m1) := t1
  have HH : Hid (∀ u : Unit, Calls Tryz.prog 140 #[.int .i64 m1, .func (.func 142) #[] #[.pointer (some ⟨w.heap.size, 0, none⟩)]] (w.alloc (Obj.cells #[.slice ao na ca] 42)) fun e w' =>
      ∃ ro m cap r, e = .returned (.slice ro m cap) ∧ RowAt w' ro m cap r ∧ Num r (val xs) ∧ m ≤ na ∧ Below w.heap.size w w') := fun _ => H
  have HA : Hid (RowAt (w.alloc (Obj.cells #[.slice ao na ca] 42)) ao na ca xs) := ha.below ((Below.refl _ _).alloc (Nat.le_refl _) _)
  clear H t1 ha
  go_enter Tryz.func132, Tryz.ntmps132
  go_wp2_with fail
  refine (trimLen_q _ _ _ m1 xs _ HA.out HT.out).mono ?_
  rintro e w1 ⟨rfl, hw⟩
  rw [hw]
  clear hw
  go_wp2_with fail
  refine (HH.out ()).mono ?_
  rintro e w1 ⟨ro, m, cap, r, rfl, h1, h2, h3, h4⟩
  go_wp2
  go_ret
  exact ⟨ro, m, cap, r, rfl, h1, h2, h3, h4⟩

theorem RowAt.cellAt {w : World} {b off n cap : Nat} {xs : List Int} (h : RowAt w (some ⟨b, off, none⟩) n cap xs) (j : Nat) (hj : j < n) : w.cell? ⟨b, off + j, none⟩ = some (.int .u64 (lim xs j)) := by
  obtain ⟨b', off', e, _, hc⟩ := h.cells (by intro e; have := h.len; rw [e] at this; simp at this; omega)
  cases e
  rw [hc j (by have := h.len; omega), lim_nat]

/-- Trim's result: nothing, or a row whose last limb is not 0. -/
theorem trim_shape (ao : Option Addr) (na ca : Nat) (xs : List Int) (w : World) (ha : RowAt w ao na ca xs) (hna : na ≤ 900000) :
    Calls Tryz.prog 132 #[.slice ao na ca] w fun e w' => Below w.heap.size w w' ∧ ((∃ ro cap, e = .returned (.slice ro 0 cap) ∧ RowAt w' ro 0 cap [] ∧ Num [] (val xs)) ∨
      ∃ b off m cap r, e = .returned (.slice (some ⟨b, off, none⟩) (m + 1) cap) ∧ RowAt w' (some ⟨b, off, none⟩) (m + 1) cap r ∧ Num r (val xs) ∧ lim r m ≠ 0 ∧ m + 1 ≤ na) := by
  refine (trim_any ao na ca xs w ha hna).mono ?_
  rintro e w' ⟨ro, m, cap, r, rfl, h1, h2, h3, h4⟩
  refine ⟨h4, ?_⟩
  have hl := h1.len
  cases m with
  | zero =>
    obtain rfl := List.length_eq_zero_iff.1 hl
    exact .inl ⟨ro, cap, rfl, h1, h2⟩
  | succ m =>
    obtain ⟨b, off, rfl, _, _⟩ := h1.cells (by intro e; rw [e] at hl; simp at hl)
    exact .inr ⟨b, off, m, cap, r, rfl, h1, h2, by rw [lim_nat]; exact h2.trim m hl, h3⟩
end Go.Proofs.YtnedghhcidohnaaGreat

/-! limb.Add: the sum. -/
namespace Go.Proofs.YtnedghhcidohnaaGreat
open Go.RowKit

/-- What the closure of Add holds while the limbs zs have been told. -/
def AddInv (w0 : World) (pa pb pc : Nat) (av bv : Value) (xs ys : List Int) (zs : List Int) (wr : World) : Prop :=
  Below w0.heap.size w0 wr ∧ wr.heap[pa]? = some (.cells #[av] 42 (0, 0)) ∧ wr.heap[pb]? = some (.cells #[bv] 42 (0, 0)) ∧
    ∃ c, wr.heap[pc]? = some (.cells #[.int .u64 c] 56 (0, 0)) ∧ 0 ≤ c ∧ c ≤ 1 ∧ val zs + c * BB ^ zs.length = pv xs zs.length + pv ys zs.length

theorem add_step {v c x y p q P r : Int} (h : v + c * P = p + q) (hr : r = x + y + c) : v + (r % BB) * P + (r / BB) * (P * BB) = (p + x * P) + (q + y * P) := by
  have h1 := Int.emod_add_mul_ediv r BB
  have h2 : (r % BB + BB * (r / BB)) * P = r * P := by rw [h1]
  rw [hr] at h2 ⊢
  grind

theorem carry_bd {x y c : Int} (hx : 0 ≤ x) (hy : 0 ≤ y) (hx1 : x < BB) (hy1 : y < BB) (h0 : 0 ≤ c) (h1 : c ≤ 1) : 0 ≤ (x + y + c) / BB ∧ (x + y + c) / BB ≤ 1 := by
  unfold BB at *
  omega

theorem add_end {v c a b P : Int} (h : v + c * (P * BB) = a + b) (hv : 0 ≤ v) (hP : 0 ≤ P) (ha : a < P) (hb : b < P) (hc : 0 ≤ c) (hc1 : c ≤ 1) : v = a + b := by
  have hB := BB_two
  rcases Int.lt_or_eq_of_le hc with h' | h'
  · have e : c = 1 := by omega
    subst e
    have := Int.mul_le_mul_of_nonneg_left hB hP
    omega
  · subst h'; omega

theorem below3 (w : World) (o o' o'' : Obj) : Below w.heap.size w (((w.alloc o).alloc o').alloc o'') := (((Below.refl _ _).alloc (Nat.le_refl _) o).alloc (by simp) o').alloc (by simp; omega) o''

end Go.Proofs.YtnedghhcidohnaaGreat
