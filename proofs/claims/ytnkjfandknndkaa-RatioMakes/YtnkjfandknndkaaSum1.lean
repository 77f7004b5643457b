/-
  The closure of limb.sum: one limb of a sum of rows, and the carry that it leaves.
-/
import Derived.Test.YtnkjfandknndkaaSumMath
import Derived.Test.YtnkjfandknndkaaAdd1
import Derived.Test.YtnkjfandknndkaaMul64
namespace Go.Proofs.Ytnkjfandknndkaa
open Go.RowKit

/-- A row in memory: where it begins, its length, its capacity, its limbs. -/
structure Rw where
  ao : Option Addr
  n : Nat
  cap : Nat
  xs : List Int

def Rw.v (r : Rw) : Value := .slice r.ao r.n r.cap

/-- Block g holds the rows rs, one behind the other. -/
structure RowsAt (w : World) (g : Nat) (rs : List Rw) : Prop where
  lt : g < w.heap.size
  cell : ∀ j (h : j < rs.length), w.cell? ⟨g, j, none⟩ = some (.slice rs[j].ao rs[j].n rs[j].cap)
  row : ∀ j (h : j < rs.length), RowAt w rs[j].ao rs[j].n rs[j].cap rs[j].xs

theorem RowsAt.below {w w' : World} {g : Nat} {rs : List Rw} (h : RowsAt w g rs) (hb : Below w.heap.size w w') : RowsAt w' g rs :=
  ⟨Nat.lt_of_lt_of_le h.lt hb.size, fun j hj => (hb.cell (p := ⟨g, j, none⟩) h.lt).trans (h.cell j hj), fun j hj => (h.row j hj).below hb⟩

theorem RowsAt.limbs {w : World} {g : Nat} {rs : List Rw} (h : RowsAt w g rs) : ∀ xs ∈ rs.map Rw.xs, Limbs xs := by
  intro xs hxs
  obtain ⟨r, hr, rfl⟩ := List.mem_map.1 hxs
  obtain ⟨j, hj, rfl⟩ := List.getElem_of_mem hr
  exact (h.row j hj).limbs

theorem tot_take (rs : List Rw) (i : Int) (j : Nat) (h : j < rs.length) : tot ((rs.map Rw.xs).take (j + 1)) i = tot ((rs.map Rw.xs).take j) i + lim rs[j].xs i := by
  rw [List.take_succ_eq_append_getElem (by simpa using h), tot_snoc]
  simp

theorem sum1_round {tv nv l s s' : Int} {q : Nat} (ht : 0 ≤ tv) (ht1 : tv < BB) (hl : 0 ≤ l) (hl1 : l < BB) (hn0 : 0 ≤ nv) (hn : nv ≤ q) (hq : q ≤ 900000) (h : tv + nv * BB = s) (hs : s' = s + l) :
    0 ≤ (tv + l) % BB ∧ 0 ≤ IntKind.u64.wrap (nv + (tv + l) / BB) ∧ IntKind.u64.wrap (nv + (tv + l) / BB) ≤ ((q + 1 : Nat) : Int) ∧ (tv + l) % BB < BB ∧ (tv + l) % BB + IntKind.u64.wrap (nv + (tv + l) / BB) * BB = s' := by
  have e : IntKind.u64.wrap (nv + (tv + l) / BB) = nv + (tv + l) / BB := by
    rw [wrapU, Int.emod_eq_of_lt]
    · unfold BB at *; omega
    · unfold BB at *; omega
  rw [e]
  unfold BB at *
  omega

set_option maxHeartbeats 1000000 in
theorem sum1_any (g k pc pr : Nat) (rs : List Rw) (i : Nat) (c : Int) (w : World) (hi : i ≤ 1000000) (hk : rs.length = k) (hk1 : k ≤ 900000)
    (hrs : RowsAt w g rs) (hpr : w.cell? ⟨pr, 0, none⟩ = some (.slice (some ⟨g, 0, none⟩) k k))
    (hpc : w.cell? ⟨pc, 0, none⟩ = some (.int .u64 c)) (hfc : w.frozen? ⟨pc, 0, none⟩ = false) (hc0 : 0 ≤ c) (hc1 : c < BB) :
    Calls Try.prog 92 #[.int .i64 i, .pointer (some ⟨pc, 0, none⟩), .pointer (some ⟨pr, 0, none⟩)] w fun e w' =>
      e = .returned (.int .u64 ((c + tot (rs.map Rw.xs) i) % BB)) ∧ Eqw w' (w.setCell ⟨pc, 0, none⟩ (.int .u64 ((c + tot (rs.map Rw.xs) i) / BB))) := by
  have HK : Hid (rs.length = k) := hk
  have HR : Hid (RowsAt w g rs) := hrs
  have HC : Hid (0 ≤ c ∧ c < BB) := ⟨hc0, hc1⟩
  clear hk hrs hc0 hc1
  go_enter Try.func92, Try.ntmps92
  go_wp2
  go_loop [5, 6, 8, 9, 13] (fun t nx _ _ j => ∃ (q : Nat) (tv nv : Int), q ≤ k ∧ j = .int .i64 q ∧ t = .int .u64 tv ∧ nx = .int .u64 nv ∧ 0 ≤ tv ∧ 0 ≤ nv ∧ nv ≤ q ∧ (tv < BB ∧ tv + nv * BB = c + tot ((rs.map Rw.xs).take q) i)) (fun _ _ _ _ j => k - (intOf j).toNat)
  case atStart => exact ⟨0, c, 0, Nat.zero_le _, rfl, rfl, rfl, HC.out.1, Int.le_refl _, Int.le_refl _, HC.out.2, by simp [tot]⟩
  case round =>
    obtain ⟨q, tv, nv, hq, rfl, rfl, rfl, ht0, hn0, hn1, heq⟩ := hrel
    have HE : Hid (tv < BB ∧ tv + nv * BB = c + tot ((rs.map Rw.xs).take q) i) := heq
    clear heq
    by_cases hlt : q < k
    · have hql : q < rs.length := by have := HK.out; omega
      have hcell := HR.out.cell q hql
      have hrow := HR.out.row q hql
      have htt := tot_take rs i q hql
      generalize rs[q].ao = ao at *
      generalize rs[q].n = n at *
      generalize rs[q].cap = cap at *
      generalize rs[q].xs = xs at *
      have hl := lim_bd hrow.limbs i
      have hadd := fun w => add64_any tv (lim xs i) 0 w ht0 hl.1 (Int.le_refl _) (by omega)
      have HRO : Hid (RowAt w ao n cap xs) := hrow
      have HT : Hid _ := htt
      have HL : Hid (0 ≤ lim xs i ∧ lim xs i < BB) := hl
      clear hrow htt hl hql
      go_wp2_with fail
      refine (at_any _ _ _ xs _ _ HRO.out (by omega) (by omega)).mono ?_
      rintro e w1 ⟨rfl, hw⟩
      subst hw
      go_wp2_with fail
      go_roundw
      case rel =>
        have hr := sum1_round ht0 HE.out.1 HL.out.1 HL.out.2 hn0 hn1 (by omega) HE.out.2 (show c + tot ((rs.map Rw.xs).take (q + 1)) i = _ by rw [HT.out, ← Int.add_assoc])
        exact ⟨q + 1, _, _, by omega, by go_num, rfl, rfl, hr⟩
      case measure => simp [intOf]; omega
    · have hqk : q = k := by omega
      have HQ : Hid (q = k) := hqk
      clear hqk
      go_wp2_with fail
      go_ret
      have he := HE.out
      rw [HQ.out, List.take_of_length_le (by have := HK.out; simp; omega)] at he
      obtain ⟨e1, e2⟩ := div_of he.2 ht0 he.1
      refine ⟨ret_int e1, ?_⟩
      rw [← e2]
      exact ⟨rfl, rfl, rfl, rfl⟩
end Go.Proofs.Ytnkjfandknndkaa
