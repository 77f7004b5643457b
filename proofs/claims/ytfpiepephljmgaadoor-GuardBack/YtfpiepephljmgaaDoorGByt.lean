/-
  guard.bytesOf.
-/
import Derived.Test.YtfpiepephljmgaaDoorGNum
namespace Go.Proofs.YtfpiepephljmgaaDoor
open Go.RowKit

/-- A byte as a value. -/
def u8v (c : UInt8) : Value := .int .u8 (c.toNat : Int)

/-- The k lowest bytes of n, the highest one first. -/
def lowB (n : Nat) : Nat → List UInt8
  | 0 => []
  | k + 1 => UInt8.ofNat (n / 256 ^ k) :: lowB n k

theorem lowB_length (n k : Nat) : (lowB n k).length = k := by
  induction k with
  | zero => rfl
  | succ k ih => simp [lowB, ih]

theorem lowB_get (n k i : Nat) (h : i < k) : (lowB n k).getD i 0 = UInt8.ofNat (n / 256 ^ (k - (i + 1))) := by
  induction k generalizing i with
  | zero => omega
  | succ k ih =>
    cases i with
    | zero => simp [lowB]
    | succ i =>
      have := ih i (by omega)
      rw [show k + 1 - (i + 1 + 1) = k - (i + 1) by omega, ← this]
      simp [lowB]

theorem Tryd.info5 : (Tryd.prog.info? 5).map (fun i => (i.zero, i.size, i.bytes)) = some (some (.int .u8 0), 1, 1) := by kernel_rfl

set_option maxRecDepth 100000 in
set_option maxHeartbeats 2000000 in
theorem bytesOf_any (X : Nat) (k : Nat) (w : World) (hB : X < 18446744073709551616) (hk : k ≤ 8) :
    Calls Tryd.prog 21 #[.int .u64 (X : Int), .int .i64 k] w fun e w' => e = .returned (.string (str (lowB X k))) ∧ Below w.heap.size w w' := by
  have hmk := run_make_row' (P := Tryd.prog) 50 5 (.int .u8 0) 1 (by kernel_rfl) Tryd.info5 rfl .i64 .i64 k (by omega) (by omega)
  have hk2 : (k : Int) ≤ 8 := by omega
  have HX : Hid (X < 18446744073709551616) := hB
  have hX2 : (X : Int) < 18446744073709551616 := by omega
  clear hB
  go_enter Tryd.func21, Tryd.ntmps21
  go_wp2
  go_loopg [0, 6] k (fun n s0 s6 wr => ∃ (j Y : Nat), j ≤ k ∧ j ≤ n ∧ s6 = .int .i64 ((j : Int) - 1) ∧ s0 = .int .u64 (Y : Int) ∧ Y = X / 256 ^ (k - j) ∧ Y ≤ X ∧ wr.rowIs w.heap.size 5 k (fun i => if j ≤ i then u8v ((lowB X k).getD i 0) else .int .u8 0) ∧ Below w.heap.size w wr)
  case atStart =>
    refine ⟨k, X, Nat.le_refl _, Nat.le_refl _, by go_num, rfl, by simp, Nat.le_refl _, ?_, (Below.refl _ _).alloc (Nat.le_refl _) _⟩
    exact (World.rowIs_made w _ k 5).congr (fun i hi => by rw [if_neg (by omega)])
  case round =>
    obtain ⟨j, Y, hj, hjn, rfl, rfl, hY, hYX, hrow, hbel⟩ := hrel
    clear hmk
    by_cases h0 : j = 0
    · subst h0
      have hcells : ∀ i (hi : i < (lowB X k).length), wr.cell? ((⟨w.heap.size, 0, none⟩ : Addr).add i) = some (.int .u8 ((lowB X k)[i].toNat : Int)) := by
        intro i hi
        have hadd : (⟨w.heap.size, 0, none⟩ : Addr).add i = ⟨w.heap.size, i, none⟩ := by unfold Addr.add; split <;> simp_all
        rw [hadd, hrow.cell (by rw [lowB_length] at hi; exact hi), if_pos (Nat.zero_le _)]
        simp [u8v, hi]
      have hcv := run_convert_bytes_back (P := Tryd.prog) wr 50 9 5 ⟨w.heap.size, 0, none⟩ k (lowB X k) (by kernel_rfl) (by kernel_rfl) (by kernel_rfl) hcells
      rw [lowB_length] at hcv
      have HB : Hid (Below w.heap.size w wr) := hbel
      clear hcells hrow hbel hY hYX
      go_wp2
      go_ret
      exact ⟨rfl, HB.out⟩
    · obtain ⟨i, rfl⟩ : ∃ i, j = i + 1 := ⟨j - 1, by omega⟩
      have hij : (((i + 1 : Nat) : Int) - 1) = (i : Int) := by omega
      rw [hij]
      have hcell := hrow.cell (show i < k by omega)
      have hfree := hrow.frozen i
      have hY2 : (Y : Int) < 18446744073709551616 := by omega
      have hik : (i : Int) < (k : Int) := by omega
      have hv : Value.int .u8 ((Y : Int) % 256) = u8v ((lowB X k).getD i 0) := by
        rw [lowB_get X k i (by omega), ← hY]
        unfold u8v
        congr 1
      have HR : Hid (wr.rowIs w.heap.size 5 k (fun a => if i + 1 ≤ a then u8v ((lowB X k).getD a 0) else .int .u8 0) ∧ Below w.heap.size w wr ∧ Value.int .u8 ((Y : Int) % 256) = u8v ((lowB X k).getD i 0) ∧ Y = X / 256 ^ (k - (i + 1)) ∧ Y ≤ X) := ⟨hrow, hbel, hv, hY, hYX⟩
      clear hrow hbel hij hv hY hYX h0
      go_wp2
      go_roundg i
      case measure => omega
      case rel =>
        obtain ⟨r1, r2, r3, r4, r5⟩ := HR.out
        refine ⟨i, Y / 256, by omega, Nat.le_refl _, by go_num, by go_num, ?_, by omega, ?_, r2.setCell (by show w.heap.size ≤ w.heap.size; exact Nat.le_refl _) _⟩
        · rw [r4, show k - i = (k - (i + 1)) + 1 by omega, Nat.pow_succ, Nat.div_div_eq_div_mul]
        · refine (World.rowIs.set r1 i _).congr fun a ha => ?_
          by_cases e : a = i
          · subst e
            rw [if_pos rfl, if_pos (Nat.le_refl _)]
            exact r3
          · rw [if_neg e]
            by_cases e2 : i + 1 ≤ a
            · rw [if_pos e2, if_pos (by omega)]
            · rw [if_neg e2, if_neg (by omega)]
end Go.Proofs.YtfpiepephljmgaaDoor
