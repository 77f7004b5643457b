/-
  A row that has just been laid.
-/
import Derived.Test.YtnkjfandknndkaaSame
import Derived.Deep.OwnRows
namespace Go.Proofs.Ytnkjfandknndkaa
open Go.RowKit

/-- A row that has just been laid. -/
theorem RowAt.laid (w : World) (zs : List Int) (hl : Limbs zs) (hn : zs.length ≤ maxLen) : RowAt (w.alloc (Obj.cells (zs.map (Value.int .u64)).toArray 50)) (some ⟨w.heap.size, 0, none⟩) zs.length zs.length zs := by
  have h := World.ownsRow_lit (base := 0) (e := 50) (size := 1) w (zs.map (Value.int .u64)).toArray zs.length (Nat.zero_le _) hn (by simp)
  obtain ⟨a, c, e, hr⟩ := RowAt.owns h hl
  cases e
  exact hr

end Go.Proofs.Ytnkjfandknndkaa
