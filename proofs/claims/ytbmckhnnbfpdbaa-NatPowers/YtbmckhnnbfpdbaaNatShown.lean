/-
  The statements' anchor of layer 2: that a natural is one more.
-/
import Derived.Test.YtbmckhnnbfpdbaaNatOps
namespace Go.Proofs.Ytbmckhnnbfpdbaa
open Go.RowKit

theorem num_one {x : Int} (h0 : 0 < x) (h1 : x < BB) : Num [x] x := by
  refine ⟨?_, ?_, ?_⟩
  · intro y hy
    simp at hy
    subst hy
    exact ⟨by omega, h1⟩
  · intro n hn
    simp at hn
    subst hn
    simp
    omega
  · simp [val]

theorem nine {r s t : List Int} {k : Int} (hr : Num r 4) (hs : Num s 5) (h : Out (May r ∧ May s) False (val r + val s) t k) : k = 0 ∧ t = [9] := by
  have hb := Big_BB
  have hB : BB = 18446744073709551616 := rfl
  obtain ⟨e, n⟩ := h.ok_num ⟨hr.may.2 (by omega), hs.may.2 (by omega)⟩ (fun f => f) (by rw [hr.val, hs.val]; omega)
  rw [hr.val, hs.val] at n
  exact ⟨e, n.one (num_one (by omega) (by omega))⟩

set_option maxHeartbeats 1000000 in
theorem nshown_any (w : World) : Calls Try.prog 9 #[] w fun e w' => e = .returned (.bool true) ∧ Below w.heap.size w w' := by
  go_enter Try.func9, Try.ntmps9
  go_wp2_with fail
  refine (of_any 4 _ (by omega) (by unfold BB; omega)).mono ?_
  rintro e w1 ⟨ao, an, ac, a, rfl, ha, na, -, b1⟩
  have A1 : Hid (Below w.heap.size w w1) := b1
  have XA : Hid (RowAt w1 ao an ac a) := ha
  have NA : Hid (Num a 4) := na
  clear b1 ha na
  go_wp2_with fail
  refine (of_any 5 _ (by omega) (by unfold BB; omega)).mono ?_
  rintro e w2 ⟨bo, bn, bc, b, rfl, hb, nb, -, b2⟩
  have A2 : Hid (Below w.heap.size w w2) := chain A1.out b2
  have XA2 : Hid (RowAt w2 ao an ac a) := XA.out.below b2
  have XB : Hid (RowAt w2 bo bn bc b) := hb
  have NB : Hid (Num b 5) := nb
  clear b2 hb nb A1 XA
  go_wp2_with fail
  refine (nadd_any _ _ _ _ _ _ a b _ XA2.out XB.out).mono ?_
  rintro e w3 ⟨ro, m, cap, r, k, rfl, hr, ho, b3⟩
  obtain ⟨rfl, rfl⟩ := nine NA.out NB.out ho
  have A3 : Hid (Below w.heap.size w w3) := chain A2.out b3
  have h9 : RowAt (w3.alloc (Obj.cells #[.int .u64 9] 24)) (some ⟨w3.heap.size, 0, none⟩) 1 1 [9] := RowAt.laid w3 [9] (by intro x hx; simp at hx; subst hx; unfold BB; omega) (by simp [maxLen])
  have X9 : Hid (RowAt (w3.alloc (Obj.cells #[.int .u64 9] 24)) (some ⟨w3.heap.size, 0, none⟩) 1 1 [9]) := h9
  have XR : Hid (RowAt (w3.alloc (Obj.cells #[.int .u64 9] 24)) ro m cap [9]) := hr.below ((Below.refl _ _).alloc (Nat.le_refl _) _)
  have hz : w.heap.size ≤ w3.heap.size := A3.out.size
  clear hr ho b3 A2 XA2 XB NA NB h9
  go_wp2_with fail
  refine (rnsame_yes _ _ _ _ _ _ [9] [9] _ XR.out X9.out rfl).mono ?_
  rintro e w4 ⟨rfl, b4⟩
  have A4 : Hid (Below w.heap.size w w4) := chain (A3.out.alloc hz _) b4
  clear b4 A3 X9 XR
  go_wp2
  go_ret
  exact ⟨rfl, A4.out⟩
end Go.Proofs.Ytbmckhnnbfpdbaa
