/-
  The closure of quot.divide: a row less a multiple of the divisor.
-/
import Derived.Test.YtnkjfandknndkaaSub
import Derived.Test.YtnkjfandknndkaaMul
import Derived.Test.YtnkjfandknndkaaLaid
import Derived.Test.YtnkjfandknndkaaDivMath
namespace Go.Proofs.Ytnkjfandknndkaa
open Go.RowKit
attribute [local go_sem ↓] Go.wp_at_zero Go.wp_at_succ

theorem one_row (w : World) (t : Int) (h0 : 0 ≤ t) (h1 : t < BB) : RowAt (w.alloc (Obj.cells #[.int .u64 t] 50)) (some ⟨w.heap.size, 0, none⟩) 1 1 [t] := RowAt.laid w [t] (by intro y hy; simp at hy; subst hy; exact ⟨h0, h1⟩) (by simp [maxLen])

set_option maxRecDepth 100000 in
set_option maxHeartbeats 1000000 in
theorem less_yes (ro bo : Option Addr) (nr cr nb cb pr pb : Nat) (rs bs : List Int) (t : Int) (w : World) (hr : RowAt w ro nr cr rs) (hb : RowAt w bo nb cb bs) (hnr : nr ≤ 5000) (hnb : nb ≤ 5000) (t0 : 0 ≤ t) (t1 : t < BB)
    (hpr : w.cell? ⟨pr, 0, none⟩ = some (.slice ro nr cr)) (hpb : w.cell? ⟨pb, 0, none⟩ = some (.slice bo nb cb)) (hlr : pr < w.heap.size) (hlb : pb < w.heap.size) (hle : val bs * t ≤ val rs) :
    Calls Try.prog 81 #[.int .u64 t, .pointer (some ⟨pr, 0, none⟩), .pointer (some ⟨pb, 0, none⟩)] w fun e w' =>
      ∃ so m cap s, e = .returned (.tuple #[.slice so m cap, .bool true]) ∧ RowAt w' so m cap s ∧ Num s (val rs - val bs * t) ∧ Fresh w.heap.size so ∧ Below w.heap.size w w' := by
  have HR : Hid _ := hr
  have HB : Hid _ := hb
  have HL : Hid (val bs * t ≤ val rs) := hle
  have hB0 : Below w.heap.size w w.drew := (Below.refl _ _).drew
  have hB1 : Below w.heap.size w (w.drew.alloc (Obj.cells #[.int .u64 t] 50)) := hB0.alloc (by simp) _
  have HB1 : Hid _ := hB1
  have H1 : Hid (RowAt (w.drew.alloc (Obj.cells #[.int .u64 t] 50)) (some ⟨w.heap.size, 0, none⟩) 1 1 [t]) := one_row w.drew t t0 t1
  clear hr hb hle hB0 hB1
  go_enter Try.func81, Try.ntmps81
  go_wp2
  go_region_held3 (fun w' => w'.cell? ⟨pr, 0, none⟩ = some (.slice ro nr cr) ∧ w'.cell? ⟨pb, 0, none⟩ = some (.slice bo nb cb)) (first | go_keep | (refine ⟨?_, ?_⟩; (rw [b2.cell hlr]; assumption); (rw [b2.cell hlb]; assumption)))
    (first
      | (go_at_call 49; refine (mul_any _ _ _ _ _ _ bs [t] _ (HB.out.below HB1.out) H1.out (by omega) (by omega)).mono ?_; rintro e w1 ⟨mo, mm, mc, ms, rfl, h1, h2, h3, h4⟩; have b2 := chain HB1.out h4)
      | (go_at_call 73; refine (sub_fresh _ _ _ _ _ _ rs ms _ (HR.out.below b2) h1 (by omega) (by omega) (by rw [h2.val]; simpa [val] using HL.out)).mono ?_; rintro e w2 ⟨so, sm, sc, ss, rfl, g1, g2, g3, g4⟩; have b2 := chain b2 g4))
  have G1 : Hid _ := g1
  have G2 : Hid (Num ss (val rs - val bs * t)) := by
    show Num ss (val rs - val bs * t)
    rw [h2.val, show val [t] = t by simp [val]] at g2
    exact g2
  have GF : Hid (Fresh w.heap.size so) := g3.mono (Nat.le_trans HB1.out.size h4.size)
  have BB2 : Hid (Below w.heap.size w w2) := b2
  clear h1 h2 h3 h4 g1 g2 g3 g4 HB1 H1
  go_wp2
  go_ret2
  exact ⟨so, sm, sc, ss, rfl, G1.out, G2.out, GF.out, BB2.out⟩
set_option maxRecDepth 100000 in
set_option maxHeartbeats 1000000 in
theorem less_no (ro bo : Option Addr) (nr cr nb cb pr pb : Nat) (rs bs : List Int) (t : Int) (w : World) (hr : RowAt w ro nr cr rs) (hb : RowAt w bo nb cb bs) (hnr : nr ≤ 5000) (hnb : nb ≤ 5000) (t0 : 0 ≤ t) (t1 : t < BB)
    (hpr : w.cell? ⟨pr, 0, none⟩ = some (.slice ro nr cr)) (hpb : w.cell? ⟨pb, 0, none⟩ = some (.slice bo nb cb)) (hlr : pr < w.heap.size) (hlb : pb < w.heap.size) (hlt : val rs < val bs * t) :
    Calls Try.prog 81 #[.int .u64 t, .pointer (some ⟨pr, 0, none⟩), .pointer (some ⟨pb, 0, none⟩)] w fun e w' =>
      ∃ so cap, e = .returned (.tuple #[.slice so 0 cap, .bool false]) ∧ Below w.heap.size w w' := by
  have HR : Hid _ := hr
  have HB : Hid _ := hb
  have HL : Hid (val rs < val bs * t) := hlt
  have hB0 : Below w.heap.size w w.drew := (Below.refl _ _).drew
  have hB1 : Below w.heap.size w (w.drew.alloc (Obj.cells #[.int .u64 t] 50)) := hB0.alloc (by simp) _
  have HB1 : Hid _ := hB1
  have H1 : Hid (RowAt (w.drew.alloc (Obj.cells #[.int .u64 t] 50)) (some ⟨w.heap.size, 0, none⟩) 1 1 [t]) := one_row w.drew t t0 t1
  clear hr hb hlt hB0 hB1
  go_enter Try.func81, Try.ntmps81
  go_wp2
  go_region_held3 (fun w' => w'.cell? ⟨pr, 0, none⟩ = some (.slice ro nr cr) ∧ w'.cell? ⟨pb, 0, none⟩ = some (.slice bo nb cb)) (first | go_keep | (refine ⟨?_, ?_⟩; (rw [b2.cell hlr]; assumption); (rw [b2.cell hlb]; assumption)))
    (first
      | (go_at_call 49; refine (mul_any _ _ _ _ _ _ bs [t] _ (HB.out.below HB1.out) H1.out (by omega) (by omega)).mono ?_; rintro e w1 ⟨mo, mm, mc, ms, rfl, h1, h2, h3, h4⟩; have b2 := chain HB1.out h4)
      | (go_at_call 73; refine (sub_no _ _ _ _ _ _ rs ms _ (HR.out.below b2) h1 (by omega) (by omega) (by rw [h2.val]; simpa [val] using HL.out)).mono ?_; rintro e w2 ⟨so, sc, rfl, g1, g4⟩; have b2 := chain b2 g4))
  have BB2 : Hid (Below w.heap.size w w2) := b2
  clear h1 h2 h3 h4 g1 g4 HB1 H1
  go_wp2
  go_ret2
  exact ⟨so, sc, rfl, BB2.out⟩
end Go.Proofs.Ytnkjfandknndkaa
