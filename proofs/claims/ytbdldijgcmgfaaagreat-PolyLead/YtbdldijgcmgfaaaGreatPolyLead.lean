/-
  Proved here: for every input PolyLead returns true, and leaves its arguments as they were. No condition.
-/
import Derived.Test.YtbdldijgcmgfaaaGreatLeadX
import Derived.Test.YtbdldijgcmgfaaaGreatPolyCameS
namespace Go.Proofs.YtbdldijgcmgfaaaGreat.polyLead
open Go.ChangeShapes Go.WideShapes Go.ChangeAt Go.RowKit
open Go.ChangeMaps (open_string shut_string)
set_option linter.unusedVariables false
set_option linter.unusedSimpArgs false

theorem walk (a0 : Int) (no1_0 : Option Addr) (nn1_0 nc1_0 : Nat) (mo1_0 : Option Addr) (mn1_0 mc1_0 : Nat) (no1_1 : Option Addr) (nn1_1 nc1_1 : Nat) (mo1_1 : Option Addr) (mn1_1 mc1_1 : Nat) (w : World) (w0 : (Lit.int .u8 a0).wf = true) (w1_0 : SmallAt w no1_0 nn1_0 mo1_0 mn1_0) (w1_1 : SmallAt w no1_1 nn1_1 mo1_1 mn1_1) :
    Calls Tryz.prog 8 #[.int .u8 a0, .agg #[.slice no1_0 nn1_0 nc1_0, .slice mo1_0 mn1_0 mc1_0, .slice no1_1 nn1_1 nc1_1, .slice mo1_1 mn1_1 mc1_1]] w fun e w' => e = .returned (.bool true) ∧ Below w.heap.size w w' := by
  exact lead_walk a0 no1_0 nn1_0 nc1_0 mo1_0 mn1_0 mc1_0 no1_1 nn1_1 nc1_1 mo1_1 mn1_1 mc1_1 w (bounds_u8 w0).1 (bounds_u8 w0).2 w1_0 w1_1

set_option maxRecDepth 100000 in
theorem lifted (os : Os) (started : os.Started) (H : Type) (enc : TypeId × Value → H) :
    ReturnsInHanded {} Tryz.checked os 8 .any (Rows.polyLeadSpec.pre6 enc Tryz.prog Tryz.f8 Rows.polyLeadRow.domain false) (Rows.polyLeadSpec.post enc Tryz.prog Tryz.f8 false true false false) := by
  refine returnsInHanded_of_change (C := Tryz.checked) own started (by kernel_rfl) Tryz.func8
    (ChangeSpec.witness6 (enc := enc) (C := Tryz.checked) false ⟨#[], #[.int .u8 0, .agg #[.slice none 0 0, .slice none 0 0, .slice none 0 0, .slice none 0 0]], []⟩ 8 (by kernel_rfl) (by kernel_rfl) (by kernel_rfl) (by kernel_rfl)) ?_
  intro W base args ds gs before hval0 hW hcnd _
  have hval : ∀ (j : Nat) t v, Tryz.f8.params[j]? = some t → args[j]? = some v → Value.okWide Tryz.prog W .any base t v := hval0
  have hW' := hW
  obtain ⟨p, q, hA0, hV, rfl, hfz, hnd⟩ := hW
  have hA : DataW.TrodAll enc Tryz.prog W 0 (fun _ => true) true Tryz.f8.params.toList args.toList ds p := hA0
  rw [Tryz.params8] at hA hval
  obtain ⟨v0, vs0, d0, ds0, p0, q0, hargs, rfl, rfl, h0, r0⟩ := trodAll_cons hA
  obtain ⟨v1, vs1, d1, ds1, p1, q1, rfl, rfl, rfl, h1, r1⟩ := trodAll_cons r0
  obtain ⟨rfl, rfl, rfl⟩ := trodAll_nil r1
  obtain rfl : args = #[v0, v1] := by cases args; simp_all
  obtain ⟨rfl, rfl⟩ := trodVars_none hV
  obtain ⟨a0, rfl, rfl, rfl, w0⟩ := open_int Tryz.underlying5 (hval 0 5 v0 rfl rfl) h0
  have k1 := h1
  have lt1 : ∀ x ∈ p1, x.block < W.heap.size := by obtain ⟨m, hm⟩ := k1; exact DataW.trod_lt m _ _ _ hm
  obtain ⟨no1_0, nn1_0, nc1_0, mo1_0, mn1_0, mc1_0, no1_1, nn1_1, nc1_1, mo1_1, mn1_1, mc1_1, rfl, w1_0, w1_1⟩ := open_smalls2 (hval 1 62 v1 rfl rfl) h1
  clear hA0 hval0
  refine (walk a0 no1_0 nn1_0 nc1_0 mo1_0 mn1_0 mc1_0 no1_1 nn1_1 nc1_1 mo1_1 mn1_1 mc1_1 W w0 w1_0 w1_1).mono fun e W' ⟨he, hg⟩ => ?_
  subst he
  exact ⟨_, rfl, _, _, _, [], _, [], hW', trodAll_mk1 (shut_bool Tryz.underlying4 _), (trodAll_cons_mk (shut_int Tryz.underlying5 w0) (trodAll_cons_mk (Below.trod laidOut (by kernel_rfl) (of_decide_eq_true (by kernel_rfl)) k1 hg lt1) trodAll_mk0)), rfl, hg.frame _, fun h => by cases h⟩

theorem over : Rows.polyLeadRow.holds Tryz.pinned (OpenSpec.ofChange Rows.polyLeadSpec) :=
  OpenClaim.holds_of_wide 8 Tryz.f8 rfl rfl rfl rfl rfl rfl rfl ⟨rfl, rfl, rfl, rfl, rfl⟩ rfl rfl rfl rfl rfl (by kernel_rfl) Tryz.func8 (by kernel_rfl)
    (of_decide_eq_true (by kernel_rfl)) (by unfold Func.isWrapper; first | (rw [if_pos (by decide +kernel)]; kernel_rfl) | (rw [if_neg (by decide +kernel)]; exact ⟨rfl, rfl⟩))
    (fun os started H enc _ => lifted os started H enc)

theorem proved : Rows.PolyLeadSaid :=
  over
#print axioms proved
end Go.Proofs.YtbdldijgcmgfaaaGreat.polyLead
