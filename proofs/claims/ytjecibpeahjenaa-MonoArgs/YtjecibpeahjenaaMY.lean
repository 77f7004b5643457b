/-
  What layer 8's calls tell: of the program and of the reference the same.
-/
import Derived.Test.YtjecibpeahjenaaMT
import Derived.Test.YtjecibpeahjenaaMU
import Derived.Test.YtjecibpeahjenaaMW
namespace Go.Proofs.Ytjecibpeahjenaa
open Go.RowKit

/-- What Mul tells. -/
structure MulIs (a b c d p q r s x y z u k : Int) : Prop where
  arg : ¬ Both a b c d p q r s → x = 0 ∧ y = 0 ∧ z = 0 ∧ u = 0 ∧ k = 1
  exp : Both a b c d p q r s → ¬ May4 (a + p) (b + q) (c + r) (d + s) → x = 0 ∧ y = 0 ∧ z = 0 ∧ u = 0 ∧ k = 80
  ok : Both a b c d p q r s → May4 (a + p) (b + q) (c + r) (d + s) → x = a + p ∧ y = b + q ∧ z = c + r ∧ u = d + s ∧ k = 0
theorem MulIs.ex (a b c d p q r s : Int) : ∃ x y z u k, MulIs a b c d p q r s x y z u k := by
  by_cases hb : Both a b c d p q r s
  · by_cases hm : May4 (a + p) (b + q) (c + r) (d + s)
    · exact ⟨_, _, _, _, _, fun h => absurd hb h, fun _ h => absurd hm h, fun _ _ => ⟨rfl, rfl, rfl, rfl, rfl⟩⟩
    · exact ⟨_, _, _, _, _, fun h => absurd hb h, fun _ _ => ⟨rfl, rfl, rfl, rfl, rfl⟩, fun _ h => absurd h hm⟩
  · exact ⟨_, _, _, _, _, fun _ => ⟨rfl, rfl, rfl, rfl, rfl⟩, fun h => absurd h hb, fun h => absurd h hb⟩
theorem mul_is (a b c d p q r s x y z u k : Int) (w : World) (h : MulIs a b c d p q r s x y z u k) :
    Calls Try.prog 9 #[.agg #[.int .i64 a, .int .i64 b, .int .i64 c, .int .i64 d], .agg #[.int .i64 p, .int .i64 q, .int .i64 r, .int .i64 s]] w fun e w' => e = .returned (.tuple #[.agg #[.int .i64 x, .int .i64 y, .int .i64 z, .int .i64 u], .int .i64 k]) ∧ Below w.heap.size w w' := by
  by_cases hb : Both a b c d p q r s
  · by_cases hm : May4 (a + p) (b + q) (c + r) (d + s)
    · obtain ⟨rfl, rfl, rfl, rfl, rfl⟩ := h.ok hb hm
      exact mul_ok a b c d p q r s w hb hm
    · obtain ⟨rfl, rfl, rfl, rfl, rfl⟩ := h.exp hb hm
      exact mul_exp a b c d p q r s w hb hm
  · obtain ⟨rfl, rfl, rfl, rfl, rfl⟩ := h.arg hb
    exact mul_arg a b c d p q r s w hb
theorem rmul_is (a b c d p q r s x y z u k : Int) (w : World) (h : MulIs a b c d p q r s x y z u k) :
    Calls Try.prog 10 #[.agg #[.int .i64 a, .int .i64 b, .int .i64 c, .int .i64 d], .agg #[.int .i64 p, .int .i64 q, .int .i64 r, .int .i64 s]] w fun e w' => e = .returned (.tuple #[.agg #[.int .i64 x, .int .i64 y, .int .i64 z, .int .i64 u], .int .i64 k]) ∧ Below w.heap.size w w' := by
  by_cases hb : Both a b c d p q r s
  · by_cases hm : May4 (a + p) (b + q) (c + r) (d + s)
    · obtain ⟨rfl, rfl, rfl, rfl, rfl⟩ := h.ok hb hm
      exact rmul_ok a b c d p q r s w hb hm
    · obtain ⟨rfl, rfl, rfl, rfl, rfl⟩ := h.exp hb hm
      exact rmul_exp a b c d p q r s w hb hm
  · obtain ⟨rfl, rfl, rfl, rfl, rfl⟩ := h.arg hb
    exact rmul_arg a b c d p q r s w hb

/-- What Div tells. -/
structure DivIs (a b c d p q r s x y z u : Int) (t : Bool) : Prop where
  arg : ¬ Both a b c d p q r s → x = 0 ∧ y = 0 ∧ z = 0 ∧ u = 0 ∧ t = false
  no : Both a b c d p q r s → ¬ May4 (a - p) (b - q) (c - r) (d - s) → x = 0 ∧ y = 0 ∧ z = 0 ∧ u = 0 ∧ t = false
  ok : Both a b c d p q r s → May4 (a - p) (b - q) (c - r) (d - s) → x = a - p ∧ y = b - q ∧ z = c - r ∧ u = d - s ∧ t = true
theorem DivIs.ex (a b c d p q r s : Int) : ∃ x y z u t, DivIs a b c d p q r s x y z u t := by
  by_cases hb : Both a b c d p q r s
  · by_cases hm : May4 (a - p) (b - q) (c - r) (d - s)
    · exact ⟨_, _, _, _, _, fun h => absurd hb h, fun _ h => absurd hm h, fun _ _ => ⟨rfl, rfl, rfl, rfl, rfl⟩⟩
    · exact ⟨_, _, _, _, _, fun h => absurd hb h, fun _ _ => ⟨rfl, rfl, rfl, rfl, rfl⟩, fun _ h => absurd h hm⟩
  · exact ⟨_, _, _, _, _, fun _ => ⟨rfl, rfl, rfl, rfl, rfl⟩, fun h => absurd h hb, fun h => absurd h hb⟩
theorem div_is (a b c d p q r s x y z u : Int) (t : Bool) (w : World) (h : DivIs a b c d p q r s x y z u t) :
    Calls Try.prog 11 #[.agg #[.int .i64 a, .int .i64 b, .int .i64 c, .int .i64 d], .agg #[.int .i64 p, .int .i64 q, .int .i64 r, .int .i64 s]] w fun e w' => e = .returned (.tuple #[.agg #[.int .i64 x, .int .i64 y, .int .i64 z, .int .i64 u], .bool t]) ∧ Below w.heap.size w w' := by
  by_cases hb : Both a b c d p q r s
  · by_cases hm : May4 (a - p) (b - q) (c - r) (d - s)
    · obtain ⟨rfl, rfl, rfl, rfl, rfl⟩ := h.ok hb hm
      exact div_ok a b c d p q r s w hb hm
    · obtain ⟨rfl, rfl, rfl, rfl, rfl⟩ := h.no hb hm
      exact div_exp a b c d p q r s w hb hm
  · obtain ⟨rfl, rfl, rfl, rfl, rfl⟩ := h.arg hb
    exact div_arg a b c d p q r s w hb
theorem rdiv_is (a b c d p q r s x y z u : Int) (t : Bool) (w : World) (h : DivIs a b c d p q r s x y z u t) :
    Calls Try.prog 12 #[.agg #[.int .i64 a, .int .i64 b, .int .i64 c, .int .i64 d], .agg #[.int .i64 p, .int .i64 q, .int .i64 r, .int .i64 s]] w fun e w' => e = .returned (.tuple #[.agg #[.int .i64 x, .int .i64 y, .int .i64 z, .int .i64 u], .bool t]) ∧ Below w.heap.size w w' := by
  by_cases hb : Both a b c d p q r s
  · have hB := hb
    obtain ⟨⟨⟨a0, a1⟩, ⟨b0, b1⟩, ⟨c0, c1⟩, ⟨d0, d1⟩⟩, ⟨p0, p1⟩, ⟨q0, q1⟩, ⟨r0, r1⟩, ⟨s0, s1⟩⟩ := hB
    rcases Int.lt_or_le a p with g0 | g0
    · obtain ⟨rfl, rfl, rfl, rfl, rfl⟩ := h.no hb (fun m => by have := m.x.lo; omega)
      exact rdiv_no0 a b c d p q r s w hb g0
    · rcases Int.lt_or_le b q with g1 | g1
      · obtain ⟨rfl, rfl, rfl, rfl, rfl⟩ := h.no hb (fun m => by have := m.y.lo; omega)
        exact rdiv_no1 a b c d p q r s w hb g0 g1
      · rcases Int.lt_or_le c r with g2 | g2
        · obtain ⟨rfl, rfl, rfl, rfl, rfl⟩ := h.no hb (fun m => by have := m.z.lo; omega)
          exact rdiv_no2 a b c d p q r s w hb g0 g1 g2
        · rcases Int.lt_or_le d s with g3 | g3
          · obtain ⟨rfl, rfl, rfl, rfl, rfl⟩ := h.no hb (fun m => by have := m.u.lo; omega)
            exact rdiv_no3 a b c d p q r s w hb g0 g1 g2 g3
          · obtain ⟨rfl, rfl, rfl, rfl, rfl⟩ := h.ok hb ⟨⟨by omega, by omega⟩, ⟨by omega, by omega⟩, ⟨by omega, by omega⟩, ⟨by omega, by omega⟩⟩
            exact rdiv_ok a b c d p q r s w hb g0 g1 g2 g3
  · obtain ⟨rfl, rfl, rfl, rfl, rfl⟩ := h.arg hb
    exact rdiv_arg a b c d p q r s w hb

/-- What Lcm tells. -/
structure LcmIs (a b c d p q r s x y z u : Int) : Prop where
  arg : ¬ Both a b c d p q r s → x = 0 ∧ y = 0 ∧ z = 0 ∧ u = 0
  ok : Both a b c d p q r s → x = max a p ∧ y = max b q ∧ z = max c r ∧ u = max d s
theorem LcmIs.ex (a b c d p q r s : Int) : ∃ x y z u, LcmIs a b c d p q r s x y z u := by
  by_cases hb : Both a b c d p q r s
  · exact ⟨_, _, _, _, fun h => absurd hb h, fun _ => ⟨rfl, rfl, rfl, rfl⟩⟩
  · exact ⟨_, _, _, _, fun _ => ⟨rfl, rfl, rfl, rfl⟩, fun h => absurd h hb⟩
theorem lcm_is (a b c d p q r s x y z u : Int) (w : World) (h : LcmIs a b c d p q r s x y z u) :
    Calls Try.prog 17 #[.agg #[.int .i64 a, .int .i64 b, .int .i64 c, .int .i64 d], .agg #[.int .i64 p, .int .i64 q, .int .i64 r, .int .i64 s]] w fun e w' => e = .returned (.agg #[.int .i64 x, .int .i64 y, .int .i64 z, .int .i64 u]) ∧ Below w.heap.size w w' := by
  by_cases hb : Both a b c d p q r s
  · obtain ⟨e1, e2, e3, e4⟩ := h.ok hb
    exact lcm_val a b c d p q r s x y z u w hb e1 e2 e3 e4
  · obtain ⟨rfl, rfl, rfl, rfl⟩ := h.arg hb
    exact lcm_arg a b c d p q r s w hb
theorem rlcm_is (a b c d p q r s x y z u : Int) (w : World) (h : LcmIs a b c d p q r s x y z u) :
    Calls Try.prog 18 #[.agg #[.int .i64 a, .int .i64 b, .int .i64 c, .int .i64 d], .agg #[.int .i64 p, .int .i64 q, .int .i64 r, .int .i64 s]] w fun e w' => e = .returned (.agg #[.int .i64 x, .int .i64 y, .int .i64 z, .int .i64 u]) ∧ Below w.heap.size w w' := by
  by_cases hb : Both a b c d p q r s
  · obtain ⟨e1, e2, e3, e4⟩ := h.ok hb
    exact rlcm_ok a b c d p q r s x y z u w hb e1 e2 e3 e4
  · obtain ⟨rfl, rfl, rfl, rfl⟩ := h.arg hb
    exact rlcm_arg a b c d p q r s w hb

/-- What Coprime tells. -/
structure CopIs (a b c d p q r s : Int) (t : Bool) : Prop where
  arg : ¬ Both a b c d p q r s → t = false
  ok : Both a b c d p q r s → (t = true ↔ Apart a b c d p q r s)
theorem CopIs.ex (a b c d p q r s : Int) : ∃ t, CopIs a b c d p q r s t := by
  by_cases hb : Both a b c d p q r s
  · by_cases ha : Apart a b c d p q r s
    · exact ⟨true, fun h => absurd hb h, fun _ => ⟨fun _ => ha, fun _ => rfl⟩⟩
    · exact ⟨false, fun h => absurd hb h, fun _ => ⟨fun h => (by cases h), fun h => absurd h ha⟩⟩
  · exact ⟨false, fun _ => rfl, fun h => absurd h hb⟩
theorem cop_is (a b c d p q r s : Int) (t : Bool) (w : World) (h : CopIs a b c d p q r s t) :
    Calls Try.prog 19 #[.agg #[.int .i64 a, .int .i64 b, .int .i64 c, .int .i64 d], .agg #[.int .i64 p, .int .i64 q, .int .i64 r, .int .i64 s]] w fun e w' => e = .returned (.bool t) ∧ Below w.heap.size w w' := by
  by_cases hb : Both a b c d p q r s
  · exact cop_ok a b c d p q r s w hb t (h.ok hb)
  · obtain rfl := h.arg hb
    exact cop_arg a b c d p q r s w hb
theorem CopIs.no {a b c d p q r s : Int} {t : Bool} (h : CopIs a b c d p q r s t) (hb : Both a b c d p q r s) (g : ¬ Apart a b c d p q r s) : t = false := by
  cases t with
  | false => rfl
  | true => exact absurd ((h.ok hb).1 rfl) g
theorem rcop_is (a b c d p q r s : Int) (t : Bool) (w : World) (h : CopIs a b c d p q r s t) :
    Calls Try.prog 20 #[.agg #[.int .i64 a, .int .i64 b, .int .i64 c, .int .i64 d], .agg #[.int .i64 p, .int .i64 q, .int .i64 r, .int .i64 s]] w fun e w' => e = .returned (.bool t) ∧ Below w.heap.size w w' := by
  by_cases hb : Both a b c d p q r s
  · have hB := hb
    obtain ⟨⟨⟨a0, a1⟩, ⟨b0, b1⟩, ⟨c0, c1⟩, ⟨d0, d1⟩⟩, ⟨p0, p1⟩, ⟨q0, q1⟩, ⟨r0, r1⟩, ⟨s0, s1⟩⟩ := hB
    by_cases g0 : 0 < a ∧ 0 < p
    · obtain rfl := h.no hb (fun m => by have := m.x; omega)
      exact rcop_0 a b c d p q r s w hb g0.1 g0.2
    · have f0 : ¬ (0 : Int) < a ∨ ((0 : Int) < a ∧ ¬ (0 : Int) < p) := by omega
      by_cases g1 : 0 < b ∧ 0 < q
      · obtain rfl := h.no hb (fun m => by have := m.y; omega)
        exact rcop_1 a b c d p q r s w hb f0 g1.1 g1.2
      · have f1 : ¬ (0 : Int) < b ∨ ((0 : Int) < b ∧ ¬ (0 : Int) < q) := by omega
        by_cases g2 : 0 < c ∧ 0 < r
        · obtain rfl := h.no hb (fun m => by have := m.z; omega)
          exact rcop_2 a b c d p q r s w hb f0 f1 g2.1 g2.2
        · have f2 : ¬ (0 : Int) < c ∨ ((0 : Int) < c ∧ ¬ (0 : Int) < r) := by omega
          by_cases g3 : 0 < d ∧ 0 < s
          · obtain rfl := h.no hb (fun m => by have := m.u; omega)
            exact rcop_3 a b c d p q r s w hb f0 f1 f2 g3.1 g3.2
          · have f3 : ¬ (0 : Int) < d ∨ ((0 : Int) < d ∧ ¬ (0 : Int) < s) := by omega
            obtain rfl := (h.ok hb).2 ⟨by omega, by omega, by omega, by omega⟩
            exact rcop_4 a b c d p q r s w hb f0 f1 f2 f3
  · obtain rfl := h.arg hb
    exact rcop_arg a b c d p q r s w hb

/-- What May and Degree tell. -/
structure DegIs (a b c d : Int) (t : Bool) (n : Int) : Prop where
  no : ¬ May4 a b c d → t = false ∧ n = 0
  ok : May4 a b c d → t = true ∧ n = a + b + c + d
theorem DegIs.ex (a b c d : Int) : ∃ t n, DegIs a b c d t n := by
  by_cases h : May4 a b c d
  · exact ⟨_, _, fun g => absurd h g, fun _ => ⟨rfl, rfl⟩⟩
  · exact ⟨_, _, fun _ => ⟨rfl, rfl⟩, fun g => absurd g h⟩
theorem may_is (a b c d : Int) (t : Bool) (n : Int) (w : World) (h : DegIs a b c d t n) :
    Calls Try.prog 13 #[.agg #[.int .i64 a, .int .i64 b, .int .i64 c, .int .i64 d]] w fun e w' => e = .returned (.bool t) ∧ Below w.heap.size w w' := by
  by_cases hm : May4 a b c d
  · rw [(h.ok hm).1]
    exact may_yes a b c d w hm
  · rw [(h.no hm).1]
    exact may_no a b c d w hm
theorem rmay_is (a b c d : Int) (t : Bool) (n : Int) (w : World) (h : DegIs a b c d t n) :
    Calls Try.prog 14 #[.agg #[.int .i64 a, .int .i64 b, .int .i64 c, .int .i64 d]] w fun e w' => e = .returned (.bool t) ∧ Below w.heap.size w w' := by
  by_cases hm : May4 a b c d
  · rw [(h.ok hm).1]
    exact rmay_yes a b c d w hm
  · rw [(h.no hm).1]
    exact rmay_no a b c d w hm
theorem deg_is (a b c d : Int) (t : Bool) (n : Int) (w : World) (h : DegIs a b c d t n) :
    Calls Try.prog 15 #[.agg #[.int .i64 a, .int .i64 b, .int .i64 c, .int .i64 d]] w fun e w' => e = .returned (.int .i64 n) ∧ Below w.heap.size w w' := by
  by_cases hm : May4 a b c d
  · rw [(h.ok hm).2]
    exact deg_ok a b c d w hm
  · rw [(h.no hm).2]
    exact deg_no a b c d w hm
theorem rdeg_is (a b c d : Int) (t : Bool) (n : Int) (w : World) (h : DegIs a b c d t n) :
    Calls Try.prog 16 #[.agg #[.int .i64 a, .int .i64 b, .int .i64 c, .int .i64 d]] w fun e w' => e = .returned (.int .i64 n) ∧ Below w.heap.size w w' := by
  by_cases hm : May4 a b c d
  · rw [(h.ok hm).2]
    exact rdeg_ok a b c d w hm
  · rw [(h.no hm).2]
    exact rdeg_no a b c d w hm

end Go.Proofs.Ytjecibpeahjenaa
