/-
  The reference's Lcm.
-/
import Derived.Test.YtjecibpeahjenaaMTa
import Derived.Test.YtjecibpeahjenaaMTb
namespace Go.Proofs.Ytjecibpeahjenaa
open Go.RowKit

theorem rlcm_ok (a b c d p q r s l0 l1 l2 l3 : Int) (w : World) (h : Both a b c d p q r s) (e0 : l0 = max a p) (e1 : l1 = max b q) (e2 : l2 = max c r) (e3 : l3 = max d s) :
    Calls Try.prog 18 #[.agg #[.int .i64 a, .int .i64 b, .int .i64 c, .int .i64 d], .agg #[.int .i64 p, .int .i64 q, .int .i64 r, .int .i64 s]] w fun e w' => e = .returned (.agg #[.int .i64 l0, .int .i64 l1, .int .i64 l2, .int .i64 l3]) ∧ Below w.heap.size w w' := by
  rcases Int.lt_or_le a p with n0 | n0
  · rcases Int.lt_or_le b q with n1 | n1
    · rcases Int.lt_or_le c r with n2 | n2
      · rcases Int.lt_or_le d s with n3 | n3
        · rw [show l0 = p by omega, show l1 = q by omega, show l2 = r by omega, show l3 = s by omega]
          exact rlcm_yyyy a b c d p q r s w h n0 n1 n2 n3
        · rw [show l0 = p by omega, show l1 = q by omega, show l2 = r by omega, show l3 = d by omega]
          exact rlcm_yyyx a b c d p q r s w h n0 n1 n2 n3
      · rcases Int.lt_or_le d s with n3 | n3
        · rw [show l0 = p by omega, show l1 = q by omega, show l2 = c by omega, show l3 = s by omega]
          exact rlcm_yyxy a b c d p q r s w h n0 n1 n2 n3
        · rw [show l0 = p by omega, show l1 = q by omega, show l2 = c by omega, show l3 = d by omega]
          exact rlcm_yyxx a b c d p q r s w h n0 n1 n2 n3
    · rcases Int.lt_or_le c r with n2 | n2
      · rcases Int.lt_or_le d s with n3 | n3
        · rw [show l0 = p by omega, show l1 = b by omega, show l2 = r by omega, show l3 = s by omega]
          exact rlcm_yxyy a b c d p q r s w h n0 n1 n2 n3
        · rw [show l0 = p by omega, show l1 = b by omega, show l2 = r by omega, show l3 = d by omega]
          exact rlcm_yxyx a b c d p q r s w h n0 n1 n2 n3
      · rcases Int.lt_or_le d s with n3 | n3
        · rw [show l0 = p by omega, show l1 = b by omega, show l2 = c by omega, show l3 = s by omega]
          exact rlcm_yxxy a b c d p q r s w h n0 n1 n2 n3
        · rw [show l0 = p by omega, show l1 = b by omega, show l2 = c by omega, show l3 = d by omega]
          exact rlcm_yxxx a b c d p q r s w h n0 n1 n2 n3
  · rcases Int.lt_or_le b q with n1 | n1
    · rcases Int.lt_or_le c r with n2 | n2
      · rcases Int.lt_or_le d s with n3 | n3
        · rw [show l0 = a by omega, show l1 = q by omega, show l2 = r by omega, show l3 = s by omega]
          exact rlcm_xyyy a b c d p q r s w h n0 n1 n2 n3
        · rw [show l0 = a by omega, show l1 = q by omega, show l2 = r by omega, show l3 = d by omega]
          exact rlcm_xyyx a b c d p q r s w h n0 n1 n2 n3
      · rcases Int.lt_or_le d s with n3 | n3
        · rw [show l0 = a by omega, show l1 = q by omega, show l2 = c by omega, show l3 = s by omega]
          exact rlcm_xyxy a b c d p q r s w h n0 n1 n2 n3
        · rw [show l0 = a by omega, show l1 = q by omega, show l2 = c by omega, show l3 = d by omega]
          exact rlcm_xyxx a b c d p q r s w h n0 n1 n2 n3
    · rcases Int.lt_or_le c r with n2 | n2
      · rcases Int.lt_or_le d s with n3 | n3
        · rw [show l0 = a by omega, show l1 = b by omega, show l2 = r by omega, show l3 = s by omega]
          exact rlcm_xxyy a b c d p q r s w h n0 n1 n2 n3
        · rw [show l0 = a by omega, show l1 = b by omega, show l2 = r by omega, show l3 = d by omega]
          exact rlcm_xxyx a b c d p q r s w h n0 n1 n2 n3
      · rcases Int.lt_or_le d s with n3 | n3
        · rw [show l0 = a by omega, show l1 = b by omega, show l2 = c by omega, show l3 = s by omega]
          exact rlcm_xxxy a b c d p q r s w h n0 n1 n2 n3
        · rw [show l0 = a by omega, show l1 = b by omega, show l2 = c by omega, show l3 = d by omega]
          exact rlcm_xxxx a b c d p q r s w h n0 n1 n2 n3

end Go.Proofs.Ytjecibpeahjenaa
