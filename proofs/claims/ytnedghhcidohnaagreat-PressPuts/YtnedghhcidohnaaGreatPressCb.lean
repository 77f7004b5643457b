/-
  The reference's PutList of layer 11; PressPuts.
-/
import Derived.Test.YtnedghhcidohnaaGreatPressCa
import Derived.Test.YtnedghhcidohnaaGreatPressYa
namespace Go.Proofs.YtnedghhcidohnaaGreat
open Go.RowKit

set_option maxRecDepth 100000 in
set_option maxHeartbeats 4000000 in
theorem rput_b (lo : Option Addr) (n cap : Nat) (ps : List TP) (ls : List TL) (S : List UInt8) (k : Int) (w : World) (h : PolyAt w lo n cap ps ls) (hp : PuIs ls S k) :
    Calls Tryz.prog 11 #[.slice lo n cap] w fun e w' => e = .returned (.tuple #[.string (str S), .int .i64 k]) ∧ Below w.heap.size w w' := by
  rcases hp with ⟨hm, rfl, rfl⟩ | ⟨hm, rfl, rfl⟩
  · exact rputPoly_b lo n cap ps ls w h hm
  · have H : Hid (PolyAt w lo n cap ps ls ∧ ¬ MayA ls) := ⟨h, hm⟩
    clear h hm
    go_enter Tryz.func11, Tryz.ntmps11
    go_wp2_with fail
    refine (rmayA_b _ _ _ _ ls _ H.out.1 false (no_iff H.out.2)).mono ?_
    rintro e w1 ⟨rfl, q1⟩
    have H1 : Hid (Below w.heap.size w w1) := q1
    clear q1
    go_wp2_with fail
    go_ret2
    exact ⟨rfl, H1.out⟩

theorem take_puts {l : List (List TL)} {i : Nat} {t : List TL} (h : l[i]? = some t) : (l.take (i + 1)).flatMap putPs = (l.take i).flatMap putPs ++ putPs t := by
  have : l.take (i + 1) = l.take i ++ [t] := by
    rw [List.take_add_one, h]; rfl
  rw [this, List.flatMap_append]; simp
theorem take_puts_len {l : List (List TL)} {i : Nat} (hi : i ≤ 24) (h : ∀ p ∈ l.take i, MayA p) : ((l.take i).flatMap putPs).length ≤ 437976 := by
  have h1 := flatMap_len putPs 18249 (l.take i) (fun t ht => putPs_len (h t ht))
  have h2 : (l.take i).length ≤ 24 := by rw [List.length_take]; omega
  have : 18249 * (l.take i).length ≤ 18249 * 24 := Nat.mul_le_mul_left _ h2
  omega

set_option maxRecDepth 100000 in
set_option maxHeartbeats 4000000 in
theorem rputList_b (lo : Option Addr) (n cap : Nat) (lss : List (List TL)) (S : List UInt8) (k : Int) (w : World) (h : ListAt w lo n lss) (hp : PutLs lss S k) :
    Calls Tryz.prog 13 #[.slice lo n cap] w fun e w' => e = .returned (.tuple #[.string (str S), .int .i64 k]) ∧ Below w.heap.size w w' := by
  have hN := h.most
  have hn0 : (0 : Int) ≤ (n : Int) := by omega
  have H : Hid (ListAt w lo n lss ∧ PutLs lss S k) := ⟨h, hp⟩
  by_cases hn : n ≤ 24
  · have hn' : ¬ (24 : Int) < (n : Int) := by omega
    have HN : Hid (n ≤ 24) := hn
    clear h hp hn
    go_enter Tryz.func13, Tryz.ntmps13
    go_wp2_with fail
    refine (rput_n n _ (by have := HN.out; omega)).mono ?_
    rintro e w2 ⟨rfl, q1⟩
    have H2 : Hid (ListAt w2 lo n lss ∧ Below w.heap.size w w2) := ⟨H.out.1.below q1, q1⟩
    clear q1
    go_wp2_with fail
    go_loopg [4, 5] n (fun m s4 s5 wr => ∃ (j : Nat) (T : List UInt8), j ≤ n ∧ n - j ≤ m ∧ s4 = .string (str T) ∧ s5 = .int .i64 j ∧ Hid (T = putL n ++ (lss.take j).flatMap putPs ∧ ListAt wr lo n lss ∧ Below w.heap.size w wr ∧ ∀ p ∈ lss.take j, MayA p))
    case atStart => exact ⟨0, putL n, Nat.zero_le _, by omega, rfl, rfl, by simp, H2.out.1, H2.out.2, fun p hp => by simp at hp⟩
    case round =>
      obtain ⟨j, T, hj, hjr, rfl, rfl, hI⟩ := hrel
      by_cases i0 : j < n
      · obtain ⟨b1, off1, po1, pn1, pc1, ps1, x, rfl, hcl, hx, hat, hlt⟩ := hI.out.2.1.elem j i0
        have hin : (j : Int) < (n : Int) := by omega
        have hi0' : (0 : Int) ≤ (j : Int) := by omega
        obtain ⟨X, i, hX⟩ := PuIs.ex x
        have hT1 : ((str T).size : Int) ≤ 438000 := by
          rw [str_size, hI.out.1, List.length_append]
          have := putL_few n (by have := HN.out; omega)
          have := take_puts_len (l := lss) (i := j) (by have := HN.out; omega) hI.out.2.2.2
          omega
        have hX1 : ((str X).size : Int) ≤ 18249 := by rw [str_size]; have := hX.len; omega
        have HJ : Hid (j < n ∧ n - j ≤ _ ∧ lss[j]? = some x ∧ PolyAt wr po1 pn1 pc1 ps1 x ∧ PuIs x X i) := ⟨i0, hjr, hx, hat, hX⟩
        have hap : str T ++ str X = str (T ++ X) := str_append T X
        clear hx hat hlt hj hjr i0
        go_wp2_with fail
        refine (rput_b _ _ _ _ x X i _ HJ.out.2.2.2.1 HJ.out.2.2.2.2).mono ?_
        rintro e w3 ⟨rfl, q1⟩
        have H3 : Hid (ListAt w3 (some ⟨b1, off1, none⟩) n lss ∧ Below w.heap.size w w3) := ⟨hI.out.2.1.below q1, chain hI.out.2.2.1 q1⟩
        clear q1
        rcases hX with ⟨hm, hX, rfl⟩ | ⟨hm, hX, rfl⟩
        · have HN2 : Hid (T ++ X = putL n ++ (lss.take (j + 1)).flatMap putPs ∧ ∀ p ∈ lss.take (j + 1), MayA p) := by
            refine ⟨by rw [hI.out.1, take_puts HJ.out.2.2.1, hX, List.append_assoc], fun p hp => ?_⟩
            rw [List.take_add_one, HJ.out.2.2.1] at hp
            rcases List.mem_append.1 hp with hp | hp
            · exact hI.out.2.2.2 p hp
            · simp at hp; subst hp; exact hm
          clear hX hm
          go_wp2_with fail
          go_roundg (n - (j + 1))
          case measure => have := HJ.out.1; have := HJ.out.2.1; omega
          case rel => exact ⟨j + 1, _, by have := HJ.out.1; omega, Nat.le_refl _, rfl, by go_num, HN2.out.1, H3.out.1, H3.out.2, HN2.out.2⟩
        · have HM : Hid (S = [] ∧ k = 1) := by
            rcases H.out.2 with ⟨g, _⟩ | ⟨_, g⟩
            · exact absurd (g.2 x (List.mem_of_getElem? HJ.out.2.2.1)) hm
            · exact g
          obtain ⟨rfl, rfl⟩ := HM.out
          clear hX hm
          go_wp2_with fail
          go_ret2
          exact ⟨rfl, H3.out.2⟩
      · have hin : j = n := by omega
        have hall : ∀ p ∈ lss, MayA p := by
          have := hI.out.2.2.2
          rw [List.take_of_length_le (by have := H.out.1.len; omega)] at this
          exact this
        have HF : Hid (T = S ∧ k = 0 ∧ Below w.heap.size w wr) := by
          rcases H.out.2 with ⟨_, g1, g2⟩ | ⟨g, _⟩
          · refine ⟨?_, g2, hI.out.2.2.1⟩
            rw [hI.out.1, g1, List.take_of_length_le (by have := H.out.1.len; omega), H.out.1.len]
          · exact absurd ⟨by have := H.out.1.len; have := HN.out; omega, hall⟩ g
        obtain ⟨h1, h2, _⟩ := HF.out
        subst h1 h2 hin
        clear hI hj hjr i0 hall
        go_wp2_with fail
        go_ret2
        exact ⟨rfl, HF.out.2.2⟩
  · have hn' : (24 : Int) < (n : Int) := by omega
    have hS : S = [] ∧ k = 1 := by
      rcases hp with ⟨g, _⟩ | ⟨_, g⟩
      · have := g.1; have := h.len; omega
      · exact g
    obtain ⟨rfl, rfl⟩ := hS
    clear h hp hn
    go_enter Tryz.func13, Tryz.ntmps13
    go_wp2_with fail
    go_ret2
    exact ⟨rfl, Below.refl _ _⟩
end Go.Proofs.YtnedghhcidohnaaGreat
