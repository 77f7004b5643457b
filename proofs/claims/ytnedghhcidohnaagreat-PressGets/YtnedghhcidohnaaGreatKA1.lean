/-
  Joined: PressQ · PressR · PressS.
-/
import Derived.Test.YtnedghhcidohnaaGreatJY1
import Derived.Deep.RegionLaw

/-! The reference's reader of texts: a product, walked. -/
namespace Go.Proofs.YtnedghhcidohnaaGreat
open Go.RowKit

theorem PrSt.put {w wr w2 w' : World} {B A0 A5 : Nat} {s : List UInt8} {neg : Bool} {fs : List Fac} {g cap i : Nat} {b : Bool} {f : Fac} (h : PrSt w wr B A0 A5 s neg fs g cap i b) (hB : B < w.heap.size) (h5 : w.heap.size ≤ A5) (h50 : A0 ≠ A5)
    {g' cap' : Nat} (hb : Below wr.heap.size wr w2) (ho : OwnS w' w.heap.size 112 3 (.slice (some ⟨g', 0, none⟩) (fs.length + 1) cap') (fs.length + 1) (fcells fs ++ f.cs)) (hg : w2.grownBy w' (some g)) :
    PrSt w (w'.setCell ⟨A5, 1, none⟩ (.slice (some ⟨g', 0, none⟩) (fs.length + 1) cap')) B A0 A5 s neg (fs ++ [f]) g' cap' i b := by
  have hge := h.row.ge
  have hr : FRow w' w.heap.size g' cap' (fs ++ [f]) := by
    unfold FRow
    rw [List.length_append]
    simpa [fcells] using ho
  have hgg : wr.grownBy w2 (some g) := grown_below hb _
  have hgw : wr.grownBy w' (some g) := grown2 hgg hg
  have hbx := h.box.grown hgw (fun e => h.row.ne h.box (by injection e))
  have hrs := h.res.grown hgw (fun e => h.row.ne h.res (by injection e))
  have htx := h.tx.grown hgw (fun e => by injection e with e; omega)
  have hne : g' ≠ A5 := fun e => hr.ne hbx e.symm
  refine ⟨htx.other (by omega), ?_, hr.grown (grown_setk _ _ _ _) (fun e => hne (by injection e)), ?_, hrs.other h50⟩
  · have h1 : w.grownBy w' (some B) := grown_trans h.gr hgw (.inr (by have := h.gr.size; omega)) |> fun x => x
    exact grown_trans h1 (grown_setk w' A5 1 _) (.inr h5)
  · have := hbx.s1 (.slice (some ⟨g', 0, none⟩) (fs.length + 1) cap')
    simpa using this

theorem more_len {s : List UInt8} {i : Nat} (h : eats s i 42 = true) : skp s i < s.length := by
  simp [eats] at h
  exact h.1
theorem more_end {s : List UInt8} {i : Nat} {k : Nat} {b : Bool} (h : b = true ∨ eats s i 42 = false) : moreF k s i b = ([], i, b) := by
  cases k with
  | zero => rfl
  | succ k =>
    rw [moreF]
    rcases h with h | h
    · simp [h]
    · simp [h]
theorem more_next {s : List UInt8} {i : Nat} {k : Nat} (h : eats s i 42 = true) : moreF (k + 1) s i false = ((facF s (skp s i + 1) false).1 :: (moreF k s (facF s (skp s i + 1) false).2.1 (facF s (skp s i + 1) false).2.2).1, (moreF k s (facF s (skp s i + 1) false).2.1 (facF s (skp s i + 1) false).2.2).2) := by
  rw [moreF]
  simp [h]

theorem PrSt.done {w W : World} {B A0 A5 : Nat} {s : List UInt8} {neg : Bool} {fs : List Fac} {g cap i : Nat} {b : Bool} (h : PrSt w W B A0 A5 s neg fs g cap i b) (hB : B < w.heap.size) (h0 : w.heap.size ≤ A0) (F : List Fac × Nat × Bool) (hF : F = (fs, i, b)) :
    PBx ((W.setCell ⟨A0, 0, none⟩ (.bool neg)).setCell ⟨A0, 1, none⟩ (.slice (some ⟨g, 0, none⟩) fs.length cap)) A0 neg (.slice (some ⟨g, 0, none⟩) fs.length cap) ∧
    FRow ((W.setCell ⟨A0, 0, none⟩ (.bool neg)).setCell ⟨A0, 1, none⟩ (.slice (some ⟨g, 0, none⟩) fs.length cap)) w.heap.size g cap F.1 ∧
    TxP ((W.setCell ⟨A0, 0, none⟩ (.bool neg)).setCell ⟨A0, 1, none⟩ (.slice (some ⟨g, 0, none⟩) fs.length cap)) B s F.2.1 F.2.2 ∧
    w.grownBy ((W.setCell ⟨A0, 0, none⟩ (.bool neg)).setCell ⟨A0, 1, none⟩ (.slice (some ⟨g, 0, none⟩) fs.length cap)) (some B) ∧ F.1.length = fs.length := by
  subst hF
  have hne : A0 ≠ g := h.row.ne h.res
  exact ⟨(h.res.s0 neg).s1 _, (h.row.grown (grown_setk _ _ _ _) (fun e => hne (by injection e with e; exact e.symm))).grown (grown_setk _ _ _ _) (fun e => hne (by injection e with e; exact e.symm)), (h.tx.other (by omega)).other (by omega), grown_trans (grown_trans h.gr (grown_setk _ _ _ _) (.inr h0)) (grown_setk _ _ _ _) (.inr h0), rfl⟩

set_option maxRecDepth 100000 in
set_option maxHeartbeats 4000000 in
theorem product_b (B : Nat) (s : List UInt8) (i : Nat) (bad neg : Bool) (w : World) (h : TxP w B s i bad) (hs : s.length ≤ 100000) :
    Calls Tryz.prog 64 #[.pointer (some ⟨B, 0, none⟩), .bool neg] w fun e w' => ∃ (g cap : Nat), e = .returned (.agg #[.bool neg, .slice (some ⟨g, 0, none⟩) (prodF s i bad).1.length cap]) ∧ FRow w' w.heap.size g cap (prodF s i bad).1 ∧ TxP w' B s (prodF s i bad).2.1 (prodF s i bad).2.2 ∧ w.grownBy w' (some B) := by
  obtain ⟨i0, hi0, hz0, hz1, hz2⟩ := info_parts infoF
  obtain ⟨F, hF⟩ : ∃ F, F = prodF s i bad := ⟨_, rfl⟩
  rw [← hF]
  obtain ⟨R, hR⟩ : ∃ R, R = facF s i bad := ⟨_, rfl⟩
  have b1 := bel1 w (.cells #[.bool false, .slice none 0 0] 83)
  have H : Hid (TxP (w.alloc (.cells #[.bool false, .slice none 0 0] 83)) B s i bad ∧ s.length ≤ 100000 ∧ B < w.heap.size ∧ F = prodF s i bad ∧ R = facF s i bad ∧ w.grownBy (w.alloc (.cells #[.bool false, .slice none 0 0] 83)) (some B) ∧ PBx (w.alloc (.cells #[.bool false, .slice none 0 0] 83)) w.heap.size false (.slice none 0 0)) :=
    ⟨h.below b1, hs, h.lt, hF, hR, grown_below b1 _, PBx.new w _ _⟩
  clear h hs hF hR b1
  go_enter Tryz.func64, Tryz.ntmps64
  go_wp2_with fail
  refine (factor_b B s i bad _ H.out.1 H.out.2.1).mono ?_
  rw [← H.out.2.2.2.2.1]
  rintro e w1 ⟨rfl, q1, q2⟩
  obtain ⟨⟨rv, ru, rd⟩, ri, rb⟩ := R
  dsimp only at q1 ⊢
  have h1s : w.heap.size < w1.heap.size := by have := q2.size; rw [World.size_alloc] at this; omega
  have a1 := bel1 w1 (.cells #[.int .i64 rv, .string (str ru), .string (str rd)] 112)
  have a2 := bel1 (w1.alloc (.cells #[.int .i64 rv, .string (str ru), .string (str rd)] 112)) (.cells #[.bool neg, .slice (some ⟨w1.heap.size, 0, none⟩) 1 1] 83)
  have hrow := FRow.one w1 w.heap.size ⟨rv, ru, rd⟩ (by omega)
  have hbx := PBx.new (w1.alloc (.cells #[.int .i64 rv, .string (str ru), .string (str rd)] 112)) neg (.slice (some ⟨w1.heap.size, 0, none⟩) 1 1)
  rw [World.size_alloc] at hbx
  have S0 : Hid (PrSt w ((w1.alloc (.cells #[.int .i64 rv, .string (str ru), .string (str rd)] 112)).alloc (.cells #[.bool neg, .slice (some ⟨w1.heap.size, 0, none⟩) 1 1] 83)) B w.heap.size (w1.heap.size + 1) s neg [⟨rv, ru, rd⟩] w1.heap.size 1 ri rb) :=
    ⟨(q1.below a1).below a2, grown2 (grown2 (grown2 H.out.2.2.2.2.2.1 q2) (grown_below a1 _)) (grown_below a2 _), hrow.grown (grown_below a2 none) (by simp), hbx, ((H.out.2.2.2.2.2.2.grown q2 (fun e => by injection e with e; have := H.out.2.2.1; omega)).grown (grown_below a1 none) (by simp)).grown (grown_below a2 none) (by simp)⟩
  have HF : Hid (F = (⟨rv, ru, rd⟩ :: (moreF s.length s ri rb).1, (moreF s.length s ri rb).2) ∧ w.heap.size < w1.heap.size) := ⟨by rw [H.out.2.2.2.1, prodF, ← H.out.2.2.2.2.1], h1s⟩
  clear q1 q2 h1s a1 a2 hrow hbx
  go_wp2_with fail
  go_loopg [] (s.length) (fun m wr => ∃ (fs : List Fac) (g cap i' : Nat) (b : Bool), s.length - i' ≤ m ∧ fs.length ≤ i' + 1 ∧ Hid (PrSt w wr B w.heap.size (w1.heap.size + 1) s neg fs g cap i' b ∧ ∃ k, s.length ≤ k + i' ∧ F = (fs ++ (moreF k s i' b).1, (moreF k s i' b).2)))
  case atStart => exact ⟨_, _, _, ri, rb, by omega, by simp, S0.out, s.length, by omega, HF.out.1⟩
  case round =>
    obtain ⟨fs, g, cap, i', b, hjr, hfl, hO⟩ := hrel
    have HM : Hid (s.length - i' ≤ _ ∧ fs.length ≤ i' + 1) := ⟨hjr, hfl⟩
    clear hjr hfl
    obtain ⟨j, ht, _, _⟩ := hO.out.1.tx
    obtain ⟨_, _, c2⟩ := ht.el
    clear ht
    cases b with
    | true =>
      have HE' : F = (fs, i', true) := by obtain ⟨k, _, hk⟩ := hO.out.2; rw [more_end (.inl rfl)] at hk; simpa using hk
      have HE : Hid (F = (fs, i', true)) := HE'
      clear HE'
      have HX : Hid _ := PrSt.done hO.out.1 H.out.2.2.1 (Nat.le_refl _) F HE.out
      obtain ⟨e0, e1⟩ := (hO.out.1).box.el
      obtain ⟨z0, z1⟩ := (hO.out.1).res.el
      have f0 := (hO.out.1).res.f 0
      have f1 := (hO.out.1).res.f 1
      go_wp2_with fail
      refine bodyPost_ret (results_p rfl _ HX.out.1 ⟨_, _, _, rfl⟩ rfl) rfl ⟨g, cap, ?_, HX.out.2.1, HX.out.2.2.1, HX.out.2.2.2.1⟩
      rw [HX.out.2.2.2.2]
    | false =>
      obtain ⟨x, hx⟩ : ∃ x, eats s i' 42 = x := ⟨_, rfl⟩
      have HYtnedghhcidohnaaGreat : Hid (eats s i' 42 = x) := hx
      clear hx
      go_wp2_with fail
      refine (eat_b B s i' false 42 42 _ hO.out.1.tx H.out.2.1 (by decide) rfl).mono ?_
      rw [HYtnedghhcidohnaaGreat.out]
      rintro e w3 ⟨rfl, q1, q2⟩
      clear c2
      cases x with
      | false =>
        have HE' : F = (fs, i', false) := by obtain ⟨k, _, hk⟩ := hO.out.2; rw [more_end (.inr HYtnedghhcidohnaaGreat.out)] at hk; simpa using hk
        have HE : Hid (F = (fs, i', false)) := HE'
        have HS : Hid (PrSt w w3 B w.heap.size (w1.heap.size + 1) s neg fs g cap i' false) := hO.out.1.grown H.out.2.2.1 (by have := H.out.2.2.1; omega) (by have := H.out.2.2.1; have := HF.out.2; omega) (by rw [eatI, if_neg (by rw [HYtnedghhcidohnaaGreat.out]; simp)] at q1; exact q1) q2
        clear HE' q1 q2
        have HX : Hid _ := PrSt.done HS.out H.out.2.2.1 (Nat.le_refl _) F HE.out
        obtain ⟨e0, e1⟩ := (HS.out).box.el
        obtain ⟨z0, z1⟩ := (HS.out).res.el
        have f0 := (HS.out).res.f 0
        have f1 := (HS.out).res.f 1
        go_wp2_with fail
        refine bodyPost_ret (results_p rfl _ HX.out.1 ⟨_, _, _, rfl⟩ rfl) rfl ⟨g, cap, ?_, HX.out.2.1, HX.out.2.2.1, HX.out.2.2.2.1⟩
        rw [HX.out.2.2.2.2]
      | true =>
        have HS : Hid (PrSt w w3 B w.heap.size (w1.heap.size + 1) s neg fs g cap (skp s i' + 1) false) := hO.out.1.grown H.out.2.2.1 (by have := H.out.2.2.1; omega) (by have := H.out.2.2.1; have := HF.out.2; omega) (by rw [eatI, if_pos HYtnedghhcidohnaaGreat.out] at q1; exact q1) q2
        clear q1 q2
        obtain ⟨R2, hR2⟩ : ∃ R2, R2 = facF s (skp s i' + 1) false := ⟨_, rfl⟩
        have HR2 : Hid (R2 = facF s (skp s i' + 1) false) := hR2
        clear hR2
        obtain ⟨⟨fv, fu, fd⟩, fi, fb⟩ := R2
        have hi' : i' < s.length := Nat.lt_of_le_of_lt (skp_ge s i') (more_len HYtnedghhcidohnaaGreat.out)
        have hfl : fs.length ≤ 100001 := by have := HM.out.2; have := H.out.2.1; omega
        have hfi : skp s i' + 1 ≤ fi := by have := facF_ge s (skp s i' + 1) false; rw [← HR2.out] at this; exact this
        have HFI : Hid (skp s i' + 1 ≤ fi ∧ i' < s.length) := ⟨hfi, hi'⟩
        have h63 : fs.length + 1 ≤ maxLen := by unfold maxLen; omega
        have h64 : (fs.length + 1) * 40 ≤ 140737488355328 := by omega
        clear hi' hfi
        have SD : Hid (PrSt w w3.drew B w.heap.size (w1.heap.size + 1) s neg fs g cap (skp s i' + 1) false) := HS.out.drew
        have SC := SD.out.box.el.2
        go_wp2_with fail
        go_region_law
          (first
            | (go_simp; go_at_call 88; refine (factor_b B s (skp s i' + 1) false _ SD.out.tx H.out.2.1).mono ?_; rw [← HR2.out]; rintro e w4 ⟨rfl, q1, q2⟩; dsimp only at q1; have SE : Hid (PrSt w w4 B w.heap.size (w1.heap.size + 1) s neg fs g cap fi fb) := SD.out.grown H.out.2.2.1 (by have := H.out.2.2.1; omega) (by have := H.out.2.2.1; have := HF.out.2; omega) q1 q2; clear q1 q2; have SC := SE.out.box.el.2; have SA := (SE.out.box.grown (grown_below (bel1 w4 (.cells #[.int .i64 fv, .string (str fu), .string (str fd)] 112)) none) (by simp)).el.2; dsimp only)
            | (refine step_append_put _ (by rfl) _ _ _ (by rfl) w.heap.size 112 i0 _ 3 40 Tryz.underlying81 hi0 hz0 hz1 hz2 rfl (by omega) zeroF _ fs.length (fcells fs) (by rfl) (OwnS.below SE.out.row (bel1 _ _)) ⟨w4.heap.size, 0, none⟩ 1 1 (Fac.cs ⟨fv, fu, fd⟩) (by rfl) (by rfl) (World.news_of_block (heap_alloc_new w4 _)) (Fac.cs_one ⟨fv, fu, fd⟩) (Fac.cs_clean ⟨fv, fu, fd⟩) (by omega) h63 h64 (by have := SE.out.gr.size; rw [World.size_alloc]; omega) ?_; intro g2 cap2 w5 hown hgrow; have SN : Hid (PrSt w (w5.setCell ⟨w1.heap.size + 1, 1, none⟩ (.slice (some ⟨g2, 0, none⟩) (fs.length + 1) cap2)) B w.heap.size (w1.heap.size + 1) s neg (fs ++ [⟨fv, fu, fd⟩]) g2 cap2 fi fb) := SE.out.put H.out.2.2.1 (by have := HF.out.2; omega) (by have := HF.out.2; omega) (bel1 _ _) hown hgrow; have SB := SE.out.box.grown (grown2 (grown_below (bel1 w4 (.cells #[.int .i64 fv, .string (str fu), .string (str fd)] 112)) (some g)) hgrow) (fun e => SE.out.row.ne SE.out.box (by injection e)); have SC := SB.el.2; have SF := SB.f 1; clear hown hgrow SB))
        all_goals
          clear SC
          go_wp2_with fail
          go_roundg (s.length - fi)
          case measure => have := HM.out.1; have := HFI.out; have := skp_ge s i'; omega
          case rel =>
            refine ⟨_, g2, cap2, fi, fb, Nat.le_refl _, by have := HM.out.2; have := HFI.out; have := skp_ge s i'; simp; omega, SN.out, ?_⟩
            obtain ⟨k, hk, hF'⟩ := hO.out.2
            obtain ⟨k', rfl⟩ : ∃ k', k = k' + 1 := ⟨k - 1, by have := HFI.out; omega⟩
            refine ⟨k', by have := HFI.out; have := skp_ge s i'; omega, ?_⟩
            rw [hF', more_next HYtnedghhcidohnaaGreat.out, ← HR2.out]
            simp
end Go.Proofs.YtnedghhcidohnaaGreat

/-! The reference's reader of texts: a sum, its parts. -/
namespace Go.Proofs.YtnedghhcidohnaaGreat
open Go.RowKit

/-- A product, as it was read. -/
structure Prd where
  neg : Bool
  fs : List Fac
/-- The products behind the first one; where the reader stands; is the text none. -/
def moreS : Nat → List UInt8 → Nat → Bool → List Prd × Nat × Bool
  | 0, _, i, bad => ([], i, bad)
  | n + 1, s, i, bad =>
    if bad then ([], i, bad) else
    if nxt s i = 0 then ([], i, bad) else
    if eats s i 43 then
      (⟨false, (prodF s (skp s i + 1) false).1⟩ :: (moreS n s (prodF s (skp s i + 1) false).2.1 (prodF s (skp s i + 1) false).2.2).1, (moreS n s (prodF s (skp s i + 1) false).2.1 (prodF s (skp s i + 1) false).2.2).2)
    else if eats s i 45 then
      (⟨true, (prodF s (skp s i + 1) false).1⟩ :: (moreS n s (prodF s (skp s i + 1) false).2.1 (prodF s (skp s i + 1) false).2.2).1, (moreS n s (prodF s (skp s i + 1) false).2.1 (prodF s (skp s i + 1) false).2.2).2)
    else ([], i, true)
def sumF (s : List UInt8) : List Prd × Nat × Bool :=
  (⟨eats s 0 45, (prodF s (eatI s 0 45) false).1⟩ :: (moreS s.length s (prodF s (eatI s 0 45) false).2.1 (prodF s (eatI s 0 45) false).2.2).1, (moreS s.length s (prodF s (eatI s 0 45) false).2.1 (prodF s (eatI s 0 45) false).2.2).2)
/-- The text is no sum. -/
def badF (s : List UInt8) : Bool := (sumF s).2.2 || decide (skp s (sumF s).2.1 < s.length)

theorem moreF_ge (s : List UInt8) : ∀ (k i : Nat) (b : Bool), i ≤ (moreF k s i b).2.1
  | 0, i, b => Nat.le_refl _
  | k + 1, i, b => by
    rw [moreF]
    split
    · exact Nat.le_refl _
    · split
      · have h1 := moreF_ge s k (facF s (skp s i + 1) b).2.1 (facF s (skp s i + 1) b).2.2
        have h2 := facF_ge s (skp s i + 1) b
        have h3 := skp_ge s i
        dsimp only
        omega
      · exact Nat.le_refl _
theorem prodF_ge (s : List UInt8) (i : Nat) (b : Bool) : i ≤ (prodF s i b).2.1 := by
  have h1 := moreF_ge s s.length (facF s i b).2.1 (facF s i b).2.2
  have h2 := facF_ge s i b
  unfold prodF
  dsimp only
  omega

theorem moreS_bad (k : Nat) (s : List UInt8) (i : Nat) : moreS k s i true = ([], i, true) := by
  cases k with
  | zero => rfl
  | succ k => rw [moreS]; simp
theorem moreS_end (k : Nat) (s : List UInt8) (i : Nat) (h : nxt s i = 0) : moreS k s i false = ([], i, false) := by
  cases k with
  | zero => rfl
  | succ k => rw [moreS]; simp [h]
theorem moreS_plus (k : Nat) (s : List UInt8) (i : Nat) (h0 : nxt s i ≠ 0) (h : eats s i 43 = true) : moreS (k + 1) s i false = (⟨false, (prodF s (skp s i + 1) false).1⟩ :: (moreS k s (prodF s (skp s i + 1) false).2.1 (prodF s (skp s i + 1) false).2.2).1, (moreS k s (prodF s (skp s i + 1) false).2.1 (prodF s (skp s i + 1) false).2.2).2) := by
  rw [moreS]
  simp [h0, h]
theorem moreS_minus (k : Nat) (s : List UInt8) (i : Nat) (h0 : nxt s i ≠ 0) (h1 : eats s i 43 = false) (h : eats s i 45 = true) : moreS (k + 1) s i false = (⟨true, (prodF s (skp s i + 1) false).1⟩ :: (moreS k s (prodF s (skp s i + 1) false).2.1 (prodF s (skp s i + 1) false).2.2).1, (moreS k s (prodF s (skp s i + 1) false).2.1 (prodF s (skp s i + 1) false).2.2).2) := by
  rw [moreS]
  simp [h0, h1, h]
theorem moreS_none (k : Nat) (s : List UInt8) (i : Nat) (h0 : nxt s i ≠ 0) (h1 : eats s i 43 = false) (h : eats s i 45 = false) : moreS (k + 1) s i false = ([], i, true) := by
  rw [moreS]
  simp [h0, h1, h]

/-- A product, and where its factors lie. -/
structure PA where
  p : Prd
  g : Nat
  cap : Nat
def PA.cs (x : PA) : List Value := [.bool x.p.neg, .slice (some ⟨x.g, 0, none⟩) x.p.fs.length x.cap]
def pcells (xs : List PA) : List Value := xs.flatMap PA.cs
theorem PA.cs_clean (x : PA) : ∀ u ∈ x.cs, Clean u := by
  intro u hu z e
  simp [PA.cs] at hu
  rcases hu with rfl | rfl <;> cases e
theorem PA.cs_one (x : PA) : ∀ u ∈ x.cs, u.oneCell' = true := by
  intro u hu
  simp [PA.cs] at hu
  rcases hu with rfl | rfl <;> rfl
theorem infoP : (Tryz.prog.info? 83).map (fun i => (i.zero, i.size, i.bytes)) = some (some (.agg #[.bool false, .slice none 0 0]), 2, 32) := by kernel_rfl
theorem zeroP : ∀ u ∈ (Value.agg #[.bool false, .slice none 0 0]).cells.toList, Clean u := by
  intro u hu z e
  simp [Value.cells] at hu
  subst e
  rcases hu with h | h <;> cases h

theorem FRow.mono {w : World} {base b' g cap : Nat} {fs : List Fac} (h : FRow w b' g cap fs) (hb : base ≤ b') : FRow w base g cap fs := by
  refine ⟨⟨h.row.1, ?_⟩, h.clean⟩
  rcases h.row.2 with h1 | ⟨g', cap', cur, e, h2, h3⟩
  · exact .inl h1
  · exact .inr ⟨g', cap', cur, e, Nat.le_trans hb h2, h3⟩

/-- A row of products of the call's own. -/
structure SRow (w : World) (base g cap : Nat) (xs : List PA) : Prop where
  own : OwnS w base 83 2 (.slice (some ⟨g, 0, none⟩) xs.length cap) xs.length (pcells xs)
  each : ∀ x ∈ xs, FRow w base x.g x.cap x.p.fs
theorem SRow.ge {w : World} {base g cap : Nat} {xs : List PA} (h : SRow w base g cap xs) : base ≤ g ∧ g < w.heap.size := h.own.row.lt g rfl
theorem SRow.grown {w w' : World} {base g cap B : Nat} {xs : List PA} (h : SRow w base g cap xs) (hg : w.grownBy w' (some B)) (hB : B < base) : SRow w' base g cap xs :=
  ⟨h.own.kept hg (.inr (fun e => by injection e with e; have := h.ge.1; have e2 : g = B := e; omega)), fun x hx => (h.each x hx).grown hg (fun e => by injection e with e; have := (h.each x hx).ge.1; omega)⟩
theorem SRow.below {w w' : World} {base g cap : Nat} {xs : List PA} (h : SRow w base g cap xs) (hb : Below w.heap.size w w') : SRow w' base g cap xs :=
  ⟨h.own.below hb, fun x hx => (h.each x hx).grown (grown_below hb none) (by simp)⟩
theorem FRow.off {w : World} {base g cap G : Nat} {fs : List Fac} (h : FRow w base g cap fs) (hc : CleanB w 83 G) : g ≠ G := by
  rintro rfl
  obtain ⟨cur, fz, hg, _⟩ := h.clean g rfl
  obtain ⟨cur', fz', hg', _⟩ := hc
  rw [hg] at hg'
  injection hg' with hg'
  injection hg' with _ h2
  cases h2
theorem SRow.put {w w2 w' : World} {base g cap g' cap' : Nat} {xs : List PA} {x : PA} (h : SRow w base g cap xs) (hx : FRow w base x.g x.cap x.p.fs) (hb : Below w.heap.size w w2)
    (ho : OwnS w' base 83 2 (.slice (some ⟨g', 0, none⟩) (xs.length + 1) cap') (xs.length + 1) (pcells xs ++ x.cs)) (hg : w2.grownBy w' (some g)) : SRow w' base g' cap' (xs ++ [x]) := by
  have hgw : w.grownBy w' (some g) := grown2 (grown_below hb _) hg
  refine ⟨?_, fun y hy => ?_⟩
  · rw [List.length_append]
    simpa [pcells] using ho
  · have hy' : FRow w base y.g y.cap y.p.fs := by
      rcases List.mem_append.1 hy with hy | hy
      · exact h.each y hy
      · simp at hy; subst hy; exact hx
    exact hy'.grown hgw (fun e => hy'.off (h.own.clean g rfl) (by injection e))
theorem SRow.one {w : World} {base : Nat} {x : PA} (hx : FRow w base x.g x.cap x.p.fs) (hb : base ≤ w.heap.size) : SRow (w.alloc (.cells #[.bool x.p.neg, .slice (some ⟨x.g, 0, none⟩) x.p.fs.length x.cap] 83)) base w.heap.size 1 [x] := by
  refine ⟨⟨⟨rfl, .inr ⟨w.heap.size, 1, _, rfl, hb, heap_alloc_new w _, Nat.le_refl _, by unfold maxLen; omega, rfl, rfl⟩⟩, fun g hg => ?_⟩, fun y hy => ?_⟩
  · cases hg
    exact ⟨_, (0, 0), heap_alloc_new w _, fun u hu => x.cs_clean u hu⟩
  · simp at hy
    subst hy
    exact hx.grown (grown_below (bel1 _ _) none) (by simp)
end Go.Proofs.YtnedghhcidohnaaGreat

/-! The reference's reader of texts: a sum, walked. -/
namespace Go.Proofs.YtnedghhcidohnaaGreat
open Go.RowKit

/-- A sum that is being read. -/
structure SmSt (w wr : World) (B : Nat) (s : List UInt8) (g cap : Nat) (xs : List PA) (i : Nat) (b : Bool) : Prop where
  tx : TxP wr B s i b
  gr : w.grownBy wr (some B)
  row : SRow wr w.heap.size g cap xs
theorem SmSt.go {w wr w' : World} {B : Nat} {s : List UInt8} {g cap : Nat} {xs : List PA} {i i' : Nat} {b b' : Bool} (h : SmSt w wr B s g cap xs i b) (hB : B < w.heap.size) (ht : TxP w' B s i' b') (hg : wr.grownBy w' (some B)) : SmSt w w' B s g cap xs i' b' :=
  ⟨ht, grown2 h.gr hg, h.row.grown hg hB⟩

set_option maxRecDepth 100000 in
set_option maxHeartbeats 4000000 in
theorem sum_b (B : Nat) (s : List UInt8) (w : World) (h : TxB w B s 0 false) (hs : s.length ≤ 100000) :
    Calls Tryz.prog 41 #[.pointer (some ⟨B, 0, none⟩)] w fun e w' => ∃ (g cap : Nat) (xs : List PA), e = .returned (.slice (some ⟨g, 0, none⟩) xs.length cap) ∧ SRow w' w.heap.size g cap xs ∧ xs.map PA.p = (sumF s).1 ∧ (∃ j, TxB w' B s j (badF s)) ∧ w.grownBy w' (some B) := by
  obtain ⟨i0, hi0, hz0, hz1, hz2⟩ := info_parts infoP
  obtain ⟨T, hT⟩ : ∃ T, T = str s := ⟨_, rfl⟩
  obtain ⟨L, hL⟩ : ∃ L, L = s.length := ⟨_, rfl⟩
  have hsz : T.size = L := by rw [hT, str_size, hL]
  have hL' : (L : Int) ≤ 100000 := by omega
  obtain ⟨n0, hn0⟩ : ∃ n0, n0 = eats s 0 45 := ⟨_, rfl⟩
  obtain ⟨R, hR⟩ : ∃ R, R = prodF s (eatI s 0 45) false := ⟨_, rfl⟩
  obtain ⟨F, hF⟩ : ∃ F, F = sumF s := ⟨_, rfl⟩
  obtain ⟨fb, hfb⟩ : ∃ fb, fb = badF s := ⟨_, rfl⟩
  rw [← hF, ← hfb]
  have H : Hid (TxP w B s 0 false ∧ s.length ≤ 100000 ∧ B < w.heap.size ∧ T = str s ∧ L = s.length ∧ n0 = eats s 0 45 ∧ R = prodF s (eatI s 0 45) false ∧ F = sumF s ∧ fb = badF s) := ⟨h.p (Nat.zero_le _), hs, h.lt, hT, hL, hn0, hR, hF, hfb⟩
  clear h hs hT hL hn0 hR hF hfb
  go_enter Tryz.func41, Tryz.ntmps41
  go_wp2_with fail
  refine (eat_b B s 0 false 45 45 _ H.out.1 H.out.2.1 (by decide) rfl).mono ?_
  rw [← H.out.2.2.2.2.2.1]
  rintro e w1 ⟨rfl, q1, q2⟩
  have H1 : Hid (TxP w1 B s (eatI s 0 45) false ∧ w.grownBy w1 (some B)) := ⟨q1, q2⟩
  clear q1 q2
  go_wp2_with fail
  refine (product_b B s (eatI s 0 45) false n0 _ H1.out.1 H.out.2.1).mono ?_
  rw [← H.out.2.2.2.2.2.2.1]
  obtain ⟨rf, ri, rb⟩ := R
  dsimp only
  rintro e w2 ⟨g0, cap0, rfl, q1, q2, q3⟩
  have a1 := bel1 w2 (.cells #[.bool n0, .slice (some ⟨g0, 0, none⟩) rf.length cap0] 83)
  have hws : w.heap.size ≤ w2.heap.size := (grown2 H1.out.2 q3).size
  have S0 : Hid (SmSt w (w2.alloc (.cells #[.bool n0, .slice (some ⟨g0, 0, none⟩) rf.length cap0] 83)) B s w2.heap.size 1 [⟨⟨n0, rf⟩, g0, cap0⟩] ri rb) :=
    ⟨q2.below a1, grown2 (grown2 H1.out.2 q3) (grown_below a1 _), SRow.one (x := ⟨⟨n0, rf⟩, g0, cap0⟩) (q1.mono H1.out.2.size) hws⟩
  have HF : Hid (F = (⟨n0, rf⟩ :: (moreS s.length s ri rb).1, (moreS s.length s ri rb).2)) := by
    have h9 : F = (⟨n0, rf⟩ :: (moreS s.length s ri rb).1, (moreS s.length s ri rb).2) := by rw [H.out.2.2.2.2.2.2.2.1, sumF, ← H.out.2.2.2.2.2.2.1, ← H.out.2.2.2.2.2.1]
    exact h9
  clear q1 q2 q3 a1 hws
  go_wp2_with fail
  go_loopg [3] (s.length + 1) (fun m s3 wr => ∃ (xs : List PA) (g cap i : Nat) (b : Bool), s.length - i + (if b then 0 else 1) ≤ m ∧ xs.length ≤ i + 1 ∧ s3 = .slice (some ⟨g, 0, none⟩) xs.length cap ∧ Hid (SmSt w wr B s g cap xs i b ∧ ∃ k, s.length ≤ k + i ∧ F = (xs.map PA.p ++ (moreS k s i b).1, (moreS k s i b).2)))
  case atStart => exact ⟨_, _, _, ri, rb, by split <;> omega, by simp, rfl, S0.out, s.length, by omega, HF.out⟩
  case round =>
    obtain ⟨xs, g, cap, i, b, hjr, hfl, rfl, hO⟩ := hrel
    have HM : Hid (s.length - i + (if b then 0 else 1) ≤ _ ∧ xs.length ≤ i + 1) := ⟨hjr, hfl⟩
    clear hjr hfl
    cases b with
    | true =>
      obtain ⟨j, ht, hjs, _⟩ := hO.out.1.tx
      have hm : F = (xs.map PA.p, i, true) := by obtain ⟨k, _, hk⟩ := hO.out.2; rw [moreS_bad] at hk; simpa using hk
      have hfb : fb = true := by rw [H.out.2.2.2.2.2.2.2.2, badF, ← H.out.2.2.2.2.2.2.2.1, hm]; rfl
      subst hfb
      have hjl : j ≤ s.length := by obtain ⟨j2, h1, h2, h3⟩ := hO.out.1.tx; have := skp_ge s j; have := hO.out.1.tx.len; omega
      have HE : Hid (F = (xs.map PA.p, i, true) ∧ TxB wr B s j true ∧ j ≤ s.length) := ⟨hm, ht, hjl⟩
      obtain ⟨c0, c1, c2⟩ := ht.el
      rw [← H.out.2.2.2.1] at c0
      clear hm ht hjs hjl
      go_wp2_with fail
      by_cases hjl : j < L
      · have hjl' : (j : Int) < (L : Int) := by omega
        clear hjl
        go_quiet (fail)
        have HG : Hid (SmSt w (wr.drewN nq) B s g cap xs i true ∧ TxB (wr.drewN nq) B s j true) := ⟨⟨hO.out.1.tx.below (below_drewN (Below.refl _ _) nq), grown2 hO.out.1.gr (grown_below (below_drewN (Below.refl _ _) nq) _), hO.out.1.row.below (below_drewN (Below.refl _ _) nq)⟩, HE.out.2.1.below (below_drewN (Below.refl _ _) nq)⟩
        generalize wr.drewN nq = W8 at HG ⊢
        clear c0 c1 c2
        obtain ⟨_, _, c2⟩ := HG.out.2.el
        have f2 := HG.out.2.f 2
        have HQ : Hid (SRow (W8.setCell ⟨B, 2, none⟩ (.bool true)) w.heap.size g cap xs ∧ TxB (W8.setCell ⟨B, 2, none⟩ (.bool true)) B s j true ∧ w.grownBy (W8.setCell ⟨B, 2, none⟩ (.bool true)) (some B)) := ⟨HG.out.1.row.grown (grown_setk _ _ _ _) H.out.2.2.1, HG.out.2.s2 true, grown2 HG.out.1.gr (grown_setk _ _ _ _)⟩
        go_wp2_with fail
        go_ret
        exact ⟨g, cap, xs, rfl, HQ.out.1, by rw [HE.out.1], ⟨_, HQ.out.2.1⟩, HQ.out.2.2⟩
      · have hjl' : j = L := by have := H.out.2.2.2.2.1; have := HE.out.2.2; omega
        subst hjl'
        have hdec : decide ((j : Int) < (j : Int)) = false := by simp
        clear hjl
        go_quiet (fail)
        have HG : Hid (SmSt w (wr.drewN nq) B s g cap xs i true ∧ TxB (wr.drewN nq) B s j true) := ⟨⟨hO.out.1.tx.below (below_drewN (Below.refl _ _) nq), grown2 hO.out.1.gr (grown_below (below_drewN (Below.refl _ _) nq) _), hO.out.1.row.below (below_drewN (Below.refl _ _) nq)⟩, HE.out.2.1.below (below_drewN (Below.refl _ _) nq)⟩
        clear c0 c1 c2
        go_wp2_with fail
        go_ret
        exact ⟨g, cap, xs, rfl, HG.out.1.row, by rw [HE.out.1], ⟨_, HG.out.2⟩, HG.out.1.gr⟩
    | false =>
      obtain ⟨j, ht, hjs, _⟩ := hO.out.1.tx
      obtain ⟨_, _, c2⟩ := ht.el
      clear ht hjs
      obtain ⟨n, hn⟩ : ∃ n : Nat, n = (nxt s i).toNat := ⟨_, rfl⟩
      have HN : Hid (n = (nxt s i).toNat) := hn
      have hn2 : (n : Int) < 256 := by rw [hn]; have := (nxt s i).toNat_lt; omega
      clear hn
      go_wp2_with fail
      refine (next_p B s i false _ hO.out.1.tx H.out.2.1).mono ?_
      rw [← HN.out]
      rintro e w3 ⟨rfl, q1, q2⟩
      clear c2
      by_cases hz : nxt s i = 0
      · have hn0' : n = 0 := by rw [HN.out, hz]; rfl
        subst hn0'
        have hm : F = (xs.map PA.p, i, false) := by obtain ⟨k, _, hk⟩ := hO.out.2; rw [moreS_end _ _ _ hz] at hk; simpa using hk
        have hfb : fb = decide (skp s i < s.length) := by rw [H.out.2.2.2.2.2.2.2.2, badF, ← H.out.2.2.2.2.2.2.2.1, hm]; simp
        have hsl := hO.out.1.tx.len
        obtain ⟨j, hj⟩ : ∃ j, j = skp s i := ⟨_, rfl⟩
        rw [← hj] at q1 hfb hsl
        have HE : Hid (F = (xs.map PA.p, i, false) ∧ TxB w3 B s j false ∧ j ≤ s.length ∧ SmSt w w3 B s g cap xs i false) := ⟨hm, q1, hsl, hO.out.1.go H.out.2.2.1 (by rw [hj] at q1; exact q1.back hO.out.1.tx.len) q2⟩
        obtain ⟨c0, c1, c2⟩ := q1.el
        rw [← H.out.2.2.2.1] at c0
        by_cases hjl : j < L
        · have hjl' : (j : Int) < (L : Int) := by omega
          have : fb = true := by rw [hfb]; have := H.out.2.2.2.2.1; simp; omega
          subst this
          clear hm hfb hsl hj q1 q2 hjl
          go_wp2_with fail
          go_quiet (fail)
          have HG : Hid (SmSt w (w3.drewN nq) B s g cap xs i false ∧ TxB (w3.drewN nq) B s j false) := ⟨⟨HE.out.2.2.2.tx.below (below_drewN (Below.refl _ _) nq), grown2 HE.out.2.2.2.gr (grown_below (below_drewN (Below.refl _ _) nq) _), HE.out.2.2.2.row.below (below_drewN (Below.refl _ _) nq)⟩, HE.out.2.1.below (below_drewN (Below.refl _ _) nq)⟩
          generalize w3.drewN nq = W8 at HG ⊢
          clear c0 c1 c2
          obtain ⟨_, _, c2⟩ := HG.out.2.el
          have f2 := HG.out.2.f 2
          have HQ : Hid (SRow (W8.setCell ⟨B, 2, none⟩ (.bool true)) w.heap.size g cap xs ∧ TxB (W8.setCell ⟨B, 2, none⟩ (.bool true)) B s j true ∧ w.grownBy (W8.setCell ⟨B, 2, none⟩ (.bool true)) (some B)) := ⟨HG.out.1.row.grown (grown_setk _ _ _ _) H.out.2.2.1, HG.out.2.s2 true, grown2 HG.out.1.gr (grown_setk _ _ _ _)⟩
          go_wp2_with fail
          go_ret
          exact ⟨g, cap, xs, rfl, HQ.out.1, by rw [HE.out.1], ⟨_, HQ.out.2.1⟩, HQ.out.2.2⟩
        · have hjl' : j = L := by have := H.out.2.2.2.2.1; omega
          have : fb = false := by rw [hfb]; have := H.out.2.2.2.2.1; simp; omega
          subst this hjl'
          have hdec : decide ((j : Int) < (j : Int)) = false := by simp
          clear hm hfb hsl hj q1 q2 hjl
          go_wp2_with fail
          go_quiet (fail)
          have HG : Hid (SmSt w (w3.drewN nq) B s g cap xs i false ∧ TxB (w3.drewN nq) B s j false) := ⟨⟨HE.out.2.2.2.tx.below (below_drewN (Below.refl _ _) nq), grown2 HE.out.2.2.2.gr (grown_below (below_drewN (Below.refl _ _) nq) _), HE.out.2.2.2.row.below (below_drewN (Below.refl _ _) nq)⟩, HE.out.2.1.below (below_drewN (Below.refl _ _) nq)⟩
          clear c0 c1 c2
          go_wp2_with fail
          go_ret
          exact ⟨g, cap, xs, rfl, HG.out.1.row, by rw [HE.out.1], ⟨_, HG.out.2⟩, HG.out.1.gr⟩
      · have hnz : ¬ (n : Int) = 0 := by
          intro e
          apply hz
          rw [← UInt8.toNat_inj]
          have := HN.out
          have e0 : (0 : UInt8).toNat = 0 := rfl
          omega
        have H3 : Hid (SmSt w w3 B s g cap xs i false) := hO.out.1.go H.out.2.2.1 (q1.back hO.out.1.tx.len) q2
        have hil : skp s i < s.length := nxt_in hz
        have HZ : Hid (nxt s i ≠ 0 ∧ skp s i < s.length) := ⟨hz, hil⟩
        clear q1 q2 hz hil
        obtain ⟨x, hx⟩ : ∃ x, eats s i 43 = x := ⟨_, rfl⟩
        have HX : Hid (eats s i 43 = x) := hx
        clear hx
        go_wp2_with fail
        refine (eat_b B s i false 43 43 _ H3.out.tx H.out.2.1 (by decide) rfl).mono ?_
        rw [HX.out]
        rintro e w4 ⟨rfl, q1, q2⟩
        have H4 : Hid (SmSt w w4 B s g cap xs (eatI s i 43) false) := H3.out.go H.out.2.2.1 q1 q2
        clear q1 q2
        cases x with
        | true =>
          have H5 : Hid (SmSt w w4 B s g cap xs (skp s i + 1) false) := by have h9 := H4.out; rw [eatI, if_pos HX.out] at h9; exact h9
          have HK : Hid (∀ k, moreS (k + 1) s i false = (⟨false, (prodF s (skp s i + 1) false).1⟩ :: (moreS k s (prodF s (skp s i + 1) false).2.1 (prodF s (skp s i + 1) false).2.2).1, (moreS k s (prodF s (skp s i + 1) false).2.1 (prodF s (skp s i + 1) false).2.2).2)) := fun k => moreS_plus k s i HZ.out.1 HX.out
          obtain ⟨R2, hR2⟩ : ∃ R2, R2 = prodF s (skp s i + 1) false := ⟨_, rfl⟩
          have HR2 : Hid (R2 = prodF s (skp s i + 1) false) := hR2
          clear hR2
          obtain ⟨ff, fi, fb2⟩ := R2
          go_wp2_with fail
          refine (product_b B s (skp s i + 1) false false _ H5.out.tx H.out.2.1).mono ?_
          rw [← HR2.out]
          dsimp only
          rintro e w6 ⟨g6, cap6, rfl, q1, q2, q3⟩
          have S6 : Hid (SmSt w w6 B s g cap xs fi fb2 ∧ FRow w6 w.heap.size g6 cap6 ff) := ⟨H5.out.go H.out.2.2.1 q2 q3, q1.mono H5.out.gr.size⟩
          have hge : skp s i + 1 ≤ fi := by have := prodF_ge s (skp s i + 1) false; rw [← HR2.out] at this; exact this
          have HGE : Hid (skp s i + 1 ≤ fi) := hge
          clear q1 q2 q3 hge
          go_wp2_with (at_builtin; refine wpList_append_put _ rfl _ _ _ rfl w.heap.size 83 i0 _ 2 32 Tryz.underlying77 hi0 hz0 hz1 hz2 rfl (by omega) zeroP _ xs.length (pcells xs) rfl (OwnS.below S6.out.1.row.own (bel1 _ _)) ⟨w6.heap.size, 0, none⟩ 1 1 (PA.cs ⟨⟨false, ff⟩, g6, cap6⟩) rfl rfl (World.news_of_block (heap_alloc_new w6 _)) (PA.cs_one ⟨⟨false, ff⟩, g6, cap6⟩) (PA.cs_clean ⟨⟨false, ff⟩, g6, cap6⟩) (by omega) (by have := HM.out.2; have := HZ.out.2; have := skp_ge s i; have := H.out.2.1; unfold maxLen; omega) (by have := HM.out.2; have := HZ.out.2; have := skp_ge s i; have := H.out.2.1; omega) (by have := S6.out.1.gr.size; rw [World.size_alloc]; omega) ?_)
          intro g7 cap7 w7 hown hgrow
          have S7 : Hid (SmSt w w7 B s g7 cap7 (xs ++ [⟨⟨false, ff⟩, g6, cap6⟩]) fi fb2) := ⟨(S6.out.1.tx.below (bel1 _ _)).grown hgrow (fun e => by injection e with e; have e2 : B = g := e; have := S6.out.1.row.ge.1; have := H.out.2.2.1; omega), grown_trans (grown2 S6.out.1.gr (grown_below (bel1 w6 _) _)) hgrow (.inr S6.out.1.row.ge.1), S6.out.1.row.put S6.out.2 (bel1 _ _) hown hgrow⟩
          clear hown hgrow
          go_wp2_with fail
          go_roundg (s.length - fi + (if fb2 then 0 else 1))
          case measure =>
            have := HM.out.1
            have := HGE.out
            have := skp_ge s i
            have := HZ.out.2
            simp only [Bool.false_eq_true, if_false] at *
            split <;> omega
          case rel =>
            refine ⟨_, g7, cap7, fi, fb2, Nat.le_refl _, by have := HM.out.2; have := HGE.out; have := skp_ge s i; simp; omega, by simp, S7.out, ?_⟩
            obtain ⟨k, hk, hF'⟩ := hO.out.2
            obtain ⟨k', rfl⟩ : ∃ k', k = k' + 1 := ⟨k - 1, by have := HZ.out.2; have := skp_ge s i; omega⟩
            exact ⟨k', by have := HGE.out; have := skp_ge s i; omega, by rw [hF', HK.out, ← HR2.out]; simp⟩
        | false =>
          have H5' : Hid (SmSt w w4 B s g cap xs i false) := by have h9 := H4.out; rw [eatI, if_neg (by rw [HX.out]; simp)] at h9; exact h9
          obtain ⟨y, hy⟩ : ∃ y, eats s i 45 = y := ⟨_, rfl⟩
          have HY : Hid (eats s i 45 = y) := hy
          clear hy
          go_wp2_with fail
          refine (eat_b B s i false 45 45 _ H5'.out.tx H.out.2.1 (by decide) rfl).mono ?_
          rw [HY.out]
          rintro e w5 ⟨rfl, q1, q2⟩
          have H6 : Hid (SmSt w w5 B s g cap xs (eatI s i 45) false) := H5'.out.go H.out.2.2.1 q1 q2
          clear q1 q2
          cases y with
          | true =>
            have H5 : Hid (SmSt w w5 B s g cap xs (skp s i + 1) false) := by have h9 := H6.out; rw [eatI, if_pos HY.out] at h9; exact h9
            have HK : Hid (∀ k, moreS (k + 1) s i false = (⟨true, (prodF s (skp s i + 1) false).1⟩ :: (moreS k s (prodF s (skp s i + 1) false).2.1 (prodF s (skp s i + 1) false).2.2).1, (moreS k s (prodF s (skp s i + 1) false).2.1 (prodF s (skp s i + 1) false).2.2).2)) := fun k => moreS_minus k s i HZ.out.1 HX.out HY.out
            obtain ⟨R2, hR2⟩ : ∃ R2, R2 = prodF s (skp s i + 1) false := ⟨_, rfl⟩
            have HR2 : Hid (R2 = prodF s (skp s i + 1) false) := hR2
            clear hR2
            obtain ⟨ff, fi, fb2⟩ := R2
            go_wp2_with fail
            refine (product_b B s (skp s i + 1) false true _ H5.out.tx H.out.2.1).mono ?_
            rw [← HR2.out]
            dsimp only
            rintro e w6 ⟨g6, cap6, rfl, q1, q2, q3⟩
            have S6 : Hid (SmSt w w6 B s g cap xs fi fb2 ∧ FRow w6 w.heap.size g6 cap6 ff) := ⟨H5.out.go H.out.2.2.1 q2 q3, q1.mono H5.out.gr.size⟩
            have hge : skp s i + 1 ≤ fi := by have := prodF_ge s (skp s i + 1) false; rw [← HR2.out] at this; exact this
            have HGE : Hid (skp s i + 1 ≤ fi) := hge
            clear q1 q2 q3 hge
            go_wp2_with (at_builtin; refine wpList_append_put _ rfl _ _ _ rfl w.heap.size 83 i0 _ 2 32 Tryz.underlying77 hi0 hz0 hz1 hz2 rfl (by omega) zeroP _ xs.length (pcells xs) rfl (OwnS.below S6.out.1.row.own (bel1 _ _)) ⟨w6.heap.size, 0, none⟩ 1 1 (PA.cs ⟨⟨true, ff⟩, g6, cap6⟩) rfl rfl (World.news_of_block (heap_alloc_new w6 _)) (PA.cs_one ⟨⟨true, ff⟩, g6, cap6⟩) (PA.cs_clean ⟨⟨true, ff⟩, g6, cap6⟩) (by omega) (by have := HM.out.2; have := HZ.out.2; have := skp_ge s i; have := H.out.2.1; unfold maxLen; omega) (by have := HM.out.2; have := HZ.out.2; have := skp_ge s i; have := H.out.2.1; omega) (by have := S6.out.1.gr.size; rw [World.size_alloc]; omega) ?_)
            intro g7 cap7 w7 hown hgrow
            have S7 : Hid (SmSt w w7 B s g7 cap7 (xs ++ [⟨⟨true, ff⟩, g6, cap6⟩]) fi fb2) := ⟨(S6.out.1.tx.below (bel1 _ _)).grown hgrow (fun e => by injection e with e; have e2 : B = g := e; have := S6.out.1.row.ge.1; have := H.out.2.2.1; omega), grown_trans (grown2 S6.out.1.gr (grown_below (bel1 w6 _) _)) hgrow (.inr S6.out.1.row.ge.1), S6.out.1.row.put S6.out.2 (bel1 _ _) hown hgrow⟩
            clear hown hgrow
            go_wp2_with fail
            go_roundg (s.length - fi + (if fb2 then 0 else 1))
            case measure =>
              have := HM.out.1
              have := HGE.out
              have := skp_ge s i
              have := HZ.out.2
              simp only [Bool.false_eq_true, if_false] at *
              split <;> omega
            case rel =>
              refine ⟨_, g7, cap7, fi, fb2, Nat.le_refl _, by have := HM.out.2; have := HGE.out; have := skp_ge s i; simp; omega, by simp, S7.out, ?_⟩
              obtain ⟨k, hk, hF'⟩ := hO.out.2
              obtain ⟨k', rfl⟩ : ∃ k', k = k' + 1 := ⟨k - 1, by have := HZ.out.2; have := skp_ge s i; omega⟩
              exact ⟨k', by have := HGE.out; have := skp_ge s i; omega, by rw [hF', HK.out, ← HR2.out]; simp⟩
          | false =>
            have H5 : Hid (SmSt w w5 B s g cap xs i false) := by have h9 := H6.out; rw [eatI, if_neg (by rw [HY.out]; simp)] at h9; exact h9
            obtain ⟨j, ht, hjs, hjl⟩ := H5.out.tx
            obtain ⟨_, _, c2⟩ := ht.el
            have f2 := ht.f 2
            have HB : Hid (SmSt w (w5.setCell ⟨B, 2, none⟩ (.bool true)) B s g cap xs i true) := H5.out.go H.out.2.2.1 ⟨j, ht.s2 true, hjs, hjl⟩ (grown_setk _ _ _ _)
            clear ht hjs hjl
            go_wp2_with fail
            go_roundg (s.length - i)
            case measure => have := HM.out.1; simp at this; omega
            case rel =>
              refine ⟨xs, g, cap, i, true, by simp, HM.out.2, rfl, HB.out, ?_⟩
              obtain ⟨k, hk, hF'⟩ := hO.out.2
              obtain ⟨k', rfl⟩ : ∃ k', k = k' + 1 := ⟨k - 1, by have := HZ.out.2; have := skp_ge s i; omega⟩
              exact ⟨k' + 1, by omega, by rw [hF', moreS_none _ _ _ HZ.out.1 HX.out HY.out, moreS_bad]⟩
end Go.Proofs.YtnedghhcidohnaaGreat
