/-
  octet.appendLow and octet.Put.
-/
import Derived.Test.YtmmbgfbliekkgaaOctA
import Derived.Deep.CutRange
namespace Go.Proofs.Ytmmbgfbliekkgaa
open Go.RowKit

theorem lowB_take (n k j : Nat) (h : j < k) : (lowB n k).take (k - j) = (lowB n k).take (k - (j + 1)) ++ [UInt8.ofNat (n / 256 ^ j)] := by
  induction k with
  | zero => omega
  | succ k ih =>
    by_cases e : j = k
    · subst e
      simp [lowB, show j + 1 - j = 1 by omega]
    · have h1 : k + 1 - j = (k - j) + 1 := by omega
      have h2 : k + 1 - (j + 1) = (k - (j + 1)) + 1 := by omega
      rw [h1, h2, lowB, List.take_succ_cons, List.take_succ_cons, ih (by omega)]
      rfl

theorem byte_val (x : Int) (i : Nat) (hx : 0 ≤ x) : Value.int .u8 (x / 2 ^ (8 * i) % 256) = u8v (UInt8.ofNat (x.toNat / 256 ^ i)) := by
  obtain ⟨X, rfl⟩ := Int.eq_ofNat_of_zero_le hx
  have e : (2 : Int) ^ (8 * i) = ((256 ^ i : Nat) : Int) := by rw [Int.pow_mul]; simp
  unfold u8v
  rw [e, Int.toNat_natCast, ← Int.natCast_ediv]
  congr 1

theorem grown_trans {a b c : World} {g g' : Nat} (h : a.grownBy b (some g)) (k : b.grownBy c (some g')) (hg : g' = g ∨ a.heap.size ≤ g') : a.grownBy c (some g) :=
  ⟨k.os.trans h.os, k.tape.trans h.tape, k.output.trans h.output, Nat.le_trans h.size k.size, fun j hj hn => (k.block j (Nat.lt_of_lt_of_le hj h.size) (fun e => by
    cases e
    rcases hg with e2 | h2
    · exact hn (by rw [e2])
    · omega)).trans (h.block j hj hn)⟩

theorem cell_one (w : World) (v : Value) (t : TypeId) : (w.alloc (.cells #[v] t)).cell? ⟨w.heap.size, 0, none⟩ = some v := by rw [cell_of_row _ _ _ _ _ _ (heap_alloc_new w _)]; rfl

theorem grown_alloc (w : World) (o : Obj) (row : Option Nat) : w.grownBy (w.alloc o) row := ⟨rfl, rfl, rfl, by simp, fun _ hk _ => heap_alloc_old w o hk⟩

set_option maxRecDepth 100000 in
set_option maxHeartbeats 2000000 in
theorem low_any (base g m cap : Nat) (xs : List UInt8) (x : Int) (k : Nat) (w : World) (hx : 0 ≤ x) (hB : x < BB) (hk : k ≤ 8) (hm : m ≤ 1000) (hown : OwnB w base g m cap xs) (_hbase : base ≤ w.heap.size) :
    Calls Try.prog 32 #[.slice (some ⟨g, 0, none⟩) m cap, .int .u64 x, .int .i64 k] w fun e w' => ∃ g' cap', e = .returned (.slice (some ⟨g', 0, none⟩) (m + k) cap') ∧ OwnB w' base g' (m + k) cap' (xs ++ lowB x.toNat k) ∧ w.grownBy w' (some g) ∧ (g' = g ∨ w.heap.size ≤ g') := by
  obtain ⟨i0, hi, hz0, hz1, hz2⟩ := info_parts (P := Try.prog) (e := 5) (z := .int .u8 0) (size := 1) (bytes := 1) (by kernel_rfl)
  have hx1 : x ≤ 18446744073709551615 := by unfold BB at hB; omega
  have HO : Hid (OwnB w base g m cap xs) := hown
  have hgw := hown.lt
  clear hown
  go_enter Try.func32, Try.ntmps32
  go_wp2
  go_loopg [0, 7] k (fun n s0 s7 wr => ∃ (j N g' c' : Nat), j ≤ k ∧ j ≤ n ∧ N = m + (k - j) ∧ s7 = .int .i64 ((j : Int) - 1) ∧ s0 = .slice (some ⟨g', 0, none⟩) N c' ∧ OwnB wr base g' N c' (xs ++ (lowB x.toNat k).take (k - j)) ∧ w.grownBy wr (some g) ∧ (g' = g ∨ w.heap.size ≤ g'))
  case atStart => exact ⟨k, m, g, cap, Nat.le_refl _, Nat.le_refl _, by omega, by go_num, rfl, by simpa using HO.out, ⟨rfl, rfl, rfl, Nat.le_refl _, fun _ _ _ => rfl⟩, .inl rfl⟩
  case round =>
    obtain ⟨j, N, g', c', hj, hjn, hN, rfl, rfl, hown, hgr, hkin⟩ := hrel
    by_cases h0 : j = 0
    · subst h0
      obtain rfl : N = m + k := by omega
      have HR : Hid (OwnB wr base g' (m + k) c' (xs ++ lowB x.toNat k) ∧ w.grownBy wr (some g) ∧ (g' = g ∨ w.heap.size ≤ g')) := by
        have e : (lowB x.toNat k).take (k - 0) = lowB x.toNat k := List.take_of_length_le (by rw [lowB_length]; omega)
        rw [e] at hown
        exact ⟨hown, hgr, hkin⟩
      clear hown hgr hkin
      go_wp2
      go_ret
      exact ⟨g', c', rfl, HR.out.1, HR.out.2.1, HR.out.2.2⟩
    · obtain ⟨i, rfl⟩ : ∃ i, j = i + 1 := ⟨j - 1, by omega⟩
      have hij : (((i + 1 : Nat) : Int) - 1) = (i : Int) := by omega
      rw [hij]
      have HR : Hid (OwnB wr base g' N c' (xs ++ (lowB x.toNat k).take (k - (i + 1))) ∧ w.grownBy wr (some g) ∧ (g' = g ∨ w.heap.size ≤ g') ∧ N = m + (k - (i + 1))) := ⟨hown, hgr, hkin, hN⟩
      have hsz := hgr.size
      have i0' : (0 : Int) ≤ (i : Int) := by omega
      have i1' : (i : Int) ≤ 7 := by omega
      clear hown hgr hkin hij hN h0
      have HV : Hid (Value.int .u8 (x / 2 ^ (8 * i) % 256) = u8v (UInt8.ofNat (x.toNat / 256 ^ i))) := byte_val x i hx
      go_wp2_with (at_builtin; refine wpList_append_byte _ rfl (.tmp 14) (.tmp 20) 53 rfl base i0 (by kernel_rfl) hi hz0 hz1 hz2 g' N c' _ rfl (HR.out.1.alloc _) ⟨wr.heap.size, 0, none⟩ 1 (UInt8.ofNat (x.toNat / 256 ^ i)) rfl ((cell_one wr _ 5).trans (congrArg some HV.out)) (by have := HR.out.2.2.2; omega) (by simp; omega) ?_; intro g2 c2 w2 hown2 hgr2 hk2)
      go_roundg i
      case measure => omega
      case rel =>
        have hg3 := grown_trans HR.out.2.1 (grown_alloc wr (Obj.cells #[Value.int IntKind.u8 (x / 2 ^ (8 * i) % 256)] 5) (some g')) HR.out.2.2.1
        refine ⟨i, N + 1, g2, c2, by omega, Nat.le_refl _, by have := HR.out.2.2.2; omega, by go_num, rfl, ?_, grown_trans hg3 hgr2 HR.out.2.2.1, ?_⟩
        · rw [lowB_take _ _ _ (show i < k by omega), ← List.append_assoc]
          exact hown2
        · rcases hk2 with e | e
          · rw [e]; exact HR.out.2.2.1
          · right; rw [e]; simp; omega

theorem cntB_le (n : Nat) (h : n < 2 ^ 64) : cntB n ≤ 8 := by
  have : bitLen n ≤ 64 := by
    unfold bitLen
    split
    · omega
    · rename_i h0
      have := (Nat.log2_lt h0).2 h
      omega
  unfold cntB
  omega

theorem below_grow {w w1 w2 : World} {g : Nat} (h : Below w.heap.size w w1) (hg : w1.grownBy w2 (some g)) (hk : w.heap.size ≤ g) : Below w.heap.size w w2 :=
  h.grown hg h.size (fun j hj => by cases hj; exact hk)

theorem OwnB.string {P : Program} {w : World} {base g n cap : Nat} {xs : List UInt8} (h : OwnB w base g n cap xs) (src dst : TypeId) (hs : P.underlying src = some (.slice 5)) (he : P.underlying 5 = some (.int .u8)) (hd : P.underlying dst = some .string) :
    (convert src dst (.slice (some ⟨g, 0, none⟩) n cap)).run P w = .ok (.string ⟨xs.toArray⟩) w := by
  obtain rfl := h.1
  exact run_convert_bytes_back (P := P) w src dst 5 ⟨g, 0, none⟩ cap xs hs he hd (fun j hj => h.cell j hj)

theorem OwnB.one (w : World) (v : Value) (c : UInt8) (h : v = u8v c) : OwnB (w.alloc (.cells #[v] 5)) w.heap.size w.heap.size 1 1 [c] := by
  subst h
  exact ⟨rfl, Nat.le_refl _, Nat.le_refl _, by unfold maxLen; omega, _, (0, 0), heap_alloc_new w _, rfl, .inl (Nat.zero_le _), rfl⟩

set_option maxRecDepth 100000 in
set_option maxHeartbeats 2000000 in
theorem put_any (x : Int) (w : World) (hx : 0 ≤ x) (hB : x < BB) :
    Calls Try.prog 15 #[.int .u64 x] w fun e w' => e = .returned (.string ⟨(putL x.toNat).toArray⟩) ∧ Below w.heap.size w w' := by
  have hx1 : x ≤ 18446744073709551615 := by unfold BB at hB; omega
  obtain ⟨b, hb⟩ : ∃ b : Nat, b = bitLen x.toNat := ⟨_, rfl⟩
  obtain ⟨c, hc⟩ : ∃ c : Nat, c = cntB x.toNat := ⟨_, rfl⟩
  have hc8 : c ≤ 8 := by rw [hc]; exact cntB_le _ (by omega)
  have hbc : ((b : Int) + 7) / 8 = (c : Int) := by rw [hc, hb]; unfold cntB; omega
  have HB : Hid (x < BB ∧ b = bitLen x.toNat ∧ c = cntB x.toNat ∧ Value.int .u8 (c : Int) = u8v (UInt8.ofNat c)) := ⟨hB, hb, hc, by unfold u8v; congr 1; simp; omega⟩
  have hb64 : (b : Int) ≤ 1000 := by omega
  have hq : IntKind.i64.wrap (Int.tdiv ((b : Int) + 7) 8) = (c : Int) := by rw [Int.tdiv_eq_ediv_of_nonneg (by omega), hbc]; exact IntWalk.i64_in _ ⟨by omega, by omega⟩
  have hq2 : Int.tdiv ((b : Int) + 7) 8 = (c : Int) := by rw [Int.tdiv_eq_ediv_of_nonneg (by omega), hbc]
  have hc9 : (c : Int) ≤ 8 := by omega
  have hcm : (c : Int) % 256 = (c : Int) := by omega
  clear hB hb hc
  go_enter Try.func15, Try.ntmps15
  go_wp2_with (go_at_call 37; refine (len64_any x _ hx HB.out.1).mono ?_; rw [← HB.out.2.1]; rintro e w1 ⟨rfl, rfl⟩)
  refine (low_any w1.heap.size w1.heap.size 1 1 [UInt8.ofNat c] x c _ hx HB.out.1 hc8 (by omega) (OwnB.one w1 _ _ HB.out.2.2.2) (by simp)).mono ?_
  rintro e w2 ⟨g, cp, rfl, hown, hgr, hkin⟩
  have hcv := hown.string (P := Try.prog) 53 9 (by kernel_rfl) (by kernel_rfl) (by kernel_rfl)
  have HF : Hid (Below w1.heap.size w1 w2) := below_grow ((Below.refl _ _).alloc (Nat.le_refl _) _) hgr (Nat.le_refl _)
  have HP : Hid ((([UInt8.ofNat c] ++ lowB x.toNat c).toArray) = (putL x.toNat).toArray) := by
    have h9 : (([UInt8.ofNat c] ++ lowB x.toNat c).toArray) = (putL x.toNat).toArray := by rw [HB.out.2.2.1]; rfl
    exact h9
  clear hown hgr hkin
  go_wp2
  go_ret
  rw [← HP.out]
  exact ⟨rfl, HF.out⟩
end Go.Proofs.Ytmmbgfbliekkgaa
