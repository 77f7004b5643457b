/-
  The steps of octet's reader: take, formed, upTo, joined.
-/
import Derived.Test.YtnedghhcidohnaaGreatLB1
import Derived.Test.YtnedghhcidohnaaGreatJB1
import Derived.Lib.Strings
namespace Go.Proofs.YtnedghhcidohnaaGreat
open Go.RowKit

/-- The reader at block R has the bytes s left. -/
def Left (W : World) (R : Nat) (S : ByteArray) : Prop := W.heap[R]? = some (.cells #[.string S] 149 (0, 0))

theorem Left.lt {W : World} {R : Nat} {S : ByteArray} (h : Left W R S) : R < W.heap.size := (Array.getElem?_eq_some_iff.1 h).1
theorem Left.c {W : World} {R : Nat} {S : ByteArray} (h : Left W R S) : W.cell? ⟨R, 0, none⟩ = some (.string S) := by rw [cell_of_row _ _ _ _ _ _ h]; rfl
theorem Left.f {W : World} {R : Nat} {S : ByteArray} (h : Left W R S) : W.frozen? ⟨R, 0, none⟩ = false := by
  unfold Left at h
  simp [World.frozen?, h]
theorem Left.set {W : World} {R : Nat} {S : ByteArray} (h : Left W R S) (T : ByteArray) : Left (W.setCell ⟨R, 0, none⟩ (.string T)) R T := by
  rw [setCell_eq_setRow W R 0 #[.string S] 149 (0, 0) _ h]
  exact setRow_heap W R #[.string S] _ 149 _ h
theorem grown_set (W : World) (R : Nat) (v : Value) : W.grownBy (W.setCell ⟨R, 0, none⟩ v) (some R) :=
  ⟨rfl, rfl, rfl, by simp, fun k _ hk => Below.heap_setCell W ⟨R, 0, none⟩ v k (fun e => hk (by rw [e]))⟩
theorem grown_refl (W : World) (row : Option Nat) : W.grownBy W row := ⟨rfl, rfl, rfl, Nat.le_refl _, fun _ _ _ => rfl⟩

/-- A panic with an error of the document. -/
def pan (n : Int) : Ending := .panicked [{ v := .iface 27 (.int .i64 n), recovered := false }]

set_option maxHeartbeats 1000000 in
theorem take_ok (R : Nat) (S : ByteArray) (c : Nat) (w : World) (h : Left w R S) (hc : c ≤ S.size) (hs : S.size ≤ 1000000) :
    Calls Tryz.prog 104 #[.pointer (some ⟨R, 0, none⟩), .int .u64 c] w fun e w' => e = .returned (.string (S.extract 0 c)) ∧ Left w' R (S.extract c S.size) ∧ w.grownBy w' (some R) := by
  have hc0 := h.c
  have hf0 := h.f
  have HL : Hid (Left w R S) := h
  have hc1 : (c : Int) ≤ (S.size : Int) := by omega
  have hc2 : (S.size : Int) ≤ 1000000 := by omega
  have hn : ¬ ((S.size : Int) < (c : Int)) := by omega
  clear h
  go_enter Tryz.func104, Tryz.ntmps104
  go_wp2
  go_ret
  exact ⟨rfl, HL.out.set _, grown_set _ _ _⟩

set_option maxHeartbeats 1000000 in
theorem take_err (R : Nat) (S : ByteArray) (c : Nat) (w : World) (h : Left w R S) (hc : S.size < c) (hs : S.size ≤ 1000000) (hcb : (c : Int) < BB) :
    Calls Tryz.prog 104 #[.pointer (some ⟨R, 0, none⟩), .int .u64 c] w fun e w' => e = pan 60 ∧ w = w' := by
  have hc0 := h.c
  have hc1 : (S.size : Int) < (c : Int) := by omega
  have hc2 : (S.size : Int) ≤ 1000000 := by omega
  have hc3 : (c : Int) ≤ 18446744073709551615 := by unfold BB at hcb; omega
  clear h
  go_enter Tryz.func104, Tryz.ntmps104
  go_wp2
  exact ⟨rfl, rfl, rfl⟩

set_option maxHeartbeats 1000000 in
theorem formed_yes (w : World) :
    Calls Tryz.prog 106 #[.bool true] w fun e w' => e = .returned (.tuple #[]) ∧ w = w' := by
  go_enter Tryz.func106, Tryz.ntmps106
  go_wp2
  go_end0
  exact ⟨rfl, rfl⟩

set_option maxHeartbeats 1000000 in
theorem formed_no (w : World) :
    Calls Tryz.prog 106 #[.bool false] w fun e w' => e = pan 62 ∧ w = w' := by
  go_enter Tryz.func106, Tryz.ntmps106
  go_wp2
  exact ⟨rfl, rfl, rfl⟩

/-- A text of bytes. -/
def str (s : List UInt8) : ByteArray := ⟨s.toArray⟩
theorem str_size (s : List UInt8) : (str s).size = s.length := by simp [str, ByteArray.size]
theorem ext_str (s : List UInt8) (a e : Nat) : (str s).extract a e = str ((s.take e).drop a) := by
  unfold str
  apply ByteArray.ext
  apply Array.ext'
  rw [Lib.extract_data]
  simp [List.drop_take]

theorem takeS_ok (R : Nat) (s : List UInt8) (c : Nat) (w : World) (h : Left w R (str s)) (hc : c ≤ s.length) (hs : s.length ≤ 1000000) :
    Calls Tryz.prog 104 #[.pointer (some ⟨R, 0, none⟩), .int .u64 c] w fun e w' => e = .returned (.string (str (s.take c))) ∧ Left w' R (str (s.drop c)) ∧ w.grownBy w' (some R) := by
  have h1 := take_ok R (str s) c w h (by rw [str_size]; exact hc) (by rw [str_size]; exact hs)
  rw [ext_str, ext_str, str_size, List.take_of_length_le (Nat.le_refl _), List.drop_zero] at h1
  exact h1

theorem takeS_err (R : Nat) (s : List UInt8) (c : Nat) (w : World) (h : Left w R (str s)) (hc : s.length < c) (hs : s.length ≤ 1000000) (hcb : (c : Int) < BB) :
    Calls Tryz.prog 104 #[.pointer (some ⟨R, 0, none⟩), .int .u64 c] w fun e w' => e = pan 60 ∧ w = w' :=
  take_err R (str s) c w h (by rw [str_size]; exact hc) (by rw [str_size]; exact hs) hcb

set_option maxHeartbeats 1000000 in
theorem upTo_short (R : Nat) (most : Int) (w : World) (h : Left w R (str [])) :
    Calls Tryz.prog 105 #[.pointer (some ⟨R, 0, none⟩), .int .u8 most] w fun e w' => e = pan 60 ∧ w = w' := by
  have HL : Hid (Left w R (str [])) := h
  clear h
  go_enter Tryz.func105, Tryz.ntmps105
  go_wp2_with fail
  refine (takeS_err R [] 1 _ HL.out (by decide) (by decide) (by decide)).mono ?_
  rintro e w1 ⟨rfl, rfl⟩
  exact ⟨rfl, rfl, rfl⟩

set_option maxHeartbeats 1000000 in
theorem upTo_ok (R : Nat) (c : UInt8) (r : List UInt8) (most : Nat) (w : World) (h : Left w R (str (c :: r))) (hm : c.toNat ≤ most) (hs : r.length ≤ 900000) :
    Calls Tryz.prog 105 #[.pointer (some ⟨R, 0, none⟩), .int .u8 most] w fun e w' => e = .returned (.int .u8 (c.toNat : Int)) ∧ Left w' R (str r) ∧ w.grownBy w' (some R) := by
  have HL : Hid (Left w R (str (c :: r)) ∧ r.length ≤ 900000) := ⟨h, hs⟩
  obtain ⟨k, hk⟩ : ∃ k : Nat, k = c.toNat := ⟨_, rfl⟩
  have hm2 : (k : Int) ≤ (most : Int) := by omega
  clear h
  go_enter Tryz.func105, Tryz.ntmps105
  go_wp2_with fail
  refine (takeS_ok R (c :: r) 1 _ HL.out.1 (by simp) (by have := HL.out.2; simp; omega)).mono ?_
  rintro e w1 ⟨rfl, h1, h2⟩
  have HW : Hid (Left w1 R (str r) ∧ w.grownBy w1 (some R)) := ⟨h1, h2⟩
  clear h1 h2
  simp only [List.take_succ_cons, List.take_zero]
  have hz : 0 < (str [c]).size := by rw [str_size]; exact Nat.zero_lt_succ _
  have hz2 : (str [c])[0] = c := rfl
  go_wp2_with (go_at_call 106; refine (formed_yes _).mono ?_; rintro e w2 ⟨rfl, rfl⟩)
  go_ret
  exact ⟨rfl, HW.out⟩

set_option maxHeartbeats 1000000 in
theorem upTo_form (R : Nat) (c : UInt8) (r : List UInt8) (most : Nat) (w : World) (h : Left w R (str (c :: r))) (hm : most < c.toNat) (hs : r.length ≤ 900000) :
    Calls Tryz.prog 105 #[.pointer (some ⟨R, 0, none⟩), .int .u8 most] w fun e w' => e = pan 62 ∧ w.grownBy w' (some R) := by
  have HL : Hid (Left w R (str (c :: r)) ∧ r.length ≤ 900000) := ⟨h, hs⟩
  have hm2 : decide ((c.toNat : Int) ≤ (most : Int)) = false := decide_eq_false (by omega)
  have hm3 : decide (c.toNat ≤ most) = false := decide_eq_false (by omega)
  clear h
  go_enter Tryz.func105, Tryz.ntmps105
  go_wp2_with fail
  refine (takeS_ok R (c :: r) 1 _ HL.out.1 (by simp) (by have := HL.out.2; simp; omega)).mono ?_
  rintro e w1 ⟨rfl, h1, h2⟩
  have HW : Hid (w.grownBy w1 (some R)) := h2
  clear h1 h2
  simp only [List.take_succ_cons, List.take_zero]
  have hz : 0 < (str [c]).size := by rw [str_size]; exact Nat.zero_lt_succ _
  have hz2 : (str [c])[0] = c := rfl
  go_wp2_with fail
  refine (formed_no _).mono ?_
  rintro e w2 ⟨rfl, rfl⟩
  exact ⟨rfl, rfl, HW.out⟩

/-- The number that bytes are, the highest one first. -/
def joinL (t : List UInt8) : Nat := t.foldl (fun n d => n * 256 + d.toNat) 0

theorem joinL_snoc (t : List UInt8) (d : UInt8) : joinL (t ++ [d]) = joinL t * 256 + d.toNat := by simp [joinL, List.foldl_append]
theorem foldl_lt (t : List UInt8) : ∀ n : Nat, t.foldl (fun n d => n * 256 + d.toNat) n < (n + 1) * 256 ^ t.length := by
  induction t with
  | nil => intro n; simp
  | cons d t ih =>
    intro n
    have h := ih (n * 256 + d.toNat)
    have hd := d.toNat_lt
    rw [List.foldl_cons, List.length_cons, Nat.pow_succ, Nat.mul_comm (256 ^ t.length), ← Nat.mul_assoc]
    exact Nat.lt_of_lt_of_le h (Nat.mul_le_mul_right _ (by omega))
theorem joinL_lt (t : List UInt8) : joinL t < 256 ^ t.length := by
  have := foldl_lt t 0
  simpa [joinL] using this

theorem below_bytes (w : World) (e : TypeId) (s : ByteArray) : Below w.heap.size w (Lib.bytesWorld w e s) :=
  ⟨rfl, rfl, rfl, by rw [Lib.bytesWorld_size]; omega, fun k hk => Lib.bytesWorld_at_old w e s k hk⟩

set_option maxRecDepth 100000 in
set_option maxHeartbeats 2000000 in
theorem joined_any (t : List UInt8) (w : World) (hl : t.length ≤ 8) :
    Calls Tryz.prog 107 #[.string (str t)] w fun e w' => e = .returned (.int .u64 (joinL t : Nat)) ∧ Below w.heap.size w w' := by
  obtain ⟨S, hS⟩ : ∃ S : ByteArray, S = str t := ⟨_, rfl⟩
  rw [← hS]
  have hsz : S.size = t.length := by rw [hS]; exact str_size t
  have hcv := Lib.run_convert_string_bytes (P := Tryz.prog) w 9 58 5 S (u := .string) (by kernel_rfl) (by kernel_rfl) (by kernel_rfl)
  have hcell := Lib.bytesWorld_cell w 5 S
  have hbel := below_bytes w 5 S
  generalize Lib.bytesWorld w 5 S = W1 at hcv hcell hbel
  generalize grownCap w S.size 0 5 = cap at hcv
  have hcell2 : ∀ j, j < t.length → W1.cell? ⟨w.heap.size, j, none⟩ = some (.int .u8 ((t.getD j 0).toNat : Int)) := fun j hj => by
    rw [hcell j (by omega), hS]
    rfl
  have HC : Hid (∀ j, j < t.length → W1.cell? ⟨w.heap.size, j, none⟩ = some (.int .u8 ((t.getD j 0).toNat : Int))) := hcell2
  have HB : Hid (Below w.heap.size w W1 ∧ t.length ≤ 8) := ⟨hbel, hl⟩
  clear hcell hcell2 hbel hS
  go_enter Tryz.func107, Tryz.ntmps107
  go_wp2_with fail
  clear hcv
  obtain ⟨tl, htl⟩ : ∃ tl, tl = t.length := ⟨_, rfl⟩
  rw [← htl]
  have HTL : Hid (tl = t.length) := htl
  have htl9 : (tl : Int) ≤ 8 := by have := HTL.out; omega
  clear htl hsz hl
  go_loopw [3, 9] (fun d i wr => ∃ (k v : Nat), k ≤ tl ∧ d = .int .u64 v ∧ i = .int .i64 k ∧ wr = W1 ∧ Hid (v = joinL (t.take k))) (fun _ i _ => tl - (intOf i).toNat)
  case atStart => exact ⟨0, 0, Nat.zero_le _, rfl, rfl, rfl, rfl⟩
  case round =>
    obtain ⟨k, v, hk, rfl, rfl, rfl, hv⟩ := hrel
    by_cases hlt : k < tl
    · have hlt' : (k : Int) < (tl : Int) := by omega
      have hkl : k < t.length := by have := HTL.out; omega
      have hck := HC.out k hkl
      have htk : t.take (k + 1) = t.take k ++ [t.getD k 0] := by
        rw [List.take_add_one, List.getElem?_eq_getElem hkl]
        simp [hkl]
      have hnv : joinL (t.take (k + 1)) = joinL (t.take k) * 256 + (t.getD k 0).toNat := by rw [htk, joinL_snoc]
      have hb := joinL_lt (t.take k)
      have hpl : 256 ^ (t.take k).length ≤ 256 ^ 7 := Nat.pow_le_pow_right (by decide) (by have := HB.out.2; simp; omega)
      rw [← hv.out] at hb hnv
      obtain ⟨c, hc⟩ : ∃ c : Nat, c = (t.getD k 0).toNat := ⟨_, rfl⟩
      have hc2 : c < 256 := by rw [hc]; exact UInt8.toNat_lt _
      rw [← hc] at hck hnv
      have h7 : (256 : Nat) ^ 7 = 72057594037927936 := by decide
      have hv1 : (v : Int) < 72057594037927936 := by omega
      have HN : Hid (v * 256 + c = joinL (t.take (k + 1)) ∧ c < 256) := ⟨hnv.symm, hc2⟩
      clear hb hnv htk hpl hc hkl h7
      go_wp2
      go_roundw
      case rel =>
        refine ⟨k + 1, v * 256 + c, by omega, ?_, by go_num, by first | rfl | trivial, HN.out.1⟩
        rw [or_add (i := 8) (by omega) (by unfold BB; omega) (by omega) (by unfold BB; have := HN.out.2; omega) (by omega) (by have := HN.out.2; omega)]
        rfl
      case measure => simp [intOf]; omega
    · have hkt : k = tl := by omega
      have HV : Hid (v = joinL t) := by
        have h := hv.out
        rw [hkt, HTL.out, List.take_length] at h
        exact h
      clear hv
      go_wp2
      go_ret
      rw [← HV.out]
      exact ⟨rfl, HB.out.1⟩
end Go.Proofs.YtnedghhcidohnaaGreat
