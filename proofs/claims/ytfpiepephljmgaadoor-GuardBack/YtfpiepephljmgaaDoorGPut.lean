/-
  guard.Put.
-/
import Derived.Test.YtfpiepephljmgaaDoorGFrm
namespace Go.Proofs.YtfpiepephljmgaaDoor
open Go.RowKit

/-- What is summed of a frame. -/
def headL (f : Frm) : List UInt8 := lowB f.text.length 4 ++ lowB f.seq 8 ++ lowB f.epoch 8
def frmL (f : Frm) : List UInt8 := headL f ++ f.text
/-- A frame as bytes. -/
def putF (f : Frm) : List UInt8 := frmL f ++ lowB (crc (frmL f)) 4

theorem str_app (a b : List UInt8) : str a ++ str b = str (a ++ b) := by
  apply ByteArray.ext
  apply Array.ext'
  simp [str, ByteArray.data_append]

theorem headL_length (f : Frm) : (headL f).length = 20 := by simp [headL, lowB_length]
theorem frmL_length (f : Frm) : (frmL f).length = 20 + f.text.length := by simp [frmL, headL_length]
theorem putF_length (f : Frm) : (putF f).length = 24 + f.text.length := by simp [putF, frmL_length, lowB_length]; omega

set_option maxRecDepth 100000 in
set_option maxHeartbeats 2000000 in
theorem put_cap (x y : Nat) (T : List UInt8) (w : World) (hl : 8192 < T.length) (hl2 : T.length ≤ 1000000000) :
    Calls Tryd.prog 11 #[.agg #[.int .u64 (x : Int), .int .u64 (y : Int), .string (str T)]] w fun e w' => e = .returned (.tuple #[.string (str []), .int .i64 71]) ∧ Below w.heap.size w w' := by
  have bx := FBox.new w x y (str T)
  have c2 := bx.c2
  have hsz : (str T).size = T.length := str_size T
  have g1 : (8192 : Int) < (T.length : Int) := by omega
  have g2 : (T.length : Int) ≤ 1000000000 := by omega
  clear bx
  go_enter Tryd.func11, Tryd.ntmps11
  go_wp2
  go_ret2
  exact ⟨rfl, (Below.refl _ _).alloc (Nat.le_refl _) _⟩

set_option maxRecDepth 100000 in
set_option maxHeartbeats 4000000 in
theorem put_ok (x y : Nat) (T : List UInt8) (w : World) (hT : Tab w) (hx : x < 18446744073709551616) (hy : y < 18446744073709551616) (hl : T.length ≤ 8192) :
    Calls Tryd.prog 11 #[.agg #[.int .u64 (x : Int), .int .u64 (y : Int), .string (str T)]] w fun e w' => e = .returned (.tuple #[.string (str (putF ⟨x, y, T⟩)), .int .i64 0]) ∧ Below w.heap.size w w' := by
  obtain ⟨L, hL⟩ : ∃ L, L = T.length := ⟨_, rfl⟩
  have hsz : (str T).size = L := by rw [hL]; exact str_size T
  have bx := FBox.new w x y (str T)
  obtain ⟨W, hW⟩ : ∃ W, W = w.alloc (.cells #[.int .u64 (x : Int), .int .u64 (y : Int), .string (str T)] 24) := ⟨_, rfl⟩
  have hWs : W.heap.size = w.heap.size + 1 := by rw [hW]; simp
  rw [← hW] at bx
  have hbW : Below w.heap.size w W := by rw [hW]; exact (Below.refl _ _).alloc (Nat.le_refl _) _
  have HB : Hid (Tab w ∧ Below w.heap.size w W ∧ FBox W w.heap.size x y (str T) ∧ W.heap.size = w.heap.size + 1 ∧ L = T.length) := ⟨hT, hbW, bx, hWs, hL⟩
  have c0 := bx.c0
  have c1 := bx.c1
  have c2 := bx.c2
  have hl2 : (L : Int) ≤ 8192 := by omega
  have hl3 : IntKind.u64.wrap (L : Int) = (L : Int) := by rw [IntKind.wrap_u64]; omega
  obtain ⟨a, ha⟩ : ∃ a, a = lowB L 4 := ⟨_, rfl⟩
  obtain ⟨b, hb⟩ : ∃ b, b = lowB x 8 := ⟨_, rfl⟩
  obtain ⟨c, hc⟩ : ∃ c, c = lowB y 8 := ⟨_, rfl⟩
  have H1 := fun w1 => bytesOf_any L 4 w1 (by omega) (by decide)
  have H2 := fun w1 => bytesOf_any x 8 w1 hx (by decide)
  have H3 := fun w1 => bytesOf_any y 8 w1 hy (by decide)
  rw [← ha] at H1
  rw [← hb] at H2
  rw [← hc] at H3
  have HC : Hid ((∀ w1, Calls Tryd.prog 21 #[.int .u64 (L : Int), .int .i64 4] w1 fun e w' => e = .returned (.string (str a)) ∧ Below w1.heap.size w1 w') ∧ (∀ w1, Calls Tryd.prog 21 #[.int .u64 (x : Int), .int .i64 8] w1 fun e w' => e = .returned (.string (str b)) ∧ Below w1.heap.size w1 w') ∧ (∀ w1, Calls Tryd.prog 21 #[.int .u64 (y : Int), .int .i64 8] w1 fun e w' => e = .returned (.string (str c)) ∧ Below w1.heap.size w1 w')) := ⟨H1, H2, H3⟩
  obtain ⟨D, hD⟩ : ∃ D, D = a ++ b := ⟨_, rfl⟩
  obtain ⟨E, hE⟩ : ∃ E, E = D ++ c := ⟨_, rfl⟩
  obtain ⟨F, hF⟩ : ∃ F, F = E ++ T := ⟨_, rfl⟩
  have q1 : str a ++ str b = str D := by rw [str_app, hD]
  have q2 : str D ++ str c = str E := by rw [str_app, hE]
  have q3 : str E ++ str T = str F := by rw [str_app, hF]
  have z1 : (str a).size = 4 := by rw [str_size, ha, lowB_length]
  have z2 : (str b).size = 8 := by rw [str_size, hb, lowB_length]
  have z3 : (str c).size = 8 := by rw [str_size, hc, lowB_length]
  have z4 : (str D).size = 12 := by rw [str_size, hD, List.length_append, ha, hb, lowB_length, lowB_length]
  have z5 : (str E).size = 20 := by rw [str_size, hE, hD, List.length_append, List.length_append, ha, hb, hc, lowB_length, lowB_length, lowB_length]
  have z6 : (str F).size = 20 + L := by rw [str_size, hF, List.length_append, hL, hE, hD, List.length_append, List.length_append, ha, hb, hc, lowB_length, lowB_length, lowB_length]
  have HE : Hid (F = frmL ⟨x, y, T⟩ ∧ F.length ≤ 9000) := by
    have h9 : F = frmL ⟨x, y, T⟩ := by rw [hF, hE, hD, ha, hb, hc, hL]; rfl
    exact ⟨h9, by rw [str_size] at z6; omega⟩
  clear hD hE hF
  clear hT hL hWs hbW bx hl ha hb hc H1 H2 H3 hx hy
  have d2 := (FBox.new w x y (str T)).c2
  have HW : Hid (W = w.alloc (.cells #[.int .u64 (x : Int), .int .u64 (y : Int), .string (str T)] 24)) := hW
  clear hW
  go_enter Tryd.func11, Tryd.ntmps11
  go_wp2_with fail
  rw [← HW.out]
  clear HW d2
  have b0 : Below W.heap.size W W.drew := (Below.refl _ _).drew
  go_region_held3 (fun w' => w'.cell? ⟨w.heap.size, 0, none⟩ = some (.int .u64 (x : Int)) ∧ w'.cell? ⟨w.heap.size, 1, none⟩ = some (.int .u64 (y : Int)) ∧ w'.cell? ⟨w.heap.size, 2, none⟩ = some (.string (str T))) (first | go_keep | (refine ⟨(HB.out.2.2.1.below b0).c0, (HB.out.2.2.1.below b0).c1, (HB.out.2.2.1.below b0).c2⟩))
    (first
      | (go_at_call_of 21 (Value.int IntKind.u64 (L : Int)); refine (HC.out.1 _).mono ?_; rintro e w1 ⟨rfl, h1⟩; have b0 := chain b0 h1)
      | (go_at_call_of 21 (Value.int IntKind.u64 (x : Int)); refine (HC.out.2.1 _).mono ?_; rintro e w2 ⟨rfl, h2⟩; have b0 := chain b0 h2)
      | (go_at_call_of 21 (Value.int IntKind.u64 (y : Int)); refine (HC.out.2.2 _).mono ?_; rintro e w3 ⟨rfl, h3⟩; have b0 := chain b0 h3))
  have B1 : Hid (Below w.heap.size w w3 ∧ Tab w3 ∧ FBox w3 w.heap.size x y (str T)) := ⟨chain HB.out.2.1 b0, (HB.out.1.below HB.out.2.1 HB.out.1.pos).below b0 (by have := HB.out.2.2.2.1; omega), HB.out.2.2.1.below b0⟩
  have d2 := B1.out.2.2.c2
  clear h1 h2 h3 b0 c0 c1 c2 HC
  go_wp2_with fail
  refine (sum_any F _ B1.out.2.1 (by have := HE.out.2; omega)).mono ?_
  rintro e w4 ⟨rfl, rfl⟩
  obtain ⟨S, hS⟩ : ∃ S, S = crc F := ⟨_, rfl⟩
  rw [← hS]
  have hS1 : S < 2 ^ 32 := by rw [hS]; exact crc_lt F
  have hS2 : IntKind.u64.wrap (S : Int) = (S : Int) := by rw [IntKind.wrap_u64]; omega
  have hS3 : (S : Int) % 18446744073709551616 = (S : Int) := by omega
  obtain ⟨G, hG⟩ : ∃ G, G = lowB S 4 := ⟨_, rfl⟩
  obtain ⟨R, hR⟩ : ∃ R, R = F ++ G := ⟨_, rfl⟩
  have q4 : str F ++ str G = str R := by rw [str_app, hR]
  have z7 : (str G).size = 4 := by rw [str_size, hG, lowB_length]
  have HS : Hid (S < 18446744073709551616 ∧ R = putF ⟨x, y, T⟩ ∧ G = lowB S 4) := by
    have h9 : R = putF ⟨x, y, T⟩ := by unfold putF; rw [hR, hG, hS, HE.out.1]
    exact ⟨by omega, h9, hG⟩
  clear hS hS1 hG hR
  go_wp2_with fail
  refine (bytesOf_any S 4 _ HS.out.1 (by decide)).mono ?_
  rw [← HS.out.2.2]
  rintro e w5 ⟨rfl, h5⟩
  have B2 : Hid (Below w.heap.size w w5) := chain B1.out.1 h5
  clear h5
  go_wp2_with fail
  go_ret2
  exact ⟨by rw [← HS.out.2.1]; rfl, B2.out⟩
end Go.Proofs.YtfpiepephljmgaaDoor
