/-
  The reference's Sum, number and fixed of layer 7.
-/
import Derived.Test.YtfpiepephljmgaaDoorLinWalk
namespace Go.Proofs.YtfpiepephljmgaaDoor
open Go.RowKit

theorem crc_last (v : Nat) (h : v < 2 ^ 32) : bits .xor .u32 (v : Int) 4294967295 = ((v ^^^ 4294967295 : Nat) : Int) := xor_u32 v 4294967295 (by omega) (by decide)
theorem stp_half (v : Nat) (h : v < 2 ^ 32) : bits .xor .u32 ((v : Int) / 2) 3988292384 = (((v / 2) ^^^ 3988292384 : Nat) : Int) := by
  have := xor_u32 (v / 2) 3988292384 (by omega) (by decide)
  simpa using this

set_option maxRecDepth 100000 in
set_option maxHeartbeats 4000000 in
theorem rsum_any (s : List UInt8) (w : World) (hl : s.length ≤ 100000) :
    Calls Tryd.prog 18 #[.string (str s)] w fun e w' => e = .returned (.int .u32 ((crc s : Nat) : Int)) ∧ w' = w := by
  have hsz : (str s).size = s.length := str_size s
  obtain ⟨L, hL⟩ : ∃ L, L = s.length := ⟨_, rfl⟩
  rw [← hL] at hsz
  have HL : Hid (L = s.length) := hL
  have hl2 : (L : Int) ≤ 100000 := by omega
  clear hL
  go_enter Tryd.func18, Tryd.ntmps18
  go_wp2
  go_loopw [3, 4] (fun d i wr => ∃ (k v : Nat), k ≤ L ∧ d = .int .u32 v ∧ i = .int .i64 k ∧ wr = w ∧ Hid (v = crcF 4294967295 (s.take k))) (fun _ i _ => L - (intOf i).toNat)
  case atStart => exact ⟨0, 4294967295, Nat.zero_le _, rfl, rfl, rfl, rfl⟩
  case round =>
    obtain ⟨k, v, hk, rfl, rfl, rfl, hv⟩ := hrel
    by_cases hlt : k < L
    · have hlt' : (k : Int) < (L : Int) := by omega
      have hkl : k < s.length := by have := HL.out; omega
      have hks : k < (str s).size := by omega
      have hst : (str s)[k] = s[k] := rfl
      obtain ⟨b, hb⟩ : ∃ b, b = s[k] := ⟨_, rfl⟩
      rw [← hb] at hst
      have hv4 : v < 2 ^ 32 := by rw [hv.out]; exact crcF_lt (by decide) _
      have hbt := b.toNat_lt
      have x1 : bits .xor .u32 (v : Int) ((b.toNat : Int) % 4294967296) = ((v ^^^ b.toNat : Nat) : Int) := by
        rw [Int.emod_eq_of_lt (by omega) (by omega)]
        exact xor_u32 v b.toNat (by omega) (by omega)
      have hx4 : v ^^^ b.toNat < 2 ^ 32 := Nat.xor_lt_two_pow hv4 (by omega)
      obtain ⟨x, hx⟩ : ∃ x, x = v ^^^ b.toNat := ⟨_, rfl⟩
      rw [← hx] at x1 hx4
      have HV : Hid (st 8 x = crcF 4294967295 (s.take (k + 1)) ∧ x < 2 ^ 32) := by
        have h9 : st 8 x = crcF 4294967295 (s.take (k + 1)) := by rw [take_next s k hkl, crcF_snoc, ← hv.out, hx, hb]; rfl
        exact ⟨h9, hx4⟩
      clear hv hx hb hx4 hv4 hkl hbt
      go_wp2
      go_loopw [3, 5] (fun d i wq => ∃ (j u : Nat), j ≤ 8 ∧ d = .int .u32 u ∧ i = .int .i64 j ∧ wq = wr ∧ Hid (st (8 - j) u = crcF 4294967295 (s.take (k + 1)) ∧ u < 2 ^ 32)) (fun _ i _ => 8 - (intOf i).toNat)
      case atStart => exact ⟨0, x, Nat.zero_le _, rfl, rfl, by first | rfl | trivial, HV.out⟩
      case round =>
        obtain ⟨j, u, hj, rfl, rfl, rfl, hu⟩ := hrel
        by_cases hj8 : j < 8
        · have hj8' : (j : Int) < 8 := by omega
          have hu4 : (u : Int) / 2 % 4294967296 = (u : Int) / 2 := by have := hu.out.2; omega
          have x2 := stp_half u hu.out.2
          obtain ⟨z, hz⟩ : ∃ z, z = (u / 2) ^^^ 3988292384 := ⟨_, rfl⟩
          rw [← hz] at x2
          by_cases ho : u % 2 = 1
          · have HZ : Hid (st (8 - (j + 1)) z = crcF 4294967295 (s.take (k + 1)) ∧ z < 2 ^ 32) := by
              have h1 := hu.out.1
              rw [show 8 - j = (8 - (j + 1)) + 1 by omega] at h1
              have h2 : stp u = z := by unfold stp; rw [if_pos ho, hz]
              have h3 := stp_lt hu.out.2
              simp only [st] at h1
              rw [h2] at h1 h3
              exact ⟨h1, h3⟩
            have ho2 : (u : Int) % 2 = 1 := by omega
            clear hu hz ho
            go_wp2
            go_roundw
            case rel => exact ⟨j + 1, z, by omega, by go_num, by go_num, by first | rfl | trivial, HZ.out⟩
            case measure => simp [intOf]; omega
          · have HZ : Hid (st (8 - (j + 1)) (u / 2) = crcF 4294967295 (s.take (k + 1)) ∧ u / 2 < 2 ^ 32) := by
              have h1 := hu.out.1
              rw [show 8 - j = (8 - (j + 1)) + 1 by omega] at h1
              have h2 : stp u = u / 2 := by unfold stp; rw [if_neg ho]
              have h3 := stp_lt hu.out.2
              simp only [st] at h1
              rw [h2] at h1 h3
              exact ⟨h1, h3⟩
            have ho2 : (u : Int) % 2 = 0 := by omega
            clear hu hz ho x2
            go_wp2
            go_roundw
            case rel => exact ⟨j + 1, u / 2, by omega, by go_num, by go_num, by first | rfl | trivial, HZ.out⟩
            case measure => simp [intOf]; omega
        · have hj9 : j = 8 := by omega
          subst hj9
          have HZ : Hid (u = crcF 4294967295 (s.take (k + 1))) := by
            have h1 := hu.out.1
            have h9 : u = crcF 4294967295 (s.take (k + 1)) := h1
            exact h9
          clear hu
          go_wp2
          go_roundw
          case rel => exact ⟨k + 1, u, by omega, by go_num, by go_num, by first | rfl | trivial, HZ.out⟩
          case measure => simp [intOf]; omega
    · have hkt : k = L := by omega
      have HV : Hid (v ^^^ 4294967295 = crc s ∧ v < 2 ^ 32) := by
        have h := hv.out
        rw [hkt, HL.out, List.take_length] at h
        rw [h]
        exact ⟨rfl, crcF_lt (by decide) _⟩
      have x3 := crc_last v HV.out.2
      rw [HV.out.1] at x3
      clear hv
      go_wp2
      go_ret
      exact ⟨rfl, rfl⟩

set_option maxRecDepth 100000 in
set_option maxHeartbeats 2000000 in
theorem rnumber_any (t : List UInt8) (w : World) (hl : t.length ≤ 8) :
    Calls Tryd.prog 25 #[.string (str t)] w fun e w' => e = .returned (.int .u64 (joinL t : Nat)) ∧ w' = w := by
  have hsz : (str t).size = t.length := str_size t
  obtain ⟨L, hL⟩ : ∃ L, L = t.length := ⟨_, rfl⟩
  rw [← hL] at hsz
  have HL : Hid (L = t.length) := hL
  have hl2 : (L : Int) ≤ 8 := by omega
  clear hL hl
  go_enter Tryd.func25, Tryd.ntmps25
  go_wp2
  go_loopw [3, 4] (fun d i wr => ∃ (k v : Nat), k ≤ L ∧ d = .int .u64 v ∧ i = .int .i64 k ∧ wr = w ∧ Hid (v = joinL (t.take k))) (fun _ i _ => L - (intOf i).toNat)
  case atStart => exact ⟨0, 0, Nat.zero_le _, rfl, rfl, rfl, rfl⟩
  case round =>
    obtain ⟨k, v, hk, rfl, rfl, rfl, hv⟩ := hrel
    by_cases hlt : k < L
    · have hlt' : (k : Int) < (L : Int) := by omega
      have hkl : k < t.length := by have := HL.out; omega
      have hks : k < (str t).size := by omega
      have hst : (str t)[k] = t[k] := rfl
      obtain ⟨b, hb⟩ : ∃ b, b = t[k] := ⟨_, rfl⟩
      rw [← hb] at hst
      have hlen : (t.take k).length ≤ 7 := by simp; omega
      have hv4 : v < 72057594037927936 := by
        rw [hv.out]
        have := joinL_lt (t.take k)
        have h7 : 256 ^ (t.take k).length ≤ 256 ^ 7 := Nat.pow_le_pow_right (by decide) hlen
        have e7 : (256 : Nat) ^ 7 = 72057594037927936 := by decide
        omega
      have hbt := b.toNat_lt
      have HV : Hid (v * 256 + b.toNat = joinL (t.take (k + 1))) := by
        have h9 : v * 256 + b.toNat = joinL (t.take (k + 1)) := by rw [take_next t k hkl, joinL_snoc, ← hv.out, hb]; rfl
        exact h9
      have hv5 : (v : Int) < 72057594037927936 := by omega
      have hb5 : (b.toNat : Int) < 256 := by omega
      have x1 : IntKind.u64.wrap ((v : Int) * 256) = (v : Int) * 256 := by rw [IntKind.wrap_u64]; omega
      have x2 : IntKind.u64.wrap (b.toNat : Int) = (b.toNat : Int) := by rw [IntKind.wrap_u64]; omega
      have x3 : IntKind.u64.wrap ((v : Int) * 256 + (b.toNat : Int)) = (v : Int) * 256 + (b.toNat : Int) := by rw [IntKind.wrap_u64]; omega
      clear hv hb hv4 hkl hlen hbt
      go_wp2
      go_roundw
      case rel => exact ⟨k + 1, v * 256 + b.toNat, by omega, by go_num, by go_num, by first | rfl | trivial, HV.out⟩
      case measure => simp [intOf]; omega
    · have hkt : k = L := by omega
      have h := hv.out
      rw [hkt, HL.out, List.take_length] at h
      subst h
      clear hv
      go_wp2
      go_ret
      exact ⟨rfl, rfl⟩

theorem Tryd.info5' : (Tryd.prog.info? 5).map (fun i => (i.zero, i.size, i.bytes)) = some (some (.int .u8 0), 1, 1) := by kernel_rfl

theorem lowB_take (n k j : Nat) (h : j < k) : (lowB n k).take (j + 1) = (lowB n k).take j ++ [UInt8.ofNat (n / 256 ^ (k - (j + 1)))] := by
  have hl : j < (lowB n k).length := by rw [lowB_length]; exact h
  rw [take_next _ j hl]
  have := lowB_get n k j h
  rw [List.getD_eq_getElem?_getD, List.getElem?_eq_getElem hl] at this
  simp at this
  rw [this]

theorem wpList_append_byte {P : Program} (w : World) {ops : Array Oper} {rest : List Oper} {o : Oper} {a : Act} {Q : Exit → Act → World → Prop} (hgd : o.guard = none) (s x : Operand) (t : TypeId)
    (ho : o.op = .call { callee := .builtin .append, args := #[s, x], argTypes := #[t, t] })
    (base : Nat) (i : TypeInfo) (ht : P.underlying t = some (.slice 5)) (hi : P.info? 5 = some i) (hz : i.zero = some (.int .u8 0)) (hsize : i.size = 1) (hby : i.bytes = 1)
    (g n cap : Nat) (xs : List UInt8) (hs : a.eval s = .slice (some ⟨g, 0, none⟩) n cap) (hown : OwnB w base g n cap xs) (ad : Addr) (cc : Nat) (c : UInt8) (hx : a.eval x = .slice (some ad) 1 cc) (hc : w.cell? ad = some (u8v c)) (h63 : n + 1 ≤ 100000000) (hbase : base ≤ w.heap.size)
    (h : ∀ g' cap' w', OwnB w' base g' (n + 1) cap' (xs ++ [c]) → w.grownBy w' (some g) → (g' = g ∨ g' = w.heap.size) → wpList P ops Q rest (a.put o.dst (.slice (some ⟨g', 0, none⟩) (n + 1) cap')) w') : wpList P ops Q (o :: rest) a w := by
  refine wpList_plain hgd fun K hK => ?_
  obtain ⟨g', cap', w', hr, h2, h3, h4⟩ := run_append_byte (P := P) w base t o.type i ht hi hz hsize hby g n cap xs hown ad cc c hc h63 hbase
  unfold Oper.wp execOp
  simp only [ho, resolve, invoke, builtin, Sem.run_bind, Sem.run_pure, Result.andThen_ok, List.map_toArray, List.map_cons, List.map_nil, hs, hx, hr]
  exact hK _ _ (h g' cap' w' h2 h3 h4)

set_option maxRecDepth 100000 in
set_option maxHeartbeats 4000000 in
theorem fixed_any (X : Nat) (k : Nat) (w : World) (hB : X < 18446744073709551616) (hk : k ≤ 8) :
    Calls Tryd.prog 22 #[.int .u64 (X : Int), .int .i64 k] w fun e w' => e = .returned (.string (str (lowB X k))) ∧ Below w.heap.size w w' := by
  have hk2 : (k : Int) ≤ 8 := by omega
  have HX : Hid (X < 18446744073709551616) := hB
  clear hB
  go_enter Tryd.func22, Tryd.ntmps22
  go_wp2_with fail
  go_loopg [5, 6] k (fun n s5 s6 wr => ∃ (j g cap : Nat), j ≤ k ∧ k - j ≤ n ∧ s6 = .int .i64 ((k : Int) - 1 - (j : Int)) ∧ s5 = .slice (some ⟨g, 0, none⟩) j cap ∧ Hid (OwnB wr w.heap.size g j cap ((lowB X k).take j) ∧ Below w.heap.size w wr))
  case atStart => exact ⟨0, w.heap.size, 0, Nat.zero_le _, by omega, by go_num, rfl, ownB_nil _, (Below.refl _ _).alloc (Nat.le_refl _) _⟩
  case round =>
    obtain ⟨j, g, cap, hj, hjn, rfl, rfl, hO⟩ := hrel
    by_cases h0 : j = k
    · subst h0
      have e0 : (j : Int) - 1 - (j : Int) = -1 := by omega
      rw [e0]
      have hcv := fun src => hO.out.1.string (P := Tryd.prog) src 9
      have hst := OwnB.string (P := Tryd.prog) hO.out.1 50 9 (by kernel_rfl) (by kernel_rfl) (by kernel_rfl)
      have HB : Hid (Below w.heap.size w wr ∧ (⟨((lowB X j).take j).toArray⟩ : ByteArray) = str (lowB X j)) := by
        refine ⟨hO.out.2, ?_⟩
        rw [List.take_of_length_le (by rw [lowB_length]; exact Nat.le_refl _)]
        rfl
      rw [HB.out.2] at hst
      clear hO e0 hcv
      go_wp2_with fail
      go_ret
      exact ⟨rfl, HB.out.1⟩
    · obtain ⟨i, hi⟩ : ∃ i, k = i + 1 + j := ⟨k - 1 - j, by omega⟩
      have hij : (k : Int) - 1 - (j : Int) = (i : Int) := by omega
      rw [hij]
      have hi8 : (i : Int) ≤ 7 := by omega
      have i0' : (0 : Int) ≤ (i : Int) := by omega
      have hbv : Value.int .u8 ((X : Int) / 2 ^ (8 * i) % 256) = u8v (UInt8.ofNat (X / 256 ^ (k - (j + 1)))) := by
        have e : (2 : Int) ^ (8 * i) = ((256 ^ i : Nat) : Int) := by rw [Int.pow_mul]; simp
        rw [e, show k - (j + 1) = i by omega]
        unfold u8v
        congr 1
      have HR : Hid (OwnB wr w.heap.size g j cap ((lowB X k).take j) ∧ Below w.heap.size w wr ∧ Value.int .u8 ((X : Int) / 2 ^ (8 * i) % 256) = u8v (UInt8.ofNat (X / 256 ^ (k - (j + 1)))) ∧ (lowB X k).take (j + 1) = (lowB X k).take j ++ [UInt8.ofNat (X / 256 ^ (k - (j + 1)))]) := ⟨hO.out.1, hO.out.2, hbv, lowB_take X k j (by omega)⟩
      obtain ⟨i0, hi0, hz0, hz1, hz2⟩ := info_parts Tryd.info5
      have hji : ((k : Int) - 1 - (j : Int)) - 1 = (k : Int) - 1 - ((j + 1 : Nat) : Int) := by omega
      have HK : Hid (k = i + 1 + j ∧ _) := ⟨hi, hjn⟩
      have hjk : j ≤ 7 := by omega
      clear hO hij hbv h0 hi hji hj hjn
      go_wp2_with (at_builtin; refine wpList_append_byte _ rfl (.tmp 14) (.tmp 20) 50 rfl w.heap.size i0 (by kernel_rfl) hi0 hz0 hz1 hz2 g j cap _ rfl (HR.out.1.alloc _) ⟨wr.heap.size, 0, none⟩ 1 (UInt8.ofNat (X / 256 ^ (k - (j + 1)))) rfl ((cell_one wr _ 5).trans (congrArg some HR.out.2.2.1)) (by omega) (by have := HR.out.2.1.size; simp; omega) ?_; intro g2 c2 w2 hown2 hgr2 hk2)
      go_roundg (k - (j + 1))
      case measure => have := HK.out; omega
      case rel =>
        refine ⟨j + 1, g2, c2, by have := HK.out; omega, Nat.le_refl _, ?_, rfl, ?_, ?_⟩
        · congr 1
          have := HK.out
          omega
        · rw [HR.out.2.2.2]
          exact hown2
        · exact below_grow (HR.out.2.1.alloc HR.out.2.1.size _) hgr2 HR.out.1.lt.1
end Go.Proofs.YtfpiepephljmgaaDoor
