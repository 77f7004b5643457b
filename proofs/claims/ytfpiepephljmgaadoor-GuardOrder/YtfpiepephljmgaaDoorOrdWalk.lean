/-
  GuardOrder, walked.
-/
import Derived.Test.YtfpiepephljmgaaDoorGCat
import Derived.Test.YtfpiepephljmgaaDoorLaidW
import Derived.Test.YtfpiepephljmgaaDoorGArg
namespace Go.Proofs.YtfpiepephljmgaaDoor
open Go.ChangeShapes Go.WideShapes Go.ChangeAt Go.RowKit

theorem IsRow.at8 {w : World} {a : Option Addr} {len cap : Nat} {zs : List Int} (h : IsRow .u8 w a len cap zs) (i : Nat) (hi : i < len) :
    ∃ (b off v : Nat), a = some ⟨b, off, none⟩ ∧ b < w.heap.size ∧ v < 256 ∧ w.cell? ⟨b, off + i, none⟩ = some (.int .u8 (v : Int)) := by
  rcases h with ⟨rfl, rfl, rfl, rfl⟩ | ⟨x, rfl, hlc, hcm, hz, hc, hw⟩
  · omega
  · have hpos : 0 < zs.length := by omega
    obtain ⟨b, off, rfl, hcc⟩ := ints_at hc hpos
    have hil : i < zs.length := by omega
    have h1 := hcc i hil
    rw [List.getD_eq_getElem?_getD] at h1
    have hm : zs[i]?.getD 0 ∈ zs := by
      rw [List.getElem?_eq_getElem hil]
      exact List.getElem_mem _
    obtain ⟨b0, b1⟩ := bounds_u8 (hw _ hm)
    obtain ⟨v, hv⟩ := Int.eq_ofNat_of_zero_le b0
    refine ⟨b, off, v, rfl, ?_, by omega, ?_⟩
    · exact World.block_lt_of_cell? w ⟨b, off + 0, none⟩ (hcc 0 hpos)
    · rw [h1, hv]

/-- Whether all so far came in turn. -/
def OnIs (b : Bool) (e : Nat) (fs : List Frm) : Prop := match b with
  | true => allF 1 e fs = fs
  | false => allF 1 e fs ≠ fs

/-- Whether the next one comes in turn. -/
def Turns (b b' : Bool) (y e x k : Nat) : Prop := b' = true ↔ b = true ∧ y = e ∧ x = k + 1

/-- What the loop holds. -/
structure OrdIs (w : World) (e : Nat) (fs : List Frm) (S : List UInt8) (n k : Nat) (b : Bool) (wr : World) : Prop where
  cat : S = cat fs
  len : fs.length = k
  ok : ∀ f ∈ fs, f.ok ∧ f.text = []
  num : n = (allF 1 e fs).length
  on : OnIs b e fs
  bel : Below w.heap.size w wr

theorem OrdIs.size {w : World} {e n k : Nat} {fs : List Frm} {S : List UInt8} {b : Bool} {wr : World} (h : OrdIs w e fs S n k b wr) : S.length = 24 * k := by
  rw [h.cat, ← h.len]
  have h1 := fun f hf => (h.ok f hf).2
  clear h
  induction fs with
  | nil => rfl
  | cons f fs ih =>
    rw [cat_cons, List.length_append, putF_length, h1 f List.mem_cons_self, ih (fun g hg => h1 g (List.mem_cons_of_mem _ hg)), List.length_cons]
    simp
    omega

theorem OrdIs.step {w : World} {e n k : Nat} {fs : List Frm} {S : List UInt8} {b : Bool} {wr w2 : World} (h : OrdIs w e fs S n k b wr) (x y : Nat) (hx : x < 18446744073709551616) (hy : y < 18446744073709551616) (hw : Below w.heap.size w w2) (S' : List UInt8) (hS : S' = S ++ putF ⟨x, y, []⟩) (b' : Bool)
    (hb : Turns b b' y e x k) (n' : Nat) (hn : n' = if b' = true then n + 1 else n) : OrdIs w e (fs ++ [⟨x, y, []⟩]) S' n' (k + 1) b' w2 := by
  refine ⟨by rw [hS, h.cat, cat_snoc], by rw [List.length_append, h.len]; rfl, ?_, ?_, ?_, hw⟩
  · intro f hf
    rcases List.mem_append.1 hf with hf | hf
    · exact h.ok f hf
    · rw [List.mem_singleton] at hf
      subst hf
      exact ⟨⟨hx, hy, by show 0 ≤ 8192; omega⟩, rfl⟩
  · have ho := h.on
    cases b with
    | true =>
      have ho : allF 1 e fs = fs := ho
      by_cases hc : y = e ∧ x = k + 1
      · have hb' : b' = true := hb.2 ⟨rfl, hc⟩
        rw [hn, if_pos hb', allF_snoc_on fs 1 e ⟨x, y, []⟩ ho hc.1 (by show x = 1 + fs.length; rw [h.len]; omega), List.length_append, h.num, ho]
        rfl
      · have hb' : ¬ b' = true := fun hh => hc (hb.1 hh).2
        rw [hn, if_neg hb', allF_snoc_no fs 1 e ⟨x, y, []⟩ ho (fun hh => hc ⟨hh.1, by have h2 : x = 1 + fs.length := hh.2; rw [h.len] at h2; omega⟩), h.num, ho]
    | false =>
      have ho : allF 1 e fs ≠ fs := ho
      have hb' : ¬ b' = true := fun hh => by have := (hb.1 hh).1; cases this
      rw [hn, if_neg hb', (allF_snoc_off fs 1 e ⟨x, y, []⟩ ho).1, h.num]
  · have ho := h.on
    cases b with
    | true =>
      have ho : allF 1 e fs = fs := ho
      by_cases hc : y = e ∧ x = k + 1
      · have hb' : b' = true := hb.2 ⟨rfl, hc⟩
        rw [hb']
        exact allF_snoc_on fs 1 e ⟨x, y, []⟩ ho hc.1 (by show x = 1 + fs.length; rw [h.len]; omega)
      · have hb' : b' = false := by
          cases b' with
          | true => exact absurd (hb.1 rfl).2 hc
          | false => rfl
        rw [hb']
        have h3 := allF_snoc_no fs 1 e ⟨x, y, []⟩ ho (fun hh => hc ⟨hh.1, by have h2 : x = 1 + fs.length := hh.2; rw [h.len] at h2; omega⟩)
        show allF 1 e (fs ++ [⟨x, y, []⟩]) ≠ fs ++ [⟨x, y, []⟩]
        rw [h3]
        intro h4
        have := congrArg List.length h4
        rw [List.length_append] at this
        simp at this
    | false =>
      have ho : allF 1 e fs ≠ fs := ho
      have hb' : b' = false := by
        cases b' with
        | true => have := (hb.1 rfl).1; cases this
        | false => rfl
      rw [hb']
      exact (allF_snoc_off fs 1 e ⟨x, y, []⟩ ho).2

theorem OrdIs.told {w : World} {e n k : Nat} {fs : List Frm} {S : List UInt8} {b : Bool} {wr : World} (h : OrdIs w e fs S n k b wr) :
    (allL 1 e S).length = n ∧ (S.length : Int) - ((leftL S (allL 1 e S)).length : Int) = 24 * (n : Int) := by
  have h1 := all_cat fs 1 e (fun f hf => (h.ok f hf).1)
  rw [← h.cat] at h1
  have h2 : (allL 1 e S).length = n := by rw [h.num, ← h1, List.length_map]
  refine ⟨h2, ?_⟩
  have h3 := left_sum S.length 1 e S
  have h4 := sum_empty (allL 1 e S) (fun f hf => by rw [h1] at hf; exact (h.ok f (allF_mem fs 1 e f hf)).2)
  rw [h2] at h4
  unfold allL at h4 ⊢
  omega

set_option maxRecDepth 100000 in
set_option maxHeartbeats 8000000 in
theorem order_walk (a0 : Option Addr) (len0 cap0 : Nat) (z0 : List Int) (a1 : Int) (w : World) (w0 : IsRow .u8 w a0 len0 cap0 z0) (w1 : (Lit.int .u64 a1).wf = true) (hT : Tab w) :
    Calls Tryd.prog 6 #[.slice a0 len0 cap0, .int .u64 a1] w fun e w' => e = .returned (.bool true) ∧ Below w.heap.size w w' := by
  obtain ⟨q0, q1⟩ := bounds_u64 w1
  obtain ⟨ep, rfl⟩ := Int.eq_ofNat_of_zero_le q0
  have hlm : len0 ≤ maxLen := by
    rcases w0 with ⟨_, rfl, _⟩ | ⟨_, _, h1, h2, _⟩
    · exact Nat.zero_le _
    · exact Nat.le_trans h1 h2
  unfold maxLen at hlm
  have HT : Hid (Tab w ∧ IsRow .u8 w a0 len0 cap0 z0 ∧ ep < 18446744073709551616) := ⟨hT, w0, by omega⟩
  clear w0 w1 hT q0 q1
  by_cases hl : 30 < len0
  · have hl2 : (30 : Int) < (len0 : Int) := by omega
    go_enter Tryd.func6, Tryd.ntmps6
    go_wp2_with (go_at_call 10; refine (shown_any _ HT.out.1).mono ?_; rintro e w3 ⟨rfl, rfl⟩)
    go_ret
    exact ⟨rfl, Below.refl _ _⟩
  · have hl2 : ¬ (30 : Int) < (len0 : Int) := by omega
    have hl3 : decide ((30 : Int) < (len0 : Int)) = false := decide_eq_false hl2
    have hl4 : (len0 : Int) ≤ 30 := by omega
    clear hl hlm
    go_enter Tryd.func6, Tryd.ntmps6
    go_wp2_with fail
    refine (shown_any _ HT.out.1).mono ?_
    rintro e w1 ⟨rfl, rfl⟩
    go_wp2_with fail
    go_loopw [5, 6, 7, 8] (fun s5 s6 s7 s8 wr => ∃ (fs : List Frm) (S : List UInt8) (n k : Nat) (b : Bool), k ≤ len0 ∧ n ≤ k ∧ s5 = .string (str S) ∧ s6 = .int .i64 (n : Int) ∧ s7 = .bool b ∧ s8 = .int .i64 (k : Int) ∧ Hid (OrdIs w1 ep fs S n k b wr)) (fun _ _ _ s8 _ => len0 - (intOf s8).toNat)
    case atStart => exact ⟨[], [], 0, 0, true, Nat.zero_le _, Nat.le_refl _, rfl, rfl, rfl, rfl, rfl, rfl, (fun f hf => (by cases hf)), rfl, rfl, Below.refl _ _⟩
    case round =>
      obtain ⟨fs, S, n, k, b, hk, hnk, rfl, rfl, rfl, rfl, hrel⟩ := hrel
      have hSl := hrel.out.size
      have hz1 : (str S).size = S.length := str_size S
      by_cases hlt : k < len0
      · have hlt' : (k : Int) < (len0 : Int) := by omega
        obtain ⟨bb, off, v, rfl, hbl, hv, hcell⟩ := HT.out.2.1.at8 k hlt
        have hc : wr.cell? ⟨bb, off + k, none⟩ = some (.int .u8 (v : Int)) := (hrel.out.bel.cell (p := ⟨bb, off + k, none⟩) hbl).trans hcell
        have hk2 : IntKind.u64.wrap (k : Int) = (k : Int) := by rw [IntKind.wrap_u64]; omega
        obtain ⟨K, hK⟩ : ∃ K, K = k + 1 := ⟨_, rfl⟩
        have hk3 : IntKind.u64.wrap ((k : Int) + 1) = (K : Int) := by rw [IntKind.wrap_u64]; omega
        have hk4 : (k : Int) + 1 = (K : Int) := by omega
        by_cases hva : v < 20
        · have hv1 : (v : Int) < 20 := by omega
          have hv2 : ¬ (235 : Int) < (v : Int) := by omega
          have hv3 : IntKind.u64.wrap (v : Int) = (v : Int) := by rw [IntKind.wrap_u64]; omega
          have hQ : v < 18446744073709551616 := by omega
          have hE := HT.out.2.2
          by_cases hvK : v = K
          · subst hvK
            cases b with
            | true =>
              have hbb : Turns true true ep ep v k := by
                exact ⟨fun _ => ⟨rfl, rfl, by omega⟩, fun _ => rfl⟩
              obtain ⟨P, hP⟩ : ∃ P, P = putF ⟨v, ep, []⟩ := ⟨_, rfl⟩
              obtain ⟨S', hS'⟩ : ∃ S', S' = S ++ P := ⟨_, rfl⟩
              have z1 : (str P).size = 24 := by rw [str_size, hP, putF_length]; rfl
              have q1 : str S ++ str P = str S' := by rw [str_app, hS']
              have z2 : ((str S).size : Int) ≤ 1000 := by rw [hz1]; omega
              have HP : Hid (P = putF ⟨v, ep, []⟩ ∧ S' = S ++ P ∧ OrdIs w1 ep fs S n k true wr ∧ v < 18446744073709551616 ∧ ep < 18446744073709551616 ∧ Turns true true ep ep v k) := ⟨hP, hS', hrel.out, hQ, hE, hbb⟩
              have HW : Hid (Tab wr) := HT.out.1.below hrel.out.bel HT.out.1.pos
              have HKK : Hid (v = k + 1) := hK
              clear hP hS' hrel hQ hE hbb hcell hSl hK
              go_wp2_with fail
              refine (put_ok v ep [] wr HW.out HP.out.2.2.2.1 HP.out.2.2.2.2.1 (Nat.zero_le _)).mono ?_
              rw [← HP.out.1]
              rintro e w2 ⟨rfl, b2⟩
              have HN : Hid (OrdIs w1 ep (fs ++ [⟨v, ep, []⟩]) S' (n + 1) (k + 1) true w2) := HP.out.2.2.1.step v ep HP.out.2.2.2.1 HP.out.2.2.2.2.1 (chain HP.out.2.2.1.bel b2) S' (by rw [HP.out.2.1, HP.out.1]) true HP.out.2.2.2.2.2 (n + 1) rfl
              clear b2
              go_wp2_with fail
              go_roundw
              case rel => exact ⟨fs ++ [⟨v, ep, []⟩], S', (n + 1), k + 1, true, by omega, by omega, rfl, by go_num, rfl, by have := HKK.out; go_num, HN⟩
              case measure => have := HKK.out; simp [intOf]; omega
            | false =>
              have hbb : Turns false false ep ep v k := by
                exact ⟨fun h => (by cases h), fun h => (by cases h.1)⟩
              obtain ⟨P, hP⟩ : ∃ P, P = putF ⟨v, ep, []⟩ := ⟨_, rfl⟩
              obtain ⟨S', hS'⟩ : ∃ S', S' = S ++ P := ⟨_, rfl⟩
              have z1 : (str P).size = 24 := by rw [str_size, hP, putF_length]; rfl
              have q1 : str S ++ str P = str S' := by rw [str_app, hS']
              have z2 : ((str S).size : Int) ≤ 1000 := by rw [hz1]; omega
              have HP : Hid (P = putF ⟨v, ep, []⟩ ∧ S' = S ++ P ∧ OrdIs w1 ep fs S n k false wr ∧ v < 18446744073709551616 ∧ ep < 18446744073709551616 ∧ Turns false false ep ep v k) := ⟨hP, hS', hrel.out, hQ, hE, hbb⟩
              have HW : Hid (Tab wr) := HT.out.1.below hrel.out.bel HT.out.1.pos
              have HKK : Hid (v = k + 1) := hK
              clear hP hS' hrel hQ hE hbb hcell hSl hK
              go_wp2_with fail
              refine (put_ok v ep [] wr HW.out HP.out.2.2.2.1 HP.out.2.2.2.2.1 (Nat.zero_le _)).mono ?_
              rw [← HP.out.1]
              rintro e w2 ⟨rfl, b2⟩
              have HN : Hid (OrdIs w1 ep (fs ++ [⟨v, ep, []⟩]) S' n (k + 1) false w2) := HP.out.2.2.1.step v ep HP.out.2.2.2.1 HP.out.2.2.2.2.1 (chain HP.out.2.2.1.bel b2) S' (by rw [HP.out.2.1, HP.out.1]) false HP.out.2.2.2.2.2 n rfl
              clear b2
              go_wp2_with fail
              go_roundw
              case rel => exact ⟨fs ++ [⟨v, ep, []⟩], S', n, k + 1, false, by omega, by omega, rfl, by go_num, rfl, by have := HKK.out; go_num, HN⟩
              case measure => have := HKK.out; simp [intOf]; omega
          · have hvk : ¬ (v : Int) = (K : Int) := by omega
            cases b with
            | true =>
              have hbb : Turns true false ep ep v k := by
                exact ⟨fun h => (by cases h), fun h => absurd h.2 (fun h9 => hvK (by omega))⟩
              obtain ⟨P, hP⟩ : ∃ P, P = putF ⟨v, ep, []⟩ := ⟨_, rfl⟩
              obtain ⟨S', hS'⟩ : ∃ S', S' = S ++ P := ⟨_, rfl⟩
              have z1 : (str P).size = 24 := by rw [str_size, hP, putF_length]; rfl
              have q1 : str S ++ str P = str S' := by rw [str_app, hS']
              have z2 : ((str S).size : Int) ≤ 1000 := by rw [hz1]; omega
              have HP : Hid (P = putF ⟨v, ep, []⟩ ∧ S' = S ++ P ∧ OrdIs w1 ep fs S n k true wr ∧ v < 18446744073709551616 ∧ ep < 18446744073709551616 ∧ Turns true false ep ep v k) := ⟨hP, hS', hrel.out, hQ, hE, hbb⟩
              have HW : Hid (Tab wr) := HT.out.1.below hrel.out.bel HT.out.1.pos
              have HKK : Hid (K = k + 1) := hK
              clear hP hS' hrel hQ hE hbb hcell hSl hK
              go_wp2_with fail
              refine (put_ok v ep [] wr HW.out HP.out.2.2.2.1 HP.out.2.2.2.2.1 (Nat.zero_le _)).mono ?_
              rw [← HP.out.1]
              rintro e w2 ⟨rfl, b2⟩
              have HN : Hid (OrdIs w1 ep (fs ++ [⟨v, ep, []⟩]) S' n (k + 1) false w2) := HP.out.2.2.1.step v ep HP.out.2.2.2.1 HP.out.2.2.2.2.1 (chain HP.out.2.2.1.bel b2) S' (by rw [HP.out.2.1, HP.out.1]) false HP.out.2.2.2.2.2 n rfl
              clear b2
              go_wp2_with fail
              go_roundw
              case rel => exact ⟨fs ++ [⟨v, ep, []⟩], S', n, k + 1, false, by omega, by omega, rfl, by go_num, rfl, by have := HKK.out; go_num, HN⟩
              case measure => have := HKK.out; simp [intOf]; omega
            | false =>
              have hbb : Turns false false ep ep v k := by
                exact ⟨fun h => (by cases h), fun h => (by cases h.1)⟩
              obtain ⟨P, hP⟩ : ∃ P, P = putF ⟨v, ep, []⟩ := ⟨_, rfl⟩
              obtain ⟨S', hS'⟩ : ∃ S', S' = S ++ P := ⟨_, rfl⟩
              have z1 : (str P).size = 24 := by rw [str_size, hP, putF_length]; rfl
              have q1 : str S ++ str P = str S' := by rw [str_app, hS']
              have z2 : ((str S).size : Int) ≤ 1000 := by rw [hz1]; omega
              have HP : Hid (P = putF ⟨v, ep, []⟩ ∧ S' = S ++ P ∧ OrdIs w1 ep fs S n k false wr ∧ v < 18446744073709551616 ∧ ep < 18446744073709551616 ∧ Turns false false ep ep v k) := ⟨hP, hS', hrel.out, hQ, hE, hbb⟩
              have HW : Hid (Tab wr) := HT.out.1.below hrel.out.bel HT.out.1.pos
              have HKK : Hid (K = k + 1) := hK
              clear hP hS' hrel hQ hE hbb hcell hSl hK
              go_wp2_with fail
              refine (put_ok v ep [] wr HW.out HP.out.2.2.2.1 HP.out.2.2.2.2.1 (Nat.zero_le _)).mono ?_
              rw [← HP.out.1]
              rintro e w2 ⟨rfl, b2⟩
              have HN : Hid (OrdIs w1 ep (fs ++ [⟨v, ep, []⟩]) S' n (k + 1) false w2) := HP.out.2.2.1.step v ep HP.out.2.2.2.1 HP.out.2.2.2.2.1 (chain HP.out.2.2.1.bel b2) S' (by rw [HP.out.2.1, HP.out.1]) false HP.out.2.2.2.2.2 n rfl
              clear b2
              go_wp2_with fail
              go_roundw
              case rel => exact ⟨fs ++ [⟨v, ep, []⟩], S', n, k + 1, false, by omega, by omega, rfl, by go_num, rfl, by have := HKK.out; go_num, HN⟩
              case measure => have := HKK.out; simp [intOf]; omega
        · have hv1 : ¬ (v : Int) < 20 := by omega
          have hQ : K < 18446744073709551616 := by omega
          by_cases hvb : 235 < v
          · have hv2 : (235 : Int) < (v : Int) := by omega
            obtain ⟨E, hEE⟩ : ∃ E, E = (ep + 1) % 18446744073709551616 := ⟨_, rfl⟩
            have hE : E < 18446744073709551616 := by omega
            have he1 : IntKind.u64.wrap ((ep : Int) + 1) = (E : Int) := by rw [IntKind.wrap_u64]; omega
            have he2 : ((ep : Int) + 1) % 18446744073709551616 = (E : Int) := by omega
            have he3 : ¬ E = ep := by have := HT.out.2.2; omega
            have he4 : ¬ (E : Int) = (ep : Int) := by omega
            have he5 : ((E : Int) == (ep : Int)) = false := by rw [beq_eq_false_iff_ne]; exact he4
            have HEE : Hid (¬ E = ep) := he3
            clear hEE he3
            cases b with
            | true =>
              have hbb : Turns true false E ep K k := by
                exact ⟨fun h => (by cases h), fun h => absurd h.2 (fun h9 => HEE.out h9.1)⟩
              obtain ⟨P, hP⟩ : ∃ P, P = putF ⟨K, E, []⟩ := ⟨_, rfl⟩
              obtain ⟨S', hS'⟩ : ∃ S', S' = S ++ P := ⟨_, rfl⟩
              have z1 : (str P).size = 24 := by rw [str_size, hP, putF_length]; rfl
              have q1 : str S ++ str P = str S' := by rw [str_app, hS']
              have z2 : ((str S).size : Int) ≤ 1000 := by rw [hz1]; omega
              have HP : Hid (P = putF ⟨K, E, []⟩ ∧ S' = S ++ P ∧ OrdIs w1 ep fs S n k true wr ∧ K < 18446744073709551616 ∧ E < 18446744073709551616 ∧ Turns true false E ep K k) := ⟨hP, hS', hrel.out, hQ, hE, hbb⟩
              have HW : Hid (Tab wr) := HT.out.1.below hrel.out.bel HT.out.1.pos
              have HKK : Hid (K = k + 1) := hK
              clear hP hS' hrel hQ hE hbb hcell hSl hK
              go_wp2_with fail
              refine (put_ok K E [] wr HW.out HP.out.2.2.2.1 HP.out.2.2.2.2.1 (Nat.zero_le _)).mono ?_
              rw [← HP.out.1]
              rintro e w2 ⟨rfl, b2⟩
              have HN : Hid (OrdIs w1 ep (fs ++ [⟨K, E, []⟩]) S' n (k + 1) false w2) := HP.out.2.2.1.step K E HP.out.2.2.2.1 HP.out.2.2.2.2.1 (chain HP.out.2.2.1.bel b2) S' (by rw [HP.out.2.1, HP.out.1]) false HP.out.2.2.2.2.2 n rfl
              clear b2
              go_wp2_with fail
              go_roundw
              case rel => exact ⟨fs ++ [⟨K, E, []⟩], S', n, k + 1, false, by omega, by omega, rfl, by go_num, rfl, by have := HKK.out; go_num, HN⟩
              case measure => have := HKK.out; simp [intOf]; omega
            | false =>
              have hbb : Turns false false E ep K k := by
                exact ⟨fun h => (by cases h), fun h => (by cases h.1)⟩
              obtain ⟨P, hP⟩ : ∃ P, P = putF ⟨K, E, []⟩ := ⟨_, rfl⟩
              obtain ⟨S', hS'⟩ : ∃ S', S' = S ++ P := ⟨_, rfl⟩
              have z1 : (str P).size = 24 := by rw [str_size, hP, putF_length]; rfl
              have q1 : str S ++ str P = str S' := by rw [str_app, hS']
              have z2 : ((str S).size : Int) ≤ 1000 := by rw [hz1]; omega
              have HP : Hid (P = putF ⟨K, E, []⟩ ∧ S' = S ++ P ∧ OrdIs w1 ep fs S n k false wr ∧ K < 18446744073709551616 ∧ E < 18446744073709551616 ∧ Turns false false E ep K k) := ⟨hP, hS', hrel.out, hQ, hE, hbb⟩
              have HW : Hid (Tab wr) := HT.out.1.below hrel.out.bel HT.out.1.pos
              have HKK : Hid (K = k + 1) := hK
              clear hP hS' hrel hQ hE hbb hcell hSl hK
              go_wp2_with fail
              refine (put_ok K E [] wr HW.out HP.out.2.2.2.1 HP.out.2.2.2.2.1 (Nat.zero_le _)).mono ?_
              rw [← HP.out.1]
              rintro e w2 ⟨rfl, b2⟩
              have HN : Hid (OrdIs w1 ep (fs ++ [⟨K, E, []⟩]) S' n (k + 1) false w2) := HP.out.2.2.1.step K E HP.out.2.2.2.1 HP.out.2.2.2.2.1 (chain HP.out.2.2.1.bel b2) S' (by rw [HP.out.2.1, HP.out.1]) false HP.out.2.2.2.2.2 n rfl
              clear b2
              go_wp2_with fail
              go_roundw
              case rel => exact ⟨fs ++ [⟨K, E, []⟩], S', n, k + 1, false, by omega, by omega, rfl, by go_num, rfl, by have := HKK.out; go_num, HN⟩
              case measure => have := HKK.out; simp [intOf]; omega
          · have hv2 : ¬ (235 : Int) < (v : Int) := by omega
            have hE := HT.out.2.2
            cases b with
            | true =>
              have hbb : Turns true true ep ep K k := by
                exact ⟨fun _ => ⟨rfl, rfl, by omega⟩, fun _ => rfl⟩
              obtain ⟨P, hP⟩ : ∃ P, P = putF ⟨K, ep, []⟩ := ⟨_, rfl⟩
              obtain ⟨S', hS'⟩ : ∃ S', S' = S ++ P := ⟨_, rfl⟩
              have z1 : (str P).size = 24 := by rw [str_size, hP, putF_length]; rfl
              have q1 : str S ++ str P = str S' := by rw [str_app, hS']
              have z2 : ((str S).size : Int) ≤ 1000 := by rw [hz1]; omega
              have HP : Hid (P = putF ⟨K, ep, []⟩ ∧ S' = S ++ P ∧ OrdIs w1 ep fs S n k true wr ∧ K < 18446744073709551616 ∧ ep < 18446744073709551616 ∧ Turns true true ep ep K k) := ⟨hP, hS', hrel.out, hQ, hE, hbb⟩
              have HW : Hid (Tab wr) := HT.out.1.below hrel.out.bel HT.out.1.pos
              have HKK : Hid (K = k + 1) := hK
              clear hP hS' hrel hQ hE hbb hcell hSl hK
              go_wp2_with fail
              refine (put_ok K ep [] wr HW.out HP.out.2.2.2.1 HP.out.2.2.2.2.1 (Nat.zero_le _)).mono ?_
              rw [← HP.out.1]
              rintro e w2 ⟨rfl, b2⟩
              have HN : Hid (OrdIs w1 ep (fs ++ [⟨K, ep, []⟩]) S' (n + 1) (k + 1) true w2) := HP.out.2.2.1.step K ep HP.out.2.2.2.1 HP.out.2.2.2.2.1 (chain HP.out.2.2.1.bel b2) S' (by rw [HP.out.2.1, HP.out.1]) true HP.out.2.2.2.2.2 (n + 1) rfl
              clear b2
              go_wp2_with fail
              go_roundw
              case rel => exact ⟨fs ++ [⟨K, ep, []⟩], S', (n + 1), k + 1, true, by omega, by omega, rfl, by go_num, rfl, by have := HKK.out; go_num, HN⟩
              case measure => have := HKK.out; simp [intOf]; omega
            | false =>
              have hbb : Turns false false ep ep K k := by
                exact ⟨fun h => (by cases h), fun h => (by cases h.1)⟩
              obtain ⟨P, hP⟩ : ∃ P, P = putF ⟨K, ep, []⟩ := ⟨_, rfl⟩
              obtain ⟨S', hS'⟩ : ∃ S', S' = S ++ P := ⟨_, rfl⟩
              have z1 : (str P).size = 24 := by rw [str_size, hP, putF_length]; rfl
              have q1 : str S ++ str P = str S' := by rw [str_app, hS']
              have z2 : ((str S).size : Int) ≤ 1000 := by rw [hz1]; omega
              have HP : Hid (P = putF ⟨K, ep, []⟩ ∧ S' = S ++ P ∧ OrdIs w1 ep fs S n k false wr ∧ K < 18446744073709551616 ∧ ep < 18446744073709551616 ∧ Turns false false ep ep K k) := ⟨hP, hS', hrel.out, hQ, hE, hbb⟩
              have HW : Hid (Tab wr) := HT.out.1.below hrel.out.bel HT.out.1.pos
              have HKK : Hid (K = k + 1) := hK
              clear hP hS' hrel hQ hE hbb hcell hSl hK
              go_wp2_with fail
              refine (put_ok K ep [] wr HW.out HP.out.2.2.2.1 HP.out.2.2.2.2.1 (Nat.zero_le _)).mono ?_
              rw [← HP.out.1]
              rintro e w2 ⟨rfl, b2⟩
              have HN : Hid (OrdIs w1 ep (fs ++ [⟨K, ep, []⟩]) S' n (k + 1) false w2) := HP.out.2.2.1.step K ep HP.out.2.2.2.1 HP.out.2.2.2.2.1 (chain HP.out.2.2.1.bel b2) S' (by rw [HP.out.2.1, HP.out.1]) false HP.out.2.2.2.2.2 n rfl
              clear b2
              go_wp2_with fail
              go_roundw
              case rel => exact ⟨fs ++ [⟨K, ep, []⟩], S', n, k + 1, false, by omega, by omega, rfl, by go_num, rfl, by have := HKK.out; go_num, HN⟩
              case measure => have := HKK.out; simp [intOf]; omega
      · have hkt : k = len0 := by omega
        subst hkt
        obtain ⟨N, hN⟩ : ∃ N, N = (S.length : Int) - ((leftL S (allL 1 ep S)).length : Int) := ⟨_, rfl⟩
        obtain ⟨M, hM⟩ : ∃ M, M = (allL 1 ep S).length := ⟨_, rfl⟩
        have ht := hrel.out.told
        rw [← hM, ← hN] at ht
        obtain ⟨rfl, ht2⟩ := ht
        have HP : Hid (OrdIs w1 ep fs S M k b wr ∧ M = (allL 1 ep S).length ∧ N = (S.length : Int) - ((leftL S (allL 1 ep S)).length : Int) ∧ S.length ≤ 100000) := ⟨hrel.out, hM, hN, by omega⟩
        have HW : Hid (Tab wr) := HT.out.1.below hrel.out.bel HT.out.1.pos
        subst ht2
        clear hrel hN hM hSl
        go_wp2_with fail
        refine (callsIn_wide.1 (all_in S ep wr HW.out HT.out.2.2 HP.out.2.2.2)).mono ?_
        rw [← HP.out.2.1, ← HP.out.2.2.1]
        rintro e w2 ⟨v, rfl, o2, b2⟩
        have H2 : Hid (Below w1.heap.size w1 w2) := chain HP.out.1.bel b2
        obtain ⟨a9, c9, rfl⟩ : ∃ a c, v = .slice a M c := by
          rcases o2.2 with ⟨h1, h2⟩ | ⟨g, cap, cur, hv, _⟩
          · exact ⟨none, 0, by rw [h1, h2]⟩
          · exact ⟨_, cap, hv⟩
        clear o2 b2
        go_wp2_with fail
        go_ret
        exact ⟨rfl, H2.out⟩
end Go.Proofs.YtfpiepephljmgaaDoor
