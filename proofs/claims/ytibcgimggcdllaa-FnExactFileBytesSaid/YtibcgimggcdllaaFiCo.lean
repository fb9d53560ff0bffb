/-
  The library's Concat at four rows of bytes.
-/
import Derived.Test.YtibcgimggcdllaaFiBo
import Derived.Shelf.Spec.SlicesGrow
namespace Go.Proofs
open Go.Shelf
def Try.l41_ren : Go.Shelf.Ren := ⟨fun | 4 => 41 | n => n, fun | 22 => 22 | 25 => 5 | 20 => 20 | 9 => 9 | 3 => 3 | 0 => 0 | 4 => 4 | n => n, fun | n => n⟩
theorem Try.l41 : Go.Proofs.Lays8.n4 Try.prog Try.l41_ren := {
  mixed := by kernel_rfl
  f4 := ⟨Try.f41.name, by decide, Try.func41.trans (congrArg some (by kernel_rfl))⟩
  t0 := Try.underlying0
  a0 := Try.isAgg0
  z0 := Try.sizeOf0
  v0 := Try.zeroValue0
  t3 := Try.underlying3
  a3 := Try.isAgg3
  z3 := Try.sizeOf3
  v3 := Try.zeroValue3
  t4 := Try.underlying4
  a4 := Try.isAgg4
  z4 := Try.sizeOf4
  v4 := Try.zeroValue4
  t9 := Try.underlying9
  a9 := Try.isAgg9
  z9 := Try.sizeOf9
  v9 := Try.zeroValue9
  t20 := Try.underlying20
  a20 := Try.isAgg20
  z20 := Try.sizeOf20
  v20 := Try.zeroValue20
  t22 := Try.underlying22
  a22 := Try.isAgg22
  z22 := Try.sizeOf22
  v22 := Try.zeroValue22 }
end Go.Proofs
namespace Go.Proofs.Ytibcgimggcdllaa
open Go.ChangeShapes Go.WideShapes Go.ChangeAt Go.RowKit
set_option linter.unusedVariables false
set_option linter.unusedSimpArgs false

theorem grow_any (n : Nat) (w : World) (h0 : 0 < n) (hn : n ≤ 100000) :
    Calls Try.prog 41 #[.slice none 0 0, .int .i64 (n : Int)] w fun e w' => ∃ v, e = .returned v ∧ Rb w' w.heap.size v 0 [] ∧ Below w.heap.size w w' := by
  obtain ⟨i0, hi, hz0, hz1, hz2⟩ := info_parts info5
  have h := Any8.slices_Grow_grow Try.l41 i0 (.int .u8 0) hi hz0 (by omega) none 0 0 n [] w (Nat.le_refl _) (by omega) (by rw [hz2]; omega) (by omega) (by simp) (fun _ => rfl) (fun a ha => by cases ha)
  refine Calls.mono h ?_
  rintro e w' ⟨rfl, rfl⟩
  have hge := grownCap_ge w (0 + n) 0 5
  have hle := grownCap_le_maxLen w (0 + n) 0 5 (by unfold maxLen; omega)
  refine ⟨.slice (some ⟨w.heap.size, 0, none⟩) 0 (grownCap w (0 + n) 0 5), rfl, ⟨by simp [byL], Or.inr ⟨w.heap.size, grownCap w (0 + n) 0 5, ([] : List Value).toArray ++ Builtin.zeroCells (Value.int .u8 0).cells (0 + n - 0) ++ Builtin.zeroCells (Value.int .u8 0).cells (grownCap w (0 + n) 0 5 - (0 + n)), rfl, Nat.le_refl _, heap_alloc_new w.drew _, Nat.zero_le _, hle, ?_, ?_⟩⟩, ?_⟩
  · generalize grownCap w (0 + n) 0 5 = cap at *
    simp [size_zeroCells, Value.cells]
    omega
  · simp [byL]
  · exact ba (Below.drew (Below.refl _ _)) _
/-- four rows of bytes that stand in a row of slices -/
structure Prt (w : World) (gv : Nat) (Ls : List (List Int)) : Prop where
  four : Ls.length = 4
  one : ∀ (k : Nat) (L : List Int), Ls[k]? = some L → L.length ≤ 20000 ∧ 0 < L.length ∧ ∃ p po c, w.cell? ⟨gv, k, none⟩ = some (.slice (some ⟨p, po, none⟩) L.length c) ∧ p < w.heap.size ∧ ∀ (j : Nat) (x : Int), L[j]? = some x → w.cell? ⟨p, po + j, none⟩ = some (.int .u8 x)
def tot (Ls : List (List Int)) (k : Nat) : Nat := ((Ls.take k).map List.length).sum
theorem tot_succ {Ls : List (List Int)} {k : Nat} {L : List Int} (h : Ls[k]? = some L) : tot Ls (k + 1) = tot Ls k + L.length := by
  unfold tot
  rw [List.take_add_one, h]
  simp
theorem flat_take {Ls : List (List Int)} {k : Nat} {L : List Int} (h : Ls[k]? = some L) : (Ls.take (k + 1)).flatten = (Ls.take k).flatten ++ L := by
  rw [List.take_add_one, h]
  simp
theorem tot_le {w : World} {gv : Nat} {Ls : List (List Int)} (h : Prt w gv Ls) (k : Nat) (hk : k ≤ 4) : tot Ls k ≤ 20000 * k := by
  induction k with
  | zero => simp [tot]
  | succ k ih =>
    obtain ⟨L, hL⟩ := get_some h.four (show k < 4 by omega)
    rw [tot_succ hL]
    have := (h.one k L hL).1
    have := ih (by omega)
    omega
theorem Prt.bel {w w' : World} {gv : Nat} {Ls : List (List Int)} (h : Prt w gv Ls) (hb : Below w.heap.size w w') : Prt w' gv Ls := by
  refine ⟨h.four, fun k L hL => ?_⟩
  obtain ⟨a, b, p, po, c, h1, h2, h3⟩ := h.one k L hL
  exact ⟨a, b, p, po, c, keep1 hb h1, Nat.lt_of_lt_of_le h2 hb.size, fun j x hj => keep1 hb (h3 j x hj)⟩
set_option maxHeartbeats 2000000 in
set_option maxRecDepth 100000 in
theorem concat_any (gv cv : Nat) (Ls : List (List Int)) (w : World) (hp : Prt w gv Ls) (FL : List Int) (hFL : Ls.flatten = FL) :
    Calls Try.prog 27 #[.slice (some ⟨gv, 0, none⟩) 4 cv] w fun e w' => (∃ g cap, e = .returned (.slice (some ⟨g, 0, none⟩) FL.length cap) ∧ Rb w' w.heap.size (.slice (some ⟨g, 0, none⟩) FL.length cap) FL.length FL) ∧ Below w.heap.size w w' := by
  obtain ⟨i0, hi, hz0, hz1, hz2⟩ := info_parts info5
  have HP := hide (fun W (hW : Below w.heap.size w W) => hp.bel hW)
  have HF := hide hp.four
  have HTO := hide (tot_le hp)
  have HPOS : Hid (0 < tot Ls 4) := hide (by
    obtain ⟨L, hL⟩ := get_some hp.four (show 3 < 4 by omega)
    have := (hp.one 3 L hL).2.1
    rw [tot_succ hL]
    omega)
  have HGR := hide (fun W => grow_any (tot Ls 4) W (unhide HPOS) (by have := unhide HTO 4 (by omega); omega))
  have HFT : Hid (Ls.take 4 = Ls) := hide (List.take_of_length_le (by rw [hp.four]; omega))
  have HFF := hide hFL
  clear hp hFL
  go_enter Try.func27, Try.ntmps27
  go_wp2_with fail
  go_loopw [3, 11] (fun s t W => ∃ k : Nat, s = .int .i64 (tot Ls k : Int) ∧ t = .int .i64 (k : Int) ∧ k ≤ 4 ∧ Below w.heap.size w W) (fun _ s _ => 4 - (intOf s).toNat)
  case atStart => exact ⟨0, by simp [tot], rfl, by omega, Below.refl _ _⟩
  case round =>
    obtain ⟨k, rfl, rfl, hk, hw⟩ := hrel
    have HW := hide hw
    have hto := unhide HTO k hk
    have t0 : (0 : Int) ≤ (tot Ls k : Int) := Int.natCast_nonneg _
    by_cases h : k < 4
    · have k1 : (k : Int) < 4 := by omega
      have kz : decide ((k : Int) < 4) = true := decide_eq_true k1
      have k0 : (0 : Int) ≤ (k : Int) := Int.natCast_nonneg _
      obtain ⟨L, hL⟩ := get_some (unhide HF) h
      obtain ⟨a, b, p, po, c, h1, h2, h3⟩ := (unhide HP _ hw).one k L hL
      have HTS := hide (tot_succ hL)
      clear h3 hL hw
      generalize tot Ls k = tk at *
      generalize L.length = ln at *
      have n0 : decide ((tk : Int) + (ln : Int) < 0) = false := decide_eq_false (by omega)
      have n1 : ¬ ((tk : Int) + (ln : Int) < 0) := by omega
      go_wp2_with fail
      go_roundw
      case rel => exact ⟨k + 1, by rw [unhide HTS]; simp, by simp, by omega, unhide HW⟩
      case measure => simp only [intOf]; omega
    · have k1 : ¬ (k : Int) < 4 := by omega
      have kz : decide ((k : Int) < 4) = false := decide_eq_false k1
      have e4 : k = 4 := by omega
      subst e4
      clear hw
      go_wp2_with fail
      refine (unhide HGR _).mono ?_
      rintro e W1 ⟨v, rfl, hrow, hb⟩
      have HB1 := hide (bc (unhide HW) hb)
      have HR1 := hide (hrow.mono (unhide HW).size)
      clear hb hrow HW
      go_wp2_with fail
      go_loopw [6, 27] (fun v s W => ∃ k : Nat, s = .int .i64 (k : Int) ∧ k ≤ 4 ∧ Rb W w.heap.size v (tot Ls k) (Ls.take k).flatten ∧ Below w.heap.size w W) (fun _ s _ => 4 - (intOf s).toNat)
      case atStart => exact ⟨0, rfl, by omega, by simpa [tot] using unhide HR1, unhide HB1⟩
      case round =>
        clear HB1 HR1
        obtain ⟨k, rfl, hk, hr, hw⟩ := hrel
        have HW := hide hw
        have HR := hide hr
        have hto := unhide HTO k hk
        have hsz := hw.size
        obtain ⟨ub, cb, rfl, hub⟩ := own_form hr
        by_cases h : k < 4
        · have k1 : (k : Int) < 4 := by omega
          have kz : decide ((k : Int) < 4) = true := decide_eq_true k1
          have k0 : (0 : Int) ≤ (k : Int) := Int.natCast_nonneg _
          obtain ⟨L, hL⟩ := get_some (unhide HF) h
          obtain ⟨a, b, p, po, c, h1, h2, h3⟩ := (unhide HP _ hw).one k L hL
          have HTS := hide (tot_succ hL)
          have HFL := hide (flat_take hL)
          have H3 : Hid (∀ (j : Nat) (u : Value), (byL L)[j]? = some u → wr.cell? ((⟨p, po, none⟩ : Addr).add j) = some u) := hide (by
            intro j u hj
            rw [add_none]
            unfold byL at hj
            rw [List.getElem?_map] at hj
            cases hx : L[j]? with
            | none => rw [hx] at hj; cases hj
            | some x => rw [hx] at hj; cases hj; exact h3 j x hx)
          clear h3 hL hw hr hub
          go_wp2_with (at_builtin; refine unhide ?_)
          refine hide ?_
          refine wpList_append_own _ rfl _ _ 22 rfl w.heap.size 5 i0 _ 1 1 Try.underlying22 hi hz0 hz1 hz2 rfl (by decide) _ (tot Ls k) (byL (Ls.take k).flatten) rfl (unhide HR) ⟨p, po, none⟩ L.length c (byL L) rfl (by rw [byL_len]; omega) (unhide H3) (byL_one _) (by unfold maxLen; omega) (by omega) hsz ?_
          intro v' w1 hown' hgrow _
          have R := rb_more (wr := wr) (news := L) (Below.refl _ _) hsz (unhide HR) hown' hgrow
          have HR9 : Hid (Rb w1 w.heap.size v' (tot Ls (k + 1)) (Ls.take (k + 1)).flatten) := hide (by rw [unhide HTS, unhide HFL]; exact R.1)
          have HB9 := hide ((unhide HW).trans R.2)
          clear R hown' hgrow
          go_wp2_with fail
          go_roundw
          case rel => exact ⟨k + 1, by simp, by omega, unhide HR9, unhide HB9⟩
          case measure => simp only [intOf]; omega
        · have k1 : ¬ (k : Int) < 4 := by omega
          have kz : decide ((k : Int) < 4) = false := decide_eq_false k1
          have e4 : k = 4 := by omega
          subst e4
          have hpos := unhide HPOS
          obtain ⟨g, rfl, _, _, _⟩ := hub.2.2 (by omega)
          rw [unhide HFT, unhide HFF] at hr
          have en := hr.len
          have HR2 := hide hr
          have HEN := hide en
          clear hr hw hub en
          go_wp2_with fail
          go_ret
          rw [unhide HEN]
          exact ⟨⟨g, cb, rfl, unhide HR2⟩, unhide HW⟩
end Go.Proofs.Ytibcgimggcdllaa
