/-
  slices.Concat of two rows of rules, the first one nil or with room behind it.
-/
import Derived.Test.YtchdmigeopmacaaConcat
import Derived.Laws.AppendOwnNone
namespace Go.Proofs.Ytchdmigeopmacaa
open Go.ChangeShapes Go.WideShapes Go.ChangeAt Go.RowKit
set_option linter.unusedVariables false
set_option linter.unusedSimpArgs false

set_option maxHeartbeats 2000000 in
set_option maxRecDepth 100000 in
theorem concat_wide (u_ : Option Addr) (gv g gt_ l c_ : Nat) (L M : List Int) (w : World) (hl : l ≤ 60) (HU : Hid (u_ = none ∧ l = 0 ∧ c_ = 0 ∨ u_ = some ⟨g, 0, none⟩)) (HL : Hid (L.length = l * 4)) (HM : Hid (M.length = 8)) (hg : g < w.heap.size) (hgt : gt_ < w.heap.size) (HI : Hid (IntsAt w g 0 L)) (HJ : Hid (IntsAt w gt_ 0 M))
    (c0 : w.cell? ⟨gv, 0, none⟩ = some (.slice u_ l c_)) (c1 : w.cell? ⟨gv, 1, none⟩ = some (.slice (some ⟨gt_, 0, none⟩) 2 2)) :
    Calls Try.prog 37 #[.slice (some ⟨gv, 0, none⟩) 2 2] w fun e w' => ∃ v, e = .returned v ∧ Row w' w.heap.size 35 4 v (l + 2) (L ++ M) ∧ Below w.heap.size w w' := by
  obtain ⟨i0, hi, hz0, hz1, hz2⟩ := info_parts info52c
  have HGR := hide (fun W => grow_any (l + 2) W (by omega) (by omega))
  have e2 : ((l + 2 : Nat) : Int) = (l : Int) + 2 := by omega
  rw [e2] at HGR
  clear e2
  have ltv := cell_lt c0
  have n0 : decide ((l : Int) < 0) = false := decide_eq_false (by omega)
  have n2 : decide ((l : Int) + 2 < 0) = false := decide_eq_false (by omega)
  go_enter Try.func37, Try.ntmps37
  go_wp2_with fail
  go_loopw [3, 11] (fun s t W => Same w W ∧ ((s = .int .i64 0 ∧ t = .int .i64 0) ∨ (s = .int .i64 (l : Int) ∧ t = .int .i64 1) ∨ (s = .int .i64 ((l : Int) + 2) ∧ t = .int .i64 2))) (fun _ s _ => 2 - (intOf s).toNat)
  case atStart => exact ⟨Same.refl _, .inl ⟨rfl, rfl⟩⟩
  case round =>
    obtain ⟨hW, h⟩ := hrel
    have d0 := (hW.cell _).trans c0
    have d1 := (hW.cell _).trans c1
    have HW := hide hW
    clear hW
    rcases h with ⟨rfl, rfl⟩ | ⟨rfl, rfl⟩ | ⟨rfl, rfl⟩
    · go_wp2_with fail
      go_roundw
      case rel => exact ⟨by repeat (first | exact unhide HW | refine Same.drew ?_), .inr (.inl ⟨by simp, rfl⟩)⟩
      case measure => simp [intOf]
    · go_wp2_with fail
      go_roundw
      case rel => exact ⟨by repeat (first | exact unhide HW | refine Same.drew ?_), .inr (.inr ⟨rfl, rfl⟩)⟩
      case measure => simp [intOf]
    · go_wp2_with fail
      refine (unhide HGR _).mono ?_
      rintro e W1 ⟨v, rfl, hrow, hb⟩
      have hsm := (unhide HW).heap
      have HB1 : Hid (Below w.heap.size w W1) := hide (bc (unhide HW).bel hb)
      have HR1 : Hid (Row W1 w.heap.size 35 4 v 0 []) := hide (by rw [hsm] at hrow; exact hrow)
      clear hb hrow hsm d0 d1 HW
      go_wp2_with fail
      go_loopw [6, 27] (fun v s W => Below w.heap.size w W ∧ ((s = .int .i64 0 ∧ Row W w.heap.size 35 4 v 0 []) ∨ (s = .int .i64 1 ∧ Row W w.heap.size 35 4 v l L) ∨ (s = .int .i64 2 ∧ Row W w.heap.size 35 4 v (l + 2) (L ++ M)))) (fun _ s _ => 2 - (intOf s).toNat)
      case atStart => exact ⟨unhide HB1, .inl ⟨rfl, unhide HR1⟩⟩
      case round =>
        obtain ⟨hb, h⟩ := hrel
        have d0 := keep1 hb c0
        have d1 := keep1 hb c1
        have HBx := hide hb
        have hsz := hb.size
        have HS0 := hide ((unhide HI).below hb hg)
        have HS1 := hide ((unhide HJ).below hb hgt)
        clear hb HB1 HR1
        rcases h with ⟨rfl, hr⟩ | ⟨rfl, hr⟩ | ⟨rfl, hr⟩
        · have HRx := hide hr
          have HSx := HS0
          clear hr
          rcases unhide HU with ⟨rfl, rfl, rfl⟩ | rfl
          · have hL0 : L = [] := List.length_eq_zero_iff.1 (by rw [unhide HL])
            subst hL0
            go_wp2_with (at_builtin; refine unhide ?_)
            refine hide ?_
            refine wpList_append_own_none rfl _ _ 23 rfl w.heap.size 35 i0 4 Try.underlying23 hi _ _ _ rfl (unhide HRx) rfl ?_
            go_wp2_with fail
            go_roundw
            case rel => first | exact ⟨by repeat (first | exact unhide HBx | refine Below.drew ?_), .inr (.inl ⟨rfl, by first | exact unhide HRx | exact (unhide HRx).drew⟩)⟩ | ((repeat apply Exists.intro); refine ⟨?_, rfl⟩; exact ⟨by repeat (first | exact unhide HBx | refine Below.drew ?_), .inr (.inl ⟨rfl, by first | exact unhide HRx | exact (unhide HRx).drew⟩)⟩)
            case measure => simp [intOf]
          · go_wp2_with (at_builtin; refine unhide ?_)
            refine hide ?_
            refine wpList_append_own _ rfl _ _ 23 rfl w.heap.size 35 i0 _ 4 32 Try.underlying23 hi hz0 hz1 hz2 rfl (by decide) _ _ _ rfl (unhide HRx) ⟨g, 0, none⟩ l c_ (L.map (Value.int .i64)) rfl (by simp [unhide HL, unhide HM]) (src_cells (by repeat (first | exact unhide HSx | refine IntsAt.drew ?_)) L 0 (fun j x h => by rw [Nat.zero_add]; exact h)) ints_one (by unfold maxLen; omega) (by omega) hsz ?_
            intro v' w1 hown' hgrow _
            have R := hide (own_more (wr := wr) (news := L) (by repeat (first | exact Below.refl _ _ | refine Below.drew ?_)) hsz (unhide HRx) hown' hgrow)
            clear hown' hgrow
            go_wp2_with fail
            go_roundw
            case rel => exact ⟨(unhide HBx).trans (unhide R).2, .inr (.inl ⟨rfl, by have := (unhide R).1; rw [Nat.zero_add, List.nil_append] at this; exact this⟩)⟩
            case measure => simp [intOf]
        · have HRx := hide hr
          have HSx := HS1
          clear hr
          go_wp2_with (at_builtin; refine unhide ?_)
          refine hide ?_
          refine wpList_append_own _ rfl _ _ 23 rfl w.heap.size 35 i0 _ 4 32 Try.underlying23 hi hz0 hz1 hz2 rfl (by decide) _ _ _ rfl (unhide HRx) ⟨gt_, 0, none⟩ 2 2 (M.map (Value.int .i64)) rfl (by simp [unhide HL, unhide HM]) (src_cells (by repeat (first | exact unhide HSx | refine IntsAt.drew ?_)) M 0 (fun j x h => by rw [Nat.zero_add]; exact h)) ints_one (by unfold maxLen; omega) (by omega) hsz ?_
          intro v' w1 hown' hgrow _
          have R := hide (own_more (wr := wr) (news := M) (by repeat (first | exact Below.refl _ _ | refine Below.drew ?_)) hsz (unhide HRx) hown' hgrow)
          clear hown' hgrow
          go_wp2_with fail
          go_roundw
          case rel => exact ⟨(unhide HBx).trans (unhide R).2, .inr (.inr ⟨rfl, (unhide R).1⟩)⟩
          case measure => simp [intOf]
        · have HRx := hide hr
          clear hr
          go_wp2_with fail
          go_ret
          exact ⟨_, rfl, unhide HRx, unhide HBx⟩
end Go.Proofs.Ytchdmigeopmacaa
