/-
  The library's Concat at two rows of rules.
-/
import Derived.Test.YtchdmigeopmacaaCoreMath
import Derived.Shelf.Spec.SlicesGrow
namespace Go.Proofs
open Go.Shelf
def Try.l54_ren : Go.Shelf.Ren := ⟨fun | 4 => 54 | n => n, fun | 22 => 23 | 25 => 35 | 20 => 20 | 9 => 9 | 3 => 3 | 0 => 0 | 4 => 4 | n => n, fun | n => n⟩
theorem Try.l54 : Go.Proofs.Lays8.n4 Try.prog Try.l54_ren := {
  mixed := by kernel_rfl
  f4 := ⟨Try.f54.name, by decide, Try.func54.trans (congrArg some (by kernel_rfl))⟩
  t0 := Try.underlying0
  a0 := Try.isAgg0
  z0 := Try.sizeOf0
  v0 := Try.zeroValue0
  t3 := Try.underlying3
  a3 := Try.isAgg3
  z3 := Try.sizeOf3
  v3 := Try.zeroValue3
  t4 := Try.underlying4
  a4 := Try.isAgg4
  z4 := Try.sizeOf4
  v4 := Try.zeroValue4
  t9 := Try.underlying9
  a9 := Try.isAgg9
  z9 := Try.sizeOf9
  v9 := Try.zeroValue9
  t20 := Try.underlying20
  a20 := Try.isAgg20
  z20 := Try.sizeOf20
  v20 := Try.zeroValue20
  t22 := Try.underlying23
  a22 := Try.isAgg23
  z22 := Try.sizeOf23
  v22 := Try.zeroValue23 }
end Go.Proofs
namespace Go.Proofs.Ytchdmigeopmacaa
open Go.ChangeShapes Go.WideShapes Go.ChangeAt Go.RowKit
set_option linter.unusedVariables false
set_option linter.unusedSimpArgs false

theorem info52c : (Try.prog.info? 35).map (fun i => (i.zero, i.size, i.bytes)) = some (some (.agg #[.int .i64 0, .int .i64 0, .int .i64 0, .int .i64 0]), 4, 32) := by kernel_rfl
theorem grow_any (n : Nat) (w : World) (h0 : 0 < n) (hn : n ≤ 1000) :
    Calls Try.prog 54 #[.slice none 0 0, .int .i64 (n : Int)] w fun e w' => ∃ v, e = .returned v ∧ Row w' w.heap.size 35 4 v 0 [] ∧ Below w.heap.size w w' := by
  obtain ⟨i0, hi, hz0, hz1, hz2⟩ := info_parts info52c
  have h := Any8.slices_Grow_grow Try.l54 i0 (.agg #[.int .i64 0, .int .i64 0, .int .i64 0, .int .i64 0]) hi hz0 (by omega) none 0 0 n [] w (Nat.le_refl _) (by omega) (by rw [hz2]; omega) (by omega) (by simp) (fun _ => rfl) (fun a ha => by cases ha)
  refine Calls.mono h ?_
  rintro e w' ⟨rfl, rfl⟩
  have hge := grownCap_ge w (0 + n) 0 35
  have hle := grownCap_le_maxLen w (0 + n) 0 35 (by unfold maxLen; omega)
  refine ⟨.slice (some ⟨w.heap.size, 0, none⟩) 0 (grownCap w (0 + n) 0 35), rfl, ⟨by simp, Or.inr ⟨w.heap.size, grownCap w (0 + n) 0 35, ([] : List Value).toArray ++ Builtin.zeroCells (Value.agg #[.int .i64 0, .int .i64 0, .int .i64 0, .int .i64 0]).cells (0 + n - 0) ++ Builtin.zeroCells (Value.agg #[.int .i64 0, .int .i64 0, .int .i64 0, .int .i64 0]).cells (grownCap w (0 + n) 0 35 - (0 + n)), rfl, Nat.le_refl _, heap_alloc_new w.drew _, Nat.zero_le _, hle, ?_, ?_⟩⟩, ?_⟩
  · generalize grownCap w (0 + n) 0 35 = cap at *
    simp [size_zeroCells, Value.cells]
    omega
  · simp
  · exact ba (Below.drew (Below.refl _ _)) _

set_option maxHeartbeats 2000000 in
set_option maxRecDepth 100000 in
theorem concat_any (gv g gt_ l : Nat) (L M : List Int) (w : World) (hl : l ≤ 60) (HL : Hid (L.length = l * 4)) (HM : Hid (M.length = 8)) (hg : g < w.heap.size) (hgt : gt_ < w.heap.size) (HI : Hid (IntsAt w g 0 L)) (HJ : Hid (IntsAt w gt_ 0 M))
    (c0 : w.cell? ⟨gv, 0, none⟩ = some (.slice (some ⟨g, 0, none⟩) l l)) (c1 : w.cell? ⟨gv, 1, none⟩ = some (.slice (some ⟨gt_, 0, none⟩) 2 2)) :
    Calls Try.prog 37 #[.slice (some ⟨gv, 0, none⟩) 2 2] w fun e w' => ∃ v, e = .returned v ∧ Row w' w.heap.size 35 4 v (l + 2) (L ++ M) ∧ Below w.heap.size w w' := by
  obtain ⟨i0, hi, hz0, hz1, hz2⟩ := info_parts info52c
  have HGR := hide (fun W => grow_any (l + 2) W (by omega) (by omega))
  have e2 : ((l + 2 : Nat) : Int) = (l : Int) + 2 := by omega
  rw [e2] at HGR
  clear e2
  have ltv := cell_lt c0
  have n0 : decide ((l : Int) < 0) = false := decide_eq_false (by omega)
  have n2 : decide ((l : Int) + 2 < 0) = false := decide_eq_false (by omega)
  go_enter Try.func37, Try.ntmps37
  go_wp2_with fail
  go_loopw [3, 11] (fun s t W => Same w W ∧ ((s = .int .i64 0 ∧ t = .int .i64 0) ∨ (s = .int .i64 (l : Int) ∧ t = .int .i64 1) ∨ (s = .int .i64 ((l : Int) + 2) ∧ t = .int .i64 2))) (fun _ s _ => 2 - (intOf s).toNat)
  case atStart => exact ⟨Same.refl _, .inl ⟨rfl, rfl⟩⟩
  case round =>
    obtain ⟨hW, h⟩ := hrel
    have d0 := (hW.cell _).trans c0
    have d1 := (hW.cell _).trans c1
    have HW := hide hW
    clear hW
    rcases h with ⟨rfl, rfl⟩ | ⟨rfl, rfl⟩ | ⟨rfl, rfl⟩
    · go_wp2_with fail
      go_roundw
      case rel => exact ⟨by repeat (first | exact unhide HW | refine Same.drew ?_), .inr (.inl ⟨by simp, rfl⟩)⟩
      case measure => simp [intOf]
    · go_wp2_with fail
      go_roundw
      case rel => exact ⟨by repeat (first | exact unhide HW | refine Same.drew ?_), .inr (.inr ⟨rfl, rfl⟩)⟩
      case measure => simp [intOf]
    · go_wp2_with fail
      refine (unhide HGR _).mono ?_
      rintro e W1 ⟨v, rfl, hrow, hb⟩
      have hsm := (unhide HW).heap
      have HB1 : Hid (Below w.heap.size w W1) := hide (bc (unhide HW).bel hb)
      have HR1 : Hid (Row W1 w.heap.size 35 4 v 0 []) := hide (by rw [hsm] at hrow; exact hrow)
      clear hb hrow hsm d0 d1 HW
      go_wp2_with fail
      go_loopw [6, 27] (fun v s W => Below w.heap.size w W ∧ ((s = .int .i64 0 ∧ Row W w.heap.size 35 4 v 0 []) ∨ (s = .int .i64 1 ∧ Row W w.heap.size 35 4 v l L) ∨ (s = .int .i64 2 ∧ Row W w.heap.size 35 4 v (l + 2) (L ++ M)))) (fun _ s _ => 2 - (intOf s).toNat)
      case atStart => exact ⟨unhide HB1, .inl ⟨rfl, unhide HR1⟩⟩
      case round =>
        obtain ⟨hb, h⟩ := hrel
        have d0 := keep1 hb c0
        have d1 := keep1 hb c1
        have HBx := hide hb
        have hsz := hb.size
        have HS0 := hide ((unhide HI).below hb hg)
        have HS1 := hide ((unhide HJ).below hb hgt)
        clear hb HB1 HR1
        rcases h with ⟨rfl, hr⟩ | ⟨rfl, hr⟩ | ⟨rfl, hr⟩
        · have HRx := hide hr
          have HSx := HS0
          clear hr
          go_wp2_with (at_builtin; refine unhide ?_)
          refine hide ?_
          refine wpList_append_own _ rfl _ _ 23 rfl w.heap.size 35 i0 _ 4 32 Try.underlying23 hi hz0 hz1 hz2 rfl (by decide) _ _ _ rfl (unhide HRx) ⟨g, 0, none⟩ l l (L.map (Value.int .i64)) rfl (by simp [unhide HL, unhide HM]) (src_cells (by repeat (first | exact unhide HSx | refine IntsAt.drew ?_)) L 0 (fun j x h => by rw [Nat.zero_add]; exact h)) ints_one (by unfold maxLen; omega) (by omega) hsz ?_
          intro v' w1 hown' hgrow _
          have R := hide (own_more (wr := wr) (news := L) (by repeat (first | exact Below.refl _ _ | refine Below.drew ?_)) hsz (unhide HRx) hown' hgrow)
          clear hown' hgrow
          go_wp2_with fail
          go_roundw
          case rel => exact ⟨(unhide HBx).trans (unhide R).2, .inr (.inl ⟨rfl, by have := (unhide R).1; rw [Nat.zero_add, List.nil_append] at this; exact this⟩)⟩
          case measure => simp [intOf]
        · have HRx := hide hr
          have HSx := HS1
          clear hr
          go_wp2_with (at_builtin; refine unhide ?_)
          refine hide ?_
          refine wpList_append_own _ rfl _ _ 23 rfl w.heap.size 35 i0 _ 4 32 Try.underlying23 hi hz0 hz1 hz2 rfl (by decide) _ _ _ rfl (unhide HRx) ⟨gt_, 0, none⟩ 2 2 (M.map (Value.int .i64)) rfl (by simp [unhide HL, unhide HM]) (src_cells (by repeat (first | exact unhide HSx | refine IntsAt.drew ?_)) M 0 (fun j x h => by rw [Nat.zero_add]; exact h)) ints_one (by unfold maxLen; omega) (by omega) hsz ?_
          intro v' w1 hown' hgrow _
          have R := hide (own_more (wr := wr) (news := M) (by repeat (first | exact Below.refl _ _ | refine Below.drew ?_)) hsz (unhide HRx) hown' hgrow)
          clear hown' hgrow
          go_wp2_with fail
          go_roundw
          case rel => exact ⟨(unhide HBx).trans (unhide R).2, .inr (.inr ⟨rfl, (unhide R).1⟩)⟩
          case measure => simp [intOf]
        · have HRx := hide hr
          clear hr
          go_wp2_with fail
          go_ret
          exact ⟨_, rfl, unhide HRx, unhide HBx⟩
end Go.Proofs.Ytchdmigeopmacaa
