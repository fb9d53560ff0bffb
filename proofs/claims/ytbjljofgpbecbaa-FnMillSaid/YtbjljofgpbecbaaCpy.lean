/-
  The model's copy of a field.
-/
import Derived.Test.YtbjljofgpbecbaaByt
import Derived.Deep.RegionLaw
namespace Go.Proofs.Ytbjljofgpbecbaa
open Go.ChangeShapes Go.WideShapes Go.ChangeAt Go.RowKit
set_option linter.unusedVariables false
set_option linter.unusedSimpArgs false

set_option maxHeartbeats 4000000 in
set_option maxRecDepth 100000 in
theorem cpM_any (W H : Int) (g po n c : Nat) (T : List Int) (w : World) (hF : Fd w g po n c T) (hn : n ≤ 576) :
    Calls Try.prog 45 #[fldV W H (some ⟨g, po, none⟩) n c] w fun e w' => (∃ q cap, e = .returned (fldV W H (some ⟨q, 0, none⟩) n cap) ∧ Row w' w.heap.size 3 1 (.slice (some ⟨q, 0, none⟩) n cap) n T) ∧ Below w.heap.size w w' := by
  have HB := hide (ba (ba (Below.refl w.heap.size w) (.cells #[.int .i64 W, .int .i64 H, .slice (some ⟨g, po, none⟩) n c] 25)) (.cells #[.int .i64 0, .int .i64 0, .slice none 0 0] 25))
  have HV1 := hide (vb_new1 w 25 [.int .i64 W, .int .i64 H, .slice (some ⟨g, po, none⟩) n c] (.cells #[.int .i64 0, .int .i64 0, .slice none 0 0] 25))
  have HV2 := hide (vb_new2 w 25 [.int .i64 0, .int .i64 0, .slice none 0 0] (.cells #[.int .i64 W, .int .i64 H, .slice (some ⟨g, po, none⟩) n c] 25))
  have HFD := hide (hF.bel (unhide HB))
  obtain ⟨iP, hi1, hy0, hy1, hy2⟩ := info_parts int_info3
  unfold fldV
  clear hF
  go_enter Try.func45, Try.ntmps45
  go_wp2_with fail
  generalize hWa : (w.alloc (.cells #[.int .i64 W, .int .i64 H, .slice (some ⟨g, po, none⟩) n c] 25)).alloc (.cells #[.int .i64 0, .int .i64 0, .slice none 0 0] 25) = Wa at *
  have H0 : Hid ((Wa.alloc (.cells #[] 3)).ownsRow Wa.heap.size 3 1 (.slice (some ⟨Wa.heap.size, 0, none⟩) 0 0) 0 []) := hide (World.ownsRow_made Wa #[] 0 (Nat.le_refl _) (by decide) (by simp))
  have HI := hide ((unhide HFD).ints.below (ba (Below.refl _ _) (.cells #[] 3)) (unhide HFD).lt)
  have k0 := (unhide HV1).cell (m := 0) rfl
  have k1 := (unhide HV1).cell (m := 1) rfl
  have k2 := (unhide HV1).cell (m := 2) rfl
  have hlt1 := (unhide HV1).lt
  have hlt2 := (unhide HV2).lt
  clear hWa
  go_region_law
    (refine step_own (by rfl) (.tmp 7) (.tmp 9) _ (by rfl) Wa.heap.size 3 iP _ 1 8 Try.underlying23 hi1 hy0 hy1 hy2 rfl (by omega) (.slice (some ⟨Wa.heap.size, 0, none⟩) 0 0) 0 [] (by rfl) (by first | exact unhide H0 | exact ⟨(unhide H0).1, (unhide H0).2⟩)
        ⟨g, po, none⟩ n c (T.map (Value.int .i64)) (by rfl) (by rw [List.length_map, (unhide HFD).len, Nat.mul_one]) (row_cells (by first | exact unhide HI | exact fun j x hj => (unhide HI) j x hj)) ints_one (by unfold maxLen; omega) (by omega) (by simp) ?_; intro v1 w1 hown' hgrow hvn1; have hb1 : Below Wa.heap.size Wa w1 := Below.grown (by repeat (first | exact Below.refl _ _ | refine ba ?_ _ | refine Below.drew ?_)) hgrow (by simp) (fun j hj => by simp only [Value.ownBlock, Option.some.injEq] at hj; omega); rw [Nat.zero_add, List.nil_append] at hown'; obtain ⟨q1, c1, rfl, hq1, hq2, hc1, hc2⟩ := Row.sm (L := T) hown' (fun e => by have := (hvn1.1 e).1; cases this); have HRO := hide (show Row w1 Wa.heap.size 3 1 (.slice (some ⟨q1, 0, none⟩) n c1) n T from hown'); have HB1 := hide (bc (unhide HB) hb1); have v1 := (unhide HV1).bel hb1; have v2 := (unhide HV2).bel hb1; have k0' := v1.cell (m := 0) rfl; have k1' := v1.cell (m := 1) rfl; have j0' := v2.cell (m := 0) rfl; have j1' := v2.cell (m := 1) rfl; have j2' := v2.cell (m := 2) rfl; have f2' := v2.frozen; clear hown' hgrow hvn1 hb1 v1 v2)
  all_goals
    go_wp2_with fail
    refine bodyPost_ret (v := .agg #[.int .i64 W, .int .i64 H, .slice (some ⟨q1, 0, none⟩) n c1]) (by simp [results, Try.results45, go_sem, k0', k1', j0', j1', j2']) rfl ?_
    refine ⟨⟨q1, c1, rfl, ?_⟩, ?_⟩
    · have hge := (unhide HRO).ge
      have hne : q1 ≠ w.heap.size + 1 := by omega
      have h1 := (unhide HRO).mono (B' := w.heap.size) (by omega)
      exact h1.kept' (fun y hy => by
        simp only [Value.ownBlock, Option.some.injEq] at hy
        subst hy
        exact (Below.heap_setCell _ _ _ _ hne).trans ((Below.heap_setCell _ _ _ _ hne).trans (Below.heap_setCell _ _ _ _ hne)))
    · exact Below.setCell (Below.setCell (Below.setCell (unhide HB1) (Nat.le_add_right _ _) _) (Nat.le_add_right _ _) _) (Nat.le_add_right _ _) _
end Go.Proofs.Ytbjljofgpbecbaa
