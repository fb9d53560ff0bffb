/-
  The program's names of numbered features.
-/
import Derived.Test.YtkkmikgeppkhiaaMpF
import Derived.Test.YtkkmikgeppkhiaaFoM
namespace Go.Proofs.Ytkkmikgeppkhiaa
open Go.ChangeShapes Go.WideShapes Go.ChangeAt Go.RowKit Go.Maps Go.WideMaps
set_option linter.unusedVariables false
set_option linter.unusedSimpArgs false

set_option maxRecDepth 100000 in
set_option maxHeartbeats 4000000 in
theorem namesP_any (u u3 u4 ub : Option Addr) (p po n cu bm n3 c3 n4 c4 cb m : Nat) (fs : List Ft) (b : List Nat) (w : World) (hl : fs.length = n) (hu : SlG ftc 15 w u p po fs) (hm : b.length = m) (hbl : m ≤ 4096) (hlt : ∀ x ∈ b, x < n) (hin : b ≠ [] → ∃ g o, ub = some ⟨g, o, none⟩ ∧ g < w.heap.size ∧ IntsAt w g o (nats b)) :
    Calls Try.prog 64 #[.agg #[.slice u n cu, .map (some bm), .slice u3 n3 c3, .slice u4 n4 c4], .slice ub m cb] w fun e w' => (∃ v, e = .returned v ∧ SRow w' w.heap.size v (b.map (nmOf fs))) ∧ Below w.heap.size w w' := by
  obtain ⟨iT, ht, hx0, hx1, hx2⟩ := info_parts info9
  have HU := hide hu
  have HL := hide hl
  have HT := hide hlt
  have HIN := hide hin
  have HM := hide hm
  have HC0 := hide (vb_new w 99 [.slice u n cu, .map (some bm), .slice u3 n3 c3, .slice u4 n4 c4] _ rfl)
  have HB0 := hide (ba (Below.refl w.heap.size w) (.cells #[.slice u n cu, .map (some bm), .slice u3 n3 c3, .slice u4 n4 c4] 99))
  clear hu hl hlt hin hm
  go_enter Try.func64, Try.ntmps64
  go_wp2_with fail
  go_loopw [5, 10] (fun v s W => ∃ j : Nat, s = .int .i64 (j : Int) ∧ j ≤ m ∧ W.ownsRow (w.heap.size + 1) 9 1 v j (strs ((b.take j).map (nmOf fs))) ∧ vb W w.heap.size 99 [.slice u n cu, .map (some bm), .slice u3 n3 c3, .slice u4 n4 c4] ∧ w.heap.size + 1 ≤ W.heap.size ∧ Below w.heap.size w W) (fun _ s _ => m - (intOf s).toNat)
  case atStart => exact ⟨0, rfl, Nat.zero_le _, own_nil _ _ _ _, unhide HC0, by simp, unhide HB0⟩
  case round =>
    obtain ⟨j, rfl, hjb, hown, hvb, hsz, hw⟩ := hrel
    rename World => W5
    have HOW := hide hown
    have HVB := hide hvb
    have HW5 := hide hw
    have c0 := hvb.cell (m := 0) rfl
    obtain ⟨uq, cq, rfl, _⟩ := own_form hown
    clear hown hw hvb HC0 HB0
    by_cases h : j < m
    · have i1 : (j : Int) < (m : Int) := by omega
      have i0 : (0 : Int) ≤ (j : Int) := Int.natCast_nonneg _
      have iz : decide ((j : Int) < (m : Int)) = true := decide_eq_true i1
      have hjl : j < b.length := by rw [unhide HM]; exact h
      have hbj : b[j]? = some b[j] := List.getElem?_eq_getElem hjl
      have hbn := unhide HT _ (List.getElem_mem hjl)
      obtain ⟨gb, ob, rfl, hgb, hib⟩ := unhide HIN (by intro e; rw [e] at hjl; simp at hjl)
      have k1 := (hib.below (unhide HW5) hgb) j _ (nats_at hbj)
      have htk := strs_take (fs := fs) hbj
      generalize b[j] = y at *
      have y1 : (y : Int) < (n : Int) := by omega
      have y0 : (0 : Int) ≤ (y : Int) := Int.natCast_nonneg _
      obtain ⟨f, hx⟩ := get_some (unhide HL) hbn
      rw [show nmOf fs y = f.nm by unfold nmOf; rw [getD_at hx]] at htk
      have HTK := hide htk
      obtain ⟨rfl, k0, _⟩ := ((unhide HU).bel (unhide HW5)).at15 hx
      clear hx htk hib hbj
      go_wp2_with (at_builtin; refine unhide ?_)
      refine hide ?_
      refine wpList_append_own _ rfl _ _ 34 rfl (w.heap.size + 1) 9 iT _ 1 16 Try.underlying34 ht hx0 hx1 hx2 rfl (by decide) _ j _ rfl ((unhide HOW).alloc _) _ 1 1 (strs [f.nm]) rfl rfl (by first | exact news_cells _ _ rfl | exact news_cells _ _ (by simp)) (by intro u hu; simp only [strs, List.map_cons, List.map_nil, List.mem_singleton] at hu; subst hu; rfl) (by unfold maxLen; omega) (by omega) (Nat.le_trans hsz (by simp)) ?_
      intro v' w1 hown' hgrow _
      have hbw1 : Below (w.heap.size + 1) W5 w1 := ((Below.refl _ _).alloc hsz (.cells (strs [f.nm]).toArray 9)).grown hgrow (Nat.le_trans hsz (by simp)) (fun g hg => (own_ge (unhide HOW) g hg).1)
      have hown2 : w1.ownsRow (w.heap.size + 1) 9 1 v' (j + 1) (strs ((b.take (j + 1)).map (nmOf fs))) := by
        rw [unhide HTK]
        exact hown'
      have HO2 := hide hown2
      have HBB := hide hbw1
      clear hown' hgrow hown2 hbw1
      go_wp2_with fail
      go_roundw
      case rel => exact ⟨j + 1, by simp, h, unhide HO2, (unhide HVB).below (unhide HBB) (by omega), Nat.le_trans hsz (unhide HBB).size, (unhide HW5).trans ((unhide HBB).mono (by omega))⟩
      case measure => simp only [intOf]; omega
    · have i1 : ¬ (j : Int) < (m : Int) := by omega
      have iz : decide ((j : Int) < (m : Int)) = false := decide_eq_false i1
      have hjb' : m = j := by omega
      subst hjb'
      have hown := unhide HOW
      rw [List.take_of_length_le (by rw [unhide HM]; omega)] at hown
      have hsr : SRow W5 w.heap.size (.slice uq m cq) (b.map (nmOf fs)) := by
        unfold SRow
        rw [List.length_map, unhide HM]
        exact own_mono hown (by omega)
      have HSR := hide hsr
      clear hsr hown c0
      go_wp2_with fail
      go_ret
      exact ⟨⟨_, rfl, unhide HSR⟩, unhide HW5⟩
end Go.Proofs.Ytkkmikgeppkhiaa
