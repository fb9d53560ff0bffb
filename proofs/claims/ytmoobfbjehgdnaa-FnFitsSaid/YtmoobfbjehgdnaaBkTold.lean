/-
  The model's numbers of what is told.
-/
import Derived.Test.YtmoobfbjehgdnaaBkSets
import Derived.Test.YtmoobfbjehgdnaaMtM
namespace Go.Proofs.Ytmoobfbjehgdnaa
open Go.ChangeShapes Go.WideShapes Go.ChangeAt Go.RowKit
set_option linter.unusedVariables false
set_option linter.unusedSimpArgs false

/-- the numbers of the marked ones of the first i -/
def trues (u : List Bool) (i : Nat) : List Int := ((List.range i).filter (bt u)).map (fun k : Nat => (k : Int))
theorem trues_zero (u : List Bool) : trues u 0 = [] := rfl
theorem trues_succ (u : List Bool) (i : Nat) : trues u (i + 1) = if bt u i then trues u i ++ [(i : Int)] else trues u i := by
  unfold trues
  rw [List.range_succ, List.filter_append, List.map_append]
  by_cases h : bt u i = true
  · simp [h]
  · simp [h]
theorem trues_len (u : List Bool) (i : Nat) : (trues u i).length ≤ i := by
  unfold trues
  rw [List.length_map]
  exact Nat.le_trans (List.length_filter_le _ _) (by simp)
theorem trues_mem {u : List Bool} {i : Nat} {x : Int} : x ∈ trues u i ↔ 0 ≤ x ∧ x < (i : Int) ∧ bt u x.toNat = true := by
  unfold trues
  simp only [List.mem_map, List.mem_filter, List.mem_range]
  constructor
  · rintro ⟨k, ⟨h1, h2⟩, rfl⟩
    exact ⟨by omega, by omega, by rwa [Int.toNat_natCast]⟩
  · rintro ⟨h1, h2, h3⟩
    exact ⟨x.toNat, ⟨by omega, h3⟩, by omega⟩
theorem trues_rise (u : List Bool) (i : Nat) : (trues u i).Pairwise (· < ·) := by
  unfold trues
  rw [List.pairwise_map]
  refine List.Pairwise.imp ?_ (List.Pairwise.filter _ List.pairwise_lt_range)
  intro a b h
  exact Int.ofNat_lt.2 h

set_option maxHeartbeats 8000000 in
set_option maxRecDepth 100000 in
theorem toldM_any (gu n cu : Nat) (L : List Bool) (w : World) (hl : L.length = n) (hn : n ≤ 200) (hg : gu < w.heap.size) (hu : bblk w gu L) :
    Calls Try.prog 26 #[.slice (some ⟨gu, 0, none⟩) n cu] w fun e w' => (∃ g c, e = .returned (.slice (some ⟨g, 0, none⟩) (trues L n).length c) ∧ Row w' w.heap.size 3 1 (.slice (some ⟨g, 0, none⟩) (trues L n).length c) (trues L n).length (trues L n)) ∧ Below w.heap.size w w' := by
  obtain ⟨iP, hi1, hy0, hy1, hy2⟩ := info_parts int_info3
  have HU := hide hu
  have HL := hide hl
  have HG := hide hg
  clear hu hl hg
  go_enter Try.func26, Try.ntmps26
  go_wp2_with fail
  go_loopw [3, 4] (fun v s W => ∃ (i g c : Nat), s = .int .i64 (i : Int) ∧ i ≤ n ∧ v = .slice (some ⟨g, 0, none⟩) (trues L i).length c ∧ Row W w.heap.size 3 1 (.slice (some ⟨g, 0, none⟩) (trues L i).length c) (trues L i).length (trues L i) ∧ Below w.heap.size w W) (fun _ s _ => n - (intOf s).toNat)
  case atStart => exact ⟨0, _, _, rfl, by omega, rfl, row_made _ 3 _ 1 (by simp) _ (by simp [trues_zero]), ba (Below.refl _ _) _⟩
  case round =>
    obtain ⟨i, g, c, rfl, hi, rfl, hrow, hw⟩ := hrel
    have HRW := hide hrow
    have HW := hide hw
    have hszw := hw.size
    obtain ⟨_, _, hvg, hg1, hg2, hc1, hc2⟩ := hrow.sm (by simp)
    cases hvg
    have htl := trues_len L i
    clear hrow hw
    by_cases h : i < n
    · have iz : decide ((i : Int) < (n : Int)) = true := decide_eq_true (by omega)
      have i1 : (i : Int) < (n : Int) := by omega
      have i0 : (0 : Int) ≤ (i : Int) := by omega
      have wi : IntKind.i64.wrap ((i : Int) + 1) = (i : Int) + 1 := wrap_i (by omega) (by omega)
      have c3 : wr.cell? ⟨gu, i, none⟩ = some (.bool (bt L i)) := bblk.cell (vblk.bel (unhide HU) (unhide HW)) (bt_some (by rw [unhide HL]; exact h))
      have HST := hide (trues_succ L i)
      generalize hb : bt L i = b at *
      cases b
      · go_wp2_with fail
        go_roundw
        case rel =>
          refine ⟨i + 1, g, c, by simp, h, ?_, ?_, unhide HW⟩
          · rw [unhide HST]; rfl
          · rw [unhide HST]; exact unhide HRW
        case measure => simp only [intOf]; omega
      · generalize trues L i = A at *
        have HE : Hid (trues L (i + 1) = A ++ [(i : Int)]) := hide (by rw [unhide HST]; exact if_pos rfl)
        go_wp2_with (at_builtin; refine unhide ?_)
        refine hide ?_
        refine wpList_append_own _ rfl _ _ 23 rfl w.heap.size 3 iP _ 1 8 Try.underlying23 hi1 hy0 hy1 hy2 rfl (by decide) _ A.length (A.map (Value.int .i64)) rfl ((unhide HRW).alloc _) ⟨wr.heap.size, 0, none⟩ 1 1 ([(i : Int)].map (Value.int .i64)) rfl rfl (news_cells _ _ rfl) ints_one (by unfold maxLen; omega) (by omega) (by first | omega | (simp; omega)) ?_
        intro v1 w1 hown' hgrow hvn1
        have R1 := own_more (wr := wr) (news := [(i : Int)]) (by repeat (first | exact Below.refl _ _ | refine Below.alloc ?_ (by first | omega | (simp; omega)) _ | refine Below.drew ?_)) (by simp; omega) (unhide HRW) hown' hgrow
        have HR1 := hide R1
        have HN1 : Hid (v1 ≠ .slice none 0 0) := hide (fun e => by have := (hvn1.1 e).1; cases this)
        clear hown' hgrow hvn1 R1
        obtain ⟨g2, c2, rfl, hg21, hg22, hc21, hc22⟩ := (unhide HR1).1.sm (unhide HN1)
        go_wp2_with fail
        go_roundw
        case rel =>
          have hlen : (A ++ [(i : Int)]).length = A.length + 1 := by simp
          refine ⟨i + 1, g2, c2, by simp, h, ?_, ?_, (unhide HW).trans (unhide HR1).2⟩
          · rw [unhide HE, hlen]
          · rw [unhide HE, hlen]; exact (unhide HR1).1
        case measure => simp only [intOf]; omega
    · have iz : decide ((i : Int) < (n : Int)) = false := decide_eq_false (by omega)
      have en : i = n := by omega
      subst en
      go_wp2_with fail
      exact bodyPost_ret (v := .slice (some ⟨g, 0, none⟩) (trues L i).length c) (by simp [results, Try.results26, go_sem]) rfl ⟨⟨g, c, rfl, unhide HRW⟩, unhide HW⟩
end Go.Proofs.Ytmoobfbjehgdnaa
