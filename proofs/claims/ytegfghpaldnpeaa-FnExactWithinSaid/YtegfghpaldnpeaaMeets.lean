/-
  Whether a side meets another one wrongly, as the program asks it.
-/
import Derived.Test.YtegfghpaldnpeaaEqls
namespace Go.Proofs.Ytegfghpaldnpeaa
open Go.ChangeShapes Go.WideShapes Go.ChangeAt Go.RowKit
set_option linter.unusedVariables false
set_option linter.unusedSimpArgs false

set_option maxRecDepth 100000 in
set_option maxHeartbeats 4000000 in
theorem meets_core (q k cap n : Nat) (S : List Sg) (s1 s2 s3 s4 : Int) (w : World) (HN : Hid (S.length = n)) (hn : n ≤ 200)
    (hq : w.cell? ⟨q, 0, none⟩ = some (.slice (some ⟨k, 0, none⟩) n cap)) (HK : Hid (iblk w k 54 (flatG S)))
    (HOK : Hid (∀ t ∈ S, ptOk t.1 = true ∧ ptOk t.2 = true)) (HS1 : Hid (ptOk (s1, s2) = true)) (HS2 : Hid (ptOk (s3, s4) = true)) :
    Calls Try.prog 73 #[.agg #[.int .i64 s1, .int .i64 s2, .int .i64 s3, .int .i64 s4], .pointer (some ⟨q, 0, none⟩)] w fun e w' => e = .returned (.bool (meets S ((s1, s2), s3, s4))) ∧ Below w.heap.size w w' := by
  have lq := cell_lt hq
  have lq2 := Nat.le_of_lt lq
  have lq3 : w.heap.size ≠ q := by omega
  go_enter Try.func73, Try.ntmps73
  go_wp2_with fail
  have HB0 := hide (ba (Below.refl w.heap.size w) (.cells #[.int .i64 s1, .int .i64 s2, .int .i64 s3, .int .i64 s4] 54))
  have HC0 : Hid (∀ W, Below (w.heap.size + 1) (w.alloc (.cells #[.int .i64 s1, .int .i64 s2, .int .i64 s3, .int .i64 s4] 54)) W → W.cell? ⟨w.heap.size, 0, none⟩ = some (.int .i64 s1) ∧ W.cell? ⟨w.heap.size, 1, none⟩ = some (.int .i64 s2) ∧ W.cell? ⟨w.heap.size, 2, none⟩ = some (.int .i64 s3) ∧ W.cell? ⟨w.heap.size, 3, none⟩ = some (.int .i64 s4)) := hide fun W hW => by
    refine ⟨?_, ?_, ?_, ?_⟩ <;> (rw [hW.cell (by simp)]; simp [go_sem])
  clear hq lq lq2 lq3
  go_loopw [9] (fun s W => ∃ i : Nat, s = .int .i64 (i : Int) ∧ i ≤ n ∧ (∀ j t, j < i → S[j]? = some t → wrongV ((s1, s2), s3, s4) t = false) ∧ Below (w.heap.size + 1) (w.alloc (.cells #[.int .i64 s1, .int .i64 s2, .int .i64 s3, .int .i64 s4] 54)) W) (fun s _ => n - (intOf s).toNat)
  case atStart => exact ⟨0, rfl, Nat.zero_le _, fun j _ hj => by omega, Below.refl _ _⟩
  case round =>
    obtain ⟨i, rfl, hi, ht, hw⟩ := hrel
    have HT := hide ht
    have HW := hide hw
    clear ht hw
    by_cases h : i < n
    · have i1 : (i : Int) < (n : Int) := by omega
      have i0 : (0 : Int) ≤ (i : Int) := Int.natCast_nonneg _
      have iz : decide ((i : Int) < (n : Int)) = true := decide_eq_true i1
      obtain ⟨⟨⟨o1, o2⟩, o3, o4⟩, ho⟩ : ∃ t, S[i]? = some t := ⟨S[i]'(by rw [unhide HN]; exact h), List.getElem?_eq_getElem _⟩
      have hbb := (unhide HK).bel (Below.trans (unhide HB0) ((unhide HW).mono (by omega)))
      have hf := flatG_at S i _ ho
      dsimp only at hf
      have x0 : wr.cell? ⟨k, i * 4, none⟩ = some (.int .i64 o1) := hbb.cell hf.1
      have x1 : wr.cell? ⟨k, i * 4 + 1, none⟩ = some (.int .i64 o2) := hbb.cell hf.2.1
      have x2 : wr.cell? ⟨k, i * 4 + 2, none⟩ = some (.int .i64 o3) := hbb.cell hf.2.2.1
      have x3 : wr.cell? ⟨k, i * 4 + 3, none⟩ = some (.int .i64 o4) := hbb.cell hf.2.2.2
      obtain ⟨y0, y1, y2, y3⟩ := unhide HC0 _ (unhide HW)
      have ly := cell_lt y0
      have ly2 := Nat.le_of_lt ly
      have ly3 : wr.heap.size ≠ w.heap.size := by omega
      clear hbb hf
      have hok := unhide HOK _ (List.mem_of_getElem? ho)
      dsimp only at hok
      have HC := hide (fun W => commonP_any (s1, s2) (s3, s4) (o1, o2) (o3, o4) W (unhide HS1) (unhide HS2) hok.1 hok.2)
      have HV : Hid (wrongV ((s1, s2), s3, s4) ((o1, o2), o3, o4) = (decide (((o1, o2), o3, o4) ≠ ((s1, s2), s3, s4)) && decide ((if (s3, s4) = (o1, o2) ∨ (o3, o4) = (s1, s2) then 1 else 0) < (cross (s1, s2) (s3, s4) (o1, o2) (o3, o4)).length))) := hide rfl
      generalize cross (s1, s2) (s3, s4) (o1, o2) (o3, o4) = CL at HC HV
      have he := eql54 o1 o2 o3 o4 s1 s2 s3 s4
      have h1 := eql26 s3 s4 o1 o2
      have h2 := eql26 o3 o4 s1 s2
      have HO := hide ho
      clear ho hok
      dsimp only [sgv] at HC
      by_cases e1 : ((o1, o2), o3, o4) = ((s1, s2), s3, s4)
      · rw [decide_eq_true e1] at he
        have HE1 := hide e1
        clear e1 h1 h2
        go_wp2_with fail
        go_roundw
        case rel =>
          refine ⟨i + 1, by simp, h, fun j t hj htj => ?_, Below.alloc (unhide HW) (by omega) _⟩
          rcases Nat.lt_succ_iff_lt_or_eq.1 hj with h3 | h3
          · exact unhide HT j t h3 htj
          · subst h3; rw [unhide HO] at htj; cases htj; rw [unhide HV]; simp [unhide HE1]
        case measure => simp only [intOf]; omega
      · rw [decide_eq_false e1] at he
        have HE1 := hide e1
        clear e1
        have HM : Hid (∃ (A B : Bool) (M : Nat), decide ((s3, s4) = (o1, o2)) = A ∧ decide ((o3, o4) = (s1, s2)) = B ∧ (if (s3, s4) = (o1, o2) ∨ (o3, o4) = (s1, s2) then 1 else 0) = M ∧ (A = true ∧ M = 1 ∨ A = false ∧ B = true ∧ M = 1 ∨ A = false ∧ B = false ∧ M = 0)) := hide (by
          refine ⟨_, _, _, rfl, rfl, rfl, ?_⟩
          by_cases g1 : (s3, s4) = (o1, o2)
          · exact .inl ⟨decide_eq_true g1, by rw [if_pos (.inl g1)]⟩
          · by_cases g2 : (o3, o4) = (s1, s2)
            · exact .inr (.inl ⟨decide_eq_false g1, decide_eq_true g2, by rw [if_pos (.inr g2)]⟩)
            · exact .inr (.inr ⟨decide_eq_false g1, decide_eq_false g2, by rw [if_neg (by rintro (h | h); exact g1 h; exact g2 h)]⟩))
        obtain ⟨A, B, M, hA, hB, hM, hcase⟩ := unhide HM
        rw [hA] at h1
        rw [hB] at h2
        have HV2 : Hid (wrongV ((s1, s2), s3, s4) ((o1, o2), o3, o4) = decide (M < CL.length)) := hide (by rw [unhide HV, hM]; simp only [ne_eq, decide_not, Bool.and_eq_right_iff_imp]; intro _; simp [unhide HE1])
        clear hA hB hM HM HV
        rcases hcase with ⟨rfl, rfl⟩ | ⟨rfl, rfl, rfl⟩ | ⟨rfl, rfl, rfl⟩
        all_goals
          go_wp2_with fail
          refine (unhide HC _).mono ?_
          rintro e W2 ⟨⟨v, rfl, hv⟩, hb⟩
          obtain ⟨u', k', cap', rfl, h8, h9⟩ := hv.out
          have HB := hide (show Below (w.heap.size + 1) (w.alloc (.cells #[.int .i64 s1, .int .i64 s2, .int .i64 s3, .int .i64 s4] 54)) W2 from (Below.alloc (unhide HW) (by omega) _).trans (hb.mono (by simp; omega)))
          clear hb hv h8 h9
          generalize CL.length = N at *
        · by_cases hgt : 1 < N
          · have gz : decide ((1 : Int) < (N : Int)) = true := decide_eq_true (by omega)
            have HGT := hide hgt
            clear hgt
            go_wp2_with fail
            go_ret
            refine ⟨ret_bool ?_, Below.trans (unhide HB0) ((unhide HB).mono (by omega))⟩
            symm
            unfold meets
            rw [List.any_eq_true]
            exact ⟨_, List.mem_of_getElem? (unhide HO), by rw [unhide HV2]; exact decide_eq_true (unhide HGT)⟩
          · have gz : decide ((1 : Int) < (N : Int)) = false := decide_eq_false (by omega)
            have HGT := hide hgt
            clear hgt
            go_wp2_with fail
            go_roundw
            case rel =>
              refine ⟨i + 1, by simp, h, fun j t hj htj => ?_, unhide HB⟩
              rcases Nat.lt_succ_iff_lt_or_eq.1 hj with h3 | h3
              · exact unhide HT j t h3 htj
              · subst h3; rw [unhide HO] at htj; cases htj; rw [unhide HV2]; exact decide_eq_false (unhide HGT)
            case measure => simp only [intOf]; omega
        · by_cases hgt : 1 < N
          · have gz : decide ((1 : Int) < (N : Int)) = true := decide_eq_true (by omega)
            have HGT := hide hgt
            clear hgt
            go_wp2_with fail
            go_ret
            refine ⟨ret_bool ?_, Below.trans (unhide HB0) ((unhide HB).mono (by omega))⟩
            symm
            unfold meets
            rw [List.any_eq_true]
            exact ⟨_, List.mem_of_getElem? (unhide HO), by rw [unhide HV2]; exact decide_eq_true (unhide HGT)⟩
          · have gz : decide ((1 : Int) < (N : Int)) = false := decide_eq_false (by omega)
            have HGT := hide hgt
            clear hgt
            go_wp2_with fail
            go_roundw
            case rel =>
              refine ⟨i + 1, by simp, h, fun j t hj htj => ?_, unhide HB⟩
              rcases Nat.lt_succ_iff_lt_or_eq.1 hj with h3 | h3
              · exact unhide HT j t h3 htj
              · subst h3; rw [unhide HO] at htj; cases htj; rw [unhide HV2]; exact decide_eq_false (unhide HGT)
            case measure => simp only [intOf]; omega
        · by_cases hgt : 0 < N
          · have gz : decide ((0 : Int) < (N : Int)) = true := decide_eq_true (by omega)
            have HGT := hide hgt
            clear hgt
            go_wp2_with fail
            go_ret
            refine ⟨ret_bool ?_, Below.trans (unhide HB0) ((unhide HB).mono (by omega))⟩
            symm
            unfold meets
            rw [List.any_eq_true]
            exact ⟨_, List.mem_of_getElem? (unhide HO), by rw [unhide HV2]; exact decide_eq_true (unhide HGT)⟩
          · have gz : decide ((0 : Int) < (N : Int)) = false := decide_eq_false (by omega)
            have HGT := hide hgt
            clear hgt
            go_wp2_with fail
            go_roundw
            case rel =>
              refine ⟨i + 1, by simp, h, fun j t hj htj => ?_, unhide HB⟩
              rcases Nat.lt_succ_iff_lt_or_eq.1 hj with h3 | h3
              · exact unhide HT j t h3 htj
              · subst h3; rw [unhide HO] at htj; cases htj; rw [unhide HV2]; exact decide_eq_false (unhide HGT)
            case measure => simp only [intOf]; omega
    · have i1 : ¬ (i : Int) < (n : Int) := by omega
      have iz : decide ((i : Int) < (n : Int)) = false := decide_eq_false i1
      have en : i = n := by omega
      have HE := hide en
      clear en
      go_wp2_with fail
      go_ret
      refine ⟨ret_bool ?_, Below.trans (unhide HB0) ((unhide HW).mono (by omega))⟩
      symm
      unfold meets
      rw [List.any_eq_false]
      intro t ht
      obtain ⟨j, hj, rfl⟩ := List.getElem_of_mem ht
      have := unhide HT j _ (by rw [unhide HE, ← unhide HN]; exact hj) (List.getElem?_eq_getElem hj)
      simp [this]
end Go.Proofs.Ytegfghpaldnpeaa
