/-
  Numbers calmed by the model.
-/
import Derived.Test.YtgocgcnpgmamiaaCaP
namespace Go.Proofs.Ytgocgcnpgmamiaa
open Go.ChangeShapes Go.WideShapes Go.ChangeAt Go.RowKit
set_option linter.unusedVariables false
set_option linter.unusedSimpArgs false
attribute [local go_sem] run_store_flt run_store_cpx

theorem empty_ans1 (w : World) : FAns .f32 (w.alloc (.cells #[] 41)) w.heap.size 41 1 (.slice (some ⟨w.heap.size, 0, none⟩) 0 0) 0 [] := ⟨[], frow_made w 41 _ 1 (Nat.le_refl _) _ rfl, rfl⟩
set_option maxHeartbeats 2000000 in
set_option maxRecDepth 10000 in
theorem caM_any (u : Option Addr) (p po n c : Nat) (L : List Nat) (sh : Nat) (w : World) (hl : L.length = n) (hn : n ≤ 9223372036854775807) (hu : Fls .f64 w u p po L) :
    Calls Try.prog 31 #[.slice u n c, .float .f32 sh] w fun e w' => (∃ v, e = .returned (.tuple #[v, .int .i64 (caC n L sh)]) ∧ FAns .f32 w' w.heap.size 41 1 v (caN n L sh) (caF n L sh)) ∧ Below w.heap.size w w' := by
  have HU := hide hu
  have HL := hide hl
  have n0 : (0 : Int) ≤ (n : Int) := Int.natCast_nonneg _
  clear hu hl
  by_cases h1 : 4096 < n
  · have t1 : decide ((4096 : Int) < (n : Int)) = true := decide_eq_true (by omega)
    have hc : caC n L sh = 2 := by unfold caC; rw [if_pos h1]
    rw [hc]
    go_enter Try.func31, Try.ntmps31
    go_wp2_with fail
    exact bodyPost_ret (v := .tuple #[.slice (some ⟨w.heap.size, 0, none⟩) 0 0, .int .i64 2]) (by simp [results, Try.results31, go_sem]) rfl ⟨⟨_, rfl, ca_none (by rw [hc]; omega) (empty_ans1 w)⟩, ba (Below.refl _ _) _⟩
  have t1 : decide ((4096 : Int) < (n : Int)) = false := decide_eq_false (by omega)
  have bad : ∀ (hk : caOk n L sh = false), caC n L sh = 1 := fun hk => by unfold caC; rw [if_neg h1, hk]; rfl
  by_cases h2 : n ≤ 1000
  · have t2 : decide ((1000 : Int) < (n : Int)) = false := decide_eq_false (by omega)
    have e0 : (FloatKind.f32.format.order sh 0 == some .gt || FloatKind.f32.format.order sh 0 == some .eq) = (ford .f32 (Fv .f32 sh) (Fv .f32 0) == some .gt || ford .f32 (Fv .f32 sh) (Fv .f32 0) == some .eq) := by rw [order_fv]
    have e1 : (FloatKind.f32.format.order sh 1065353216 == some .lt || FloatKind.f32.format.order sh 1065353216 == some .eq) = (ford .f32 (Fv .f32 sh) (Fv .f32 1065353216) == some .lt || ford .f32 (Fv .f32 sh) (Fv .f32 1065353216) == some .eq) := by rw [order_fv]
    cases hs0 : (ford .f32 (Fv .f32 sh) (Fv .f32 0) == some .gt || ford .f32 (Fv .f32 sh) (Fv .f32 0) == some .eq) with
    | false =>
      have hc := bad (by unfold caOk shOk fin; rw [hs0]; simp)
      rw [hc]
      have HC9 := hide hc
      rw [hs0] at e0
      clear hc bad hs0 e1
      go_enter Try.func31, Try.ntmps31
      go_wp2_with fail
      exact bodyPost_ret (v := .tuple #[.slice (some ⟨w.heap.size, 0, none⟩) 0 0, .int .i64 1]) (by simp [results, Try.results31, go_sem]) rfl ⟨⟨_, rfl, ca_none (by rw [unhide HC9]; omega) (empty_ans1 w)⟩, ba (Below.refl _ _) _⟩
    | true =>
      rw [hs0] at e0
      cases hs1 : (ford .f32 (Fv .f32 sh) (Fv .f32 1065353216) == some .lt || ford .f32 (Fv .f32 sh) (Fv .f32 1065353216) == some .eq) with
      | false =>
        have hc := bad (by unfold caOk shOk fin; rw [hs1]; simp)
        rw [hc]
        have HC9 := hide hc
        rw [hs1] at e1
        clear hc bad hs0 hs1
        go_enter Try.func31, Try.ntmps31
        go_wp2_with fail
        exact bodyPost_ret (v := .tuple #[.slice (some ⟨w.heap.size, 0, none⟩) 0 0, .int .i64 1]) (by simp [results, Try.results31, go_sem]) rfl ⟨⟨_, rfl, ca_none (by rw [unhide HC9]; omega) (empty_ans1 w)⟩, ba (Below.refl _ _) _⟩
      | true =>
        rw [hs1] at e1
        have hsk : shOk sh = true := by unfold shOk fin; rw [hs0, hs1]; rfl
        have HSK := hide hsk
        have HBAD := hide bad
        have HH1 := hide h1
        clear hs0 hs1 hsk bad
        go_enter Try.func31, Try.ntmps31
        go_wp2_with fail
        go_loopw [6] (fun s W => ∃ i : Nat, s = .int .i64 (i : Int) ∧ i ≤ n ∧ (L.take i).all smp = true ∧ W = w) (fun s _ => n - (intOf s).toNat)
        case atStart => exact ⟨0, rfl, Nat.zero_le _, by simp, rfl⟩
        case round =>
          obtain ⟨i, rfl, hi, ha, hwe⟩ := hrel
          have hw2 := hwe.symm
          clear hwe
          subst hw2
          have HA := hide ha
          clear ha
          have i0 : (0 : Int) ≤ (i : Int) := Int.natCast_nonneg _
          by_cases h : i < n
          · have i1 : (i : Int) < (n : Int) := by omega
            have iz : decide ((i : Int) < (n : Int)) = true := decide_eq_true i1
            obtain ⟨x, hx⟩ := get_some (unhide HL) h
            obtain ⟨rfl, pw, k0⟩ := (unhide HU).at hx
            have HAX := hide (fall_take smp hx)
            have HX := hide hx
            clear pw hx
            go_wp2_with fail
            refine (withinM x _ _ _).mono ?_
            rintro e w' ⟨rfl, hq⟩
            rw [hq]
            clear hq
            cases hto : fin .f64 (Fv .f64 x) (Fv .f64 13920209183539462144) (Fv .f64 4696837146684686336) with
            | true =>
              go_wp2_with fail
              go_roundw
              case rel => exact ⟨i + 1, by simp, h, by rw [unhide HAX, unhide HA]; exact hto, by first | rfl | trivial⟩
              case measure => simp only [intOf]; omega
            | false =>
              have HC9 := hide (unhide HBAD (by unfold caOk; rw [fall_not smp (unhide HX) hto]; simp))
              go_wp2_with fail
              exact bodyPost_ret (v := .tuple #[.slice (some ⟨w.heap.size, 0, none⟩) 0 0, .int .i64 1]) (by simp [results, Try.results31, go_sem]) rfl ⟨⟨_, by rw [unhide HC9], ca_none (by rw [unhide HC9]; omega) (empty_ans1 w)⟩, ba (Below.refl _ _) _⟩
          · have iz : decide ((i : Int) < (n : Int)) = false := decide_eq_false (by omega)
            have HE : Hid (L.all smp = true) := hide (by have := unhide HA; rwa [List.take_of_length_le (by rw [unhide HL]; omega)] at this)
            have HC9 : Hid (caC n L sh = 0) := hide (by unfold caC; rw [if_neg (unhide HH1), show caOk n L sh = true by unfold caOk; rw [unhide HSK, unhide HE, decide_eq_true h2]; rfl]; rfl)
            obtain ⟨iI, hi1, hy0, hy1, hy2⟩ := info_parts f32_info
            have HI1 := hide hi1
            have HY0 := hide hy0
            have HY1 := hide hy1
            have HY2 := hide hy2
            clear HA hi1 hy0 hy1 hy2
            go_wp2_with fail
            have HR0 := hide (frow_made (fk := .f32) w 41 w.heap.size 1 (Nat.le_refl _) w.heap.size rfl)
            have HB0 := hide (ba (Below.refl w.heap.size w) (.cells #[] 41))
            go_loopw [7, 8] (fun s t W => ∃ (k g cp : Nat) (R : List Nat), s = .slice (some ⟨g, 0, none⟩) k cp ∧ t = .int .i64 (k : Int) ∧ k ≤ n ∧ FRow .f32 W w.heap.size 41 1 (.slice (some ⟨g, 0, none⟩) k cp) k R ∧ R.map (Fv .f32) = clF L (Fv .f32 sh) k ∧ Below w.heap.size w W) (fun _ s _ => n - (intOf s).toNat)
            case atStart => exact ⟨0, _, 0, [], rfl, rfl, Nat.zero_le _, unhide HR0, rfl, unhide HB0⟩
            case round =>
              obtain ⟨k, g, cp, R, rfl, rfl, hk, hr, hF, hw⟩ := hrel
              have HR := hide hr
              have HF := hide hF
              have HW := hide hw
              clear hr hF hw HR0 HB0
              have k0 : (0 : Int) ≤ (k : Int) := Int.natCast_nonneg _
              have HRL : Hid (R.length = k) := hide (by have := (unhide HR).len; omega)
              by_cases h3 : k < n
              · have k1 : (k : Int) < (n : Int) := by omega
                have kz : decide ((k : Int) < (n : Int)) = true := decide_eq_true k1
                obtain ⟨x, hx⟩ := get_some (unhide HL) h3
                obtain ⟨rfl, pw, c0⟩ := ((unhide HU).bel (unhide HW)).at hx
                obtain ⟨y, hy, hyv⟩ := cvt_run (List.all_eq_true.1 (unhide HE) x (List.mem_of_getElem? hx))
                have HYV : Hid (Fv .f32 y = cvt (L.getD k 0)) := hide (by rw [List.getD_eq_getElem?_getD, hx]; exact hyv)
                clear hx pw hyv
                by_cases hk0 : k = 0
                · have t0 : decide ((0 : Int) < (k : Int)) = false := decide_eq_false (by omega)
                  have t9 : ¬ (0 : Int) < (k : Int) := by omega
                  have HK0 := hide hk0
                  clear hk0
                  go_wp2_with (at_builtin; refine unhide ?_)
                  refine hide ?_
                  refine wpList_append_own _ rfl _ _ 42 rfl w.heap.size 41 iI _ 1 4 Try.underlying42 (unhide HI1) (unhide HY0) (unhide HY1) (unhide HY2) rfl (by decide) _ _ _ rfl (World.ownsRow.alloc (unhide HR) _) _ 1 1 ([y].map (Value.float .f32)) rfl rfl (by first | exact news_cells _ _ rfl | exact news_cells _ _ (by simp) | exact news_drew _ _ (by simp)) flts_one (by unfold maxLen; omega) (by omega) (by have := (unhide HW).size; simp; omega) ?_
                  intro v' w1 hown hgrow _
                  obtain ⟨hrow, hbel⟩ := fown_more (fk := .f32) (wr := wr) (ba (Below.refl _ _) _ |>.mono (unhide HW).size) (by have := (unhide HW).size; simp; omega) (unhide HR) hown hgrow
                  obtain ⟨g9, c9, hrr, _⟩ := hrow.full (by omega)
                  subst hrr
                  have HROW := hide hrow
                  have HBEL := hide ((unhide HW).trans hbel)
                  clear hrow hbel hown hgrow
                  go_wp2_with fail
                  go_roundw
                  case rel =>
                    refine ⟨k + 1, g9, c9, R ++ [y], rfl, by simp, h3, unhide HROW, ?_, unhide HBEL⟩
                    have hk0 := unhide HK0
                    subst hk0
                    rw [List.map_append, unhide HF]
                    show _ = clF L (Fv .f32 sh) 0 ++ [cl L (Fv .f32 sh) 0]
                    simp [cl, clF, unhide HYV]
                  case measure => simp only [intOf]; omega
                · obtain ⟨j, hj⟩ : ∃ j, j + 1 = k := ⟨k - 1, by omega⟩
                  have t0 : decide ((0 : Int) < (k : Int)) = true := decide_eq_true (by omega)
                  have ip : (0 : Int) < (k : Int) := by omega
                  have wj : IntKind.i64.wrap ((k : Int) - 1) = (j : Int) := by rw [show (k : Int) - 1 = (j : Int) by omega]; exact wrap_i (by omega) (by omega)
                  have j0 : (0 : Int) ≤ (j : Int) := Int.natCast_nonneg _
                  have j1 : (j : Int) < (k : Int) := by omega
                  obtain ⟨a, ea, hav⟩ := cl_at (by rw [List.take_of_length_le (by rw [unhide HRL]; exact Nat.le_refl _)]; exact unhide HF) hj (by rw [unhide HRL]; exact Nat.le_refl _)
                  have ca := (unhide HR).cellAt ea
                  have HAV := hide hav
                  have HJ := hide hj
                  clear ea hav hj
                  go_wp2_with (first | (at_builtin; refine unhide ?_) | (refine upon_flt (by simp) ?_; intro rr nn hrr))
                  refine hide ?_
                  rename_i ra na hra rb nb hrb
                  have HV : Hid (Fv .f32 rr = cl L (Fv .f32 sh) k) := hide (by
                    have hj := unhide HJ
                    subst hj
                    have hav := unhide HAV
                    have hyv := unhide HYV
                    simp [cl, *])
                  refine wpList_append_own _ rfl _ _ 42 rfl w.heap.size 41 iI _ 1 4 Try.underlying42 (unhide HI1) (unhide HY0) (unhide HY1) (unhide HY2) rfl (by decide) _ _ _ rfl (World.ownsRow.alloc ((unhide HR).below (bel_dn' (Below.refl _ _) _)) _) _ 1 1 ([rr].map (Value.float .f32)) rfl rfl (by first | exact news_cells _ _ rfl | exact news_cells _ _ (by simp) | exact news_drew _ _ (by simp)) flts_one (by unfold maxLen; omega) (by omega) (by have := (unhide HW).size; simp; omega) ?_
                  intro v' w1 hown hgrow _
                  obtain ⟨hrow, hbel⟩ := fown_more (fk := .f32) (wr := wr) (ba (bel_dn' (Below.refl _ _) _) _ |>.mono (unhide HW).size) (by have := (unhide HW).size; simp; omega) (unhide HR) hown hgrow
                  obtain ⟨g9, c9, hrr2, _⟩ := hrow.full (by omega)
                  subst hrr2
                  have HROW := hide hrow
                  have HBEL := hide ((unhide HW).trans hbel)
                  clear hrow hbel hown hgrow hrr hra hrb
                  go_wp2_with fail
                  go_roundw
                  case rel =>
                    refine ⟨k + 1, g9, c9, R ++ [rr], rfl, by simp, h3, unhide HROW, ?_, unhide HBEL⟩
                    rw [List.map_append, unhide HF, clF]
                    simp [unhide HV]
                  case measure => simp only [intOf]; omega
              · have kz : decide ((k : Int) < (n : Int)) = false := decide_eq_false (by omega)
                have en : k = n := by omega
                subst en
                go_wp2_with fail
                exact bodyPost_ret (v := .tuple #[.slice (some ⟨g, 0, none⟩) k cp, .int .i64 0]) (by simp [results, Try.results31, go_sem]) rfl ⟨⟨_, by rw [unhide HC9], ca_some (unhide HC9) ⟨R, unhide HR, unhide HF⟩⟩, unhide HW⟩
  · have t2 : decide ((1000 : Int) < (n : Int)) = true := decide_eq_true (by omega)
    have hc := bad (by unfold caOk; rw [decide_eq_false h2]; rfl)
    rw [hc]
    have HC9 := hide hc
    clear hc bad
    go_enter Try.func31, Try.ntmps31
    go_wp2_with fail
    exact bodyPost_ret (v := .tuple #[.slice (some ⟨w.heap.size, 0, none⟩) 0 0, .int .i64 1]) (by simp [results, Try.results31, go_sem]) rfl ⟨⟨_, rfl, ca_none (by rw [unhide HC9]; omega) (empty_ans1 w)⟩, ba (Below.refl _ _) _⟩
end Go.Proofs.Ytgocgcnpgmamiaa
