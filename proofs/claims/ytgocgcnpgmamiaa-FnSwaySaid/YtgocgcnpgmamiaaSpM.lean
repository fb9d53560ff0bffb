/-
  The tones of eight numbers by the model.
-/
import Derived.Test.YtgocgcnpgmamiaaSpP
import Derived.Test.YtgocgcnpgmamiaaFlNum
namespace Go.Proofs.Ytgocgcnpgmamiaa
open Go.ChangeShapes Go.WideShapes Go.ChangeAt Go.RowKit
set_option linter.unusedVariables false
set_option linter.unusedSimpArgs false
attribute [local go_sem] run_store_flt run_store_cpx

/-- the turns, part by part -/
def tblF : List Nat := [4607182418800017408, 0, 4604544271217802189, 13827916308072577997, 0, 13830554455654793216, 13827916308072577997, 13827916308072577997, 13830554455654793216, 0, 13827916308072577997, 4604544271217802189, 0, 4607182418800017408, 4604544271217802189, 4604544271217802189]
theorem tblF_at {q : Nat} (h : q < 8) : tblF[q * 2]? = some (tre q) ∧ tblF[q * 2 + 1]? = some (tim q) := by
  have : ∀ q : Fin 8, tblF[q.val * 2]? = some (tre q.val) ∧ tblF[q.val * 2 + 1]? = some (tim q.val) := by decide
  exact this ⟨q, h⟩
theorem tbl_num {q : Nat} (h : q < 8) : isNum .f64 (tre q) ∧ isNum .f64 (tim q) := by
  match q, h with
  | 0, _ => exact ⟨num_1, num_0⟩
  | 1, _ => exact ⟨num_h, num_nh⟩
  | 2, _ => exact ⟨num_0, num_n1⟩
  | 3, _ => exact ⟨num_nh, num_nh⟩
  | 4, _ => exact ⟨num_n1, num_0⟩
  | 5, _ => exact ⟨num_nh, num_h⟩
  | 6, _ => exact ⟨num_0, num_1⟩
  | 7, _ => exact ⟨num_h, num_h⟩
theorem neg_h : Op.negFloat .f64 4604544271217802189 = 13827916308072577997 := by decide
set_option maxHeartbeats 2000000 in
set_option maxRecDepth 10000 in
theorem spM_any (u : Option Addr) (p po n c : Nat) (L : List Nat) (w : World) (hl : L.length = n) (hn : n ≤ 9223372036854775807) (hu : Fls .f64 w u p po L) :
    Calls Try.prog 27 #[.slice u n c] w fun e w' => (∃ v C, e = .returned (.tuple #[v, .int .i64 C]) ∧ ((4096 < n ∧ C = 2 ∧ FAns .f64 w' w.heap.size 33 2 v 0 []) ∨ (n ≤ 4096 ∧ (n ≠ 8 ∨ L.all smp = false) ∧ C = 1 ∧ FAns .f64 w' w.heap.size 33 2 v 0 []) ∨ (n = 8 ∧ L.all smp = true ∧ C = 0 ∧ FAns .f64 w' w.heap.size 33 2 v 8 (spF L 8)))) ∧ Below w.heap.size w w' := by
  have HU := hide hu
  have HL := hide hl
  have n0 : (0 : Int) ≤ (n : Int) := Int.natCast_nonneg _
  clear hu hl
  by_cases h1 : 4096 < n
  · have t1 : decide ((4096 : Int) < (n : Int)) = true := decide_eq_true (by omega)
    go_enter Try.func27, Try.ntmps27
    go_wp2_with fail
    exact bodyPost_ret (v := .tuple #[.slice (some ⟨w.heap.size, 0, none⟩) 0 0, .int .i64 2]) (by simp [results, Try.results27, go_sem]) rfl ⟨⟨_, _, rfl, .inl ⟨h1, rfl, [], frow_made w 33 _ 2 (Nat.le_refl _) _ rfl, rfl⟩⟩, ba (Below.refl _ _) _⟩
  · have t1 : decide ((4096 : Int) < (n : Int)) = false := decide_eq_false (by omega)
    by_cases h8 : n = 8
    · subst h8
      go_enter Try.func27, Try.ntmps27
      go_wp2_with fail
      go_loopw [4] (fun s W => ∃ i : Nat, s = .int .i64 (i : Int) ∧ i ≤ 8 ∧ (L.take i).all smp = true ∧ W = w) (fun s _ => 8 - (intOf s).toNat)
      case atStart => exact ⟨0, rfl, Nat.zero_le _, by simp, rfl⟩
      case round =>
        obtain ⟨i, rfl, hi, ha, hwe⟩ := hrel
        have hw2 := hwe.symm
        clear hwe
        subst hw2
        have HA := hide ha
        clear ha
        have i0 : (0 : Int) ≤ (i : Int) := Int.natCast_nonneg _
        by_cases h : i < 8
        · have i1 : (i : Int) < 8 := by omega
          have iz : decide ((i : Int) < 8) = true := decide_eq_true i1
          obtain ⟨x, hx⟩ := get_some (unhide HL) h
          obtain ⟨rfl, pw, k0⟩ := (unhide HU).at hx
          have HAX := hide (fall_take smp hx)
          have HX := hide hx
          clear pw hx
          go_wp2_with fail
          refine (withinM x _ _ _).mono ?_
          rintro e w' ⟨rfl, rfl⟩
          cases hto : fin .f64 (Fv .f64 x) (Fv .f64 13920209183539462144) (Fv .f64 4696837146684686336) with
          | true =>
            go_wp2_with fail
            go_roundw
            case rel => exact ⟨i + 1, by simp, h, by rw [unhide HAX, unhide HA]; exact hto, by first | rfl | trivial⟩
            case measure => simp only [intOf]; omega
          | false =>
            go_wp2_with fail
            exact bodyPost_ret (v := .tuple #[.slice (some ⟨w'.heap.size, 0, none⟩) 0 0, .int .i64 1]) (by simp [results, Try.results27, go_sem]) rfl ⟨⟨_, _, rfl, .inr (.inl ⟨by omega, .inr (fall_not _ (unhide HX) hto), rfl, [], frow_made w' 33 _ 2 (Nat.le_refl _) _ rfl, rfl⟩)⟩, ba (Below.refl _ _) _⟩
        · have iz : decide ((i : Int) < 8) = false := decide_eq_false (by omega)
          have HE : Hid (L.all smp = true) := hide (by have := unhide HA; rwa [List.take_of_length_le (by rw [unhide HL]; omega)] at this)
          have ng : ∀ W : World, (Op.unary .neg (.float .f64 4604544271217802189)).run Try.prog W = .ok (.float .f64 13827916308072577997) W := fun W => rfl
          clear HA
          go_wp2_with fail
          have HT0 := hide (fblk_new (fk := .f64) w 33 tblF)
          have HR0 := hide (frow_made (fk := .f64) (w.alloc (.cells (tblF.map (Value.float .f64)).toArray 33)) 33 (w.heap.size + 1) 2 (by simp) (w.heap.size + 1) (by simp))
          have HB0 := hide (ba (ba (Below.refl w.heap.size w) (.cells (tblF.map (Value.float .f64)).toArray 33)) (.cells #[] 33))
          have hi33 : ∃ i, Try.prog.info? 33 = some i ∧ i.zero = some (.agg #[.float .f64 0, .float .f64 0]) ∧ i.size = 2 ∧ i.bytes = 16 := info_parts tone_info
          obtain ⟨iI, hi1, hy0, hy1, hy2⟩ := hi33
          have HI1 := hide hi1
          have HY0 := hide hy0
          have HY1 := hide hy1
          have HY2 := hide hy2
          clear hi1 hy0 hy1 hy2
          go_loopw [7, 8] (fun s t W => ∃ (k : Nat) (R : List Nat), t = .int .i64 (k : Int) ∧ k ≤ 8 ∧ FRow .f64 W (w.heap.size + 1) 33 2 s k R ∧ R.map (Fv .f64) = spF L k ∧ fblk .f64 W w.heap.size 33 tblF ∧ w.heap.size + 1 ≤ W.heap.size ∧ Below w.heap.size w W) (fun _ s _ => 8 - (intOf s).toNat)
          case atStart => exact ⟨0, [], rfl, Nat.zero_le _, unhide HR0, rfl, (unhide HT0).bel (ba (Below.refl _ _) _), by simp, unhide HB0⟩
          case round =>
            obtain ⟨k, R, rfl, hk, hr, hF, ht, hs, hw⟩ := hrel
            have HR := hide hr
            have HF := hide hF
            have HT := hide ht
            have HW := hide hw
            have HS := hide hs
            clear HT0 HR0 HB0 hr hF ht hw hs
            have k0 : (0 : Int) ≤ (k : Int) := Int.natCast_nonneg _
            by_cases h2 : k < 8
            · have i1 : (k : Int) < 8 := by omega
              have iz2 : decide ((k : Int) < 8) = true := decide_eq_true i1
              go_wp2_with fail
              generalize hWk : wr = Wk at *
              clear hWk
              have HG := hide (vb_new Wk 33 [.float .f64 0, .float .f64 0] _ rfl)
              go_loopw [10] (fun s W => ∃ (j a b : Nat), s = .int .i64 (j : Int) ∧ j ≤ 8 ∧ vb W Wk.heap.size 33 [.float .f64 a, .float .f64 b] ∧ tv a b = spS L k j ∧ Below Wk.heap.size Wk W) (fun s _ => 8 - (intOf s).toNat)
              case atStart => exact ⟨0, 0, 0, rfl, Nat.zero_le _, unhide HG, rfl, ba (Below.refl _ _) _⟩
              case round =>
                obtain ⟨j, a, b, rfl, hj, hg, hv, hb⟩ := hrel
                have HG2 := hide hg
                have HV := hide hv
                have HB := hide hb
                clear HG hg hv hb
                have j0 : (0 : Int) ≤ (j : Int) := Int.natCast_nonneg _
                by_cases h3 : j < 8
                · have j1 : (j : Int) < 8 := by omega
                  have jz : decide ((j : Int) < 8) = true := decide_eq_true j1
                  obtain ⟨x, hx⟩ := get_some (unhide HL) h3
                  obtain ⟨rfl, pw, k1⟩ := (((unhide HU).bel (unhide HW)).bel (unhide HB)).at hx
                  obtain ⟨q, hq⟩ : ∃ q, j * k % 8 = q := ⟨_, rfl⟩
                  have q8 : q < 8 := by omega
                  have HN := hide (spS_next (x := L) hx hq)
                  obtain ⟨m, hm⟩ : ∃ m : Nat, j * k = m := ⟨_, rfl⟩
                  have m1 : m ≤ 49 := by
                    have h1 : j ≤ 7 := by omega
                    have h2 : k ≤ 7 := by omega
                    have := Nat.mul_le_mul h1 h2
                    omega
                  have mi : (j : Int) * (k : Int) = (m : Int) := by rw [← hm]; simp
                  have wq : IntKind.i64.wrap ((j : Int) * (k : Int)) = (m : Int) := by rw [mi]; exact wrap_i (by omega) (by omega)
                  have mt : (m : Int).tmod 8 = (q : Int) := by rw [← hq, hm]; rfl
                  have q0 : (0 : Int) ≤ (q : Int) := Int.natCast_nonneg _
                  have q1 : (q : Int) < 8 := by omega
                  have tb := (unhide HT).bel (unhide HB)
                  have k2 := tb.cell (tblF_at q8).1
                  have k3 := tb.cell (tblF_at q8).2
                  have l2 := cell_lt k2
                  have c0 := (unhide HG2).cell (m := 0) rfl
                  have c1 := (unhide HG2).cell (m := 1) rfl
                  have lg := (unhide HG2).lt
                  have fz := (unhide HG2).frozen
                  have hxn : isNum .f64 x := smp_num (by have := List.all_eq_true.1 (unhide HE) x (List.mem_of_getElem? hx); exact this)
                  obtain ⟨r1, hr1⟩ := mul_num hxn (tbl_num q8).1
                  obtain ⟨r2, hr2⟩ := mul_num hxn (tbl_num q8).2
                  obtain ⟨hq1, hv1⟩ := quiet_flt (P := Try.prog) hr1 28
                  obtain ⟨hq2, hv2⟩ := quiet_flt (P := Try.prog) hr2 28
                  have HV1 := hide hv1
                  have HV2 := hide hv2
                  clear hx hq hm mi tb hxn hr1 hr2 hv1 hv2
                  go_wp2_with fail
                  go_quiet (fail)
                  go_wp2_with fail
                  go_quiet (fail)
                  go_wp2_with (refine upon_flt (by simp) ?_; intro _ _ _)
                  go_roundw
                  case rel =>
                    refine ⟨j + 1, _, _, by simp, h3, (((((unhide HG2).bel (ba (Below.refl _ _) _)) : vb _ _ _ _).set 0 _) : vb _ _ _ _).set 1 _, ?_, ?_⟩
                    · rw [unhide HN, ← unhide HV]
                      have hv1 := unhide HV1
                      have hv2 := unhide HV2
                      simp [tv, tadd, fa, fm, *]
                    · repeat (first | exact unhide HB | refine bs ?_ (Nat.le_refl _) | refine bel_dn' ?_ _ | refine Below.drew ?_ | refine ba ?_ _)
                  case measure => simp only [intOf]; omega
                · have jz : decide ((j : Int) < 8) = false := decide_eq_false (by omega)
                  obtain rfl : j = 8 := by omega
                  have c0 := (unhide HG2).cell (m := 0) rfl
                  have c1 := (unhide HG2).cell (m := 1) rfl
                  have HR2 := hide ((unhide HR).below (unhide HB))
                  have HS2 := hide (Nat.le_trans (unhide HS) (unhide HB).size)
                  go_wp2_with (at_builtin; refine unhide ?_)
                  refine hide ?_
                  refine wpList_append_own _ rfl _ _ 25 rfl (w.heap.size + 1) 33 iI _ 2 16 Try.underlying25 (unhide HI1) (unhide HY0) (unhide HY1) (unhide HY2) rfl (by decide) _ _ _ rfl (World.ownsRow.alloc (unhide HR2) _) _ 1 1 ([a, b].map (Value.float .f64)) rfl rfl (by first | exact news_cells _ _ rfl | exact news_cells _ _ (by simp) | exact news_drew _ _ (by simp)) flts_one (by unfold maxLen; omega) (by omega) (by have := unhide HS2; simp; omega) ?_
                  intro v' w1 hown hgrow _
                  obtain ⟨hrow, hbel⟩ := fown_more (fk := .f64) (wr := wr) (ba (Below.refl _ _) _ |>.mono (unhide HS2)) (by have := unhide HS2; simp; omega) (unhide HR2) hown hgrow
                  have HROW := hide hrow
                  have HBEL := hide hbel
                  clear hrow hbel hown hgrow
                  go_wp2_with fail
                  go_roundw
                  case rel =>
                    have hb1 : Below (w.heap.size + 1) Wk w1 := ((unhide HB).mono (unhide HS)).trans (unhide HBEL)
                    refine ⟨k + 1, R ++ [a, b], by simp, h2, unhide HROW, ?_, (unhide HT).below hb1 (by omega), Nat.le_trans (unhide HS2) (unhide HBEL).size, (unhide HW).trans (hb1.mono (by omega))⟩
                    rw [List.map_append, unhide HF, spF, ← unhide HV]
                    rfl
                  case measure => simp only [intOf]; omega
            · have iz2 : decide ((k : Int) < 8) = false := decide_eq_false (by omega)
              obtain rfl : k = 8 := by omega
              obtain ⟨v, hv⟩ : ∃ v, v = u7 := ⟨_, rfl⟩
              go_wp2_with fail
              refine bodyPost_ret (v := .tuple #[u7, .int .i64 0]) (by simp [results, Try.results27, go_sem]) rfl ⟨⟨_, _, rfl, .inr (.inr ⟨by first | rfl | trivial, unhide HE, by first | rfl | trivial, R, (unhide HR).mono (by omega), unhide HF⟩)⟩, unhide HW⟩
    · have t8 : ((n : Int) != 8) = true := by simp; omega
      go_enter Try.func27, Try.ntmps27
      go_wp2_with fail
      exact bodyPost_ret (v := .tuple #[.slice (some ⟨w.heap.size, 0, none⟩) 0 0, .int .i64 1]) (by simp [results, Try.results27, go_sem]) rfl ⟨⟨_, _, rfl, .inr (.inl ⟨by omega, .inl h8, rfl, [], frow_made w 33 _ 2 (Nat.le_refl _) _ rfl, rfl⟩)⟩, ba (Below.refl _ _) _⟩
end Go.Proofs.Ytgocgcnpgmamiaa
