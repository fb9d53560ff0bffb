/-
  The model's Matched.
-/
import Derived.Test.YtmoobfbjehgdnaaMtCode
import Derived.Test.YtmoobfbjehgdnaaOrdM
namespace Go.Proofs.Ytmoobfbjehgdnaa
open Go.ChangeShapes Go.WideShapes Go.ChangeAt Go.RowKit
set_option linter.unusedVariables false
set_option linter.unusedSimpArgs false

theorem pair_info : (Try.prog.info? 31).map (fun i => (i.zero, i.size, i.bytes)) = some (some (.agg #[.int .i64 0, .int .i64 0]), 2, 16) := by kernel_rfl
theorem bool_info : (Try.prog.info? 4).map (fun i => (i.zero, i.size, i.bytes)) = some (some (.bool false), 1, 1) := by kernel_rfl
/-- where an answer's pairs lie -/
def PAt (w : World) (B : Nat) (v : Value) (ps : List (Int × Int)) : Prop := ∃ (u : Option Addr) (cap : Nat), v = .slice u ps.length cap ∧ (ps ≠ [] → ∃ g, u = some ⟨g, 0, none⟩ ∧ Row w B 31 2 (.slice (some ⟨g, 0, none⟩) ps.length cap) ps.length (flat2 ps))
theorem pat_empty (w : World) (B : Nat) (u : Option Addr) (cap : Nat) : PAt w B (.slice u 0 cap) [] := ⟨u, cap, rfl, fun h => absurd rfl h⟩
theorem fit_cases (H S : List Int) (lo hi : Int) (u : List Bool) (a b : Nat) : okP H S lo hi u (a : Int) (b : Int) = (!(bt u b) && decide (lo ≤ gt H a - gt S b) && decide (gt H a - gt S b ≤ hi)) := by
  unfold okP fitB
  rw [Int.toNat_natCast, Int.toNat_natCast, Bool.and_assoc]
  congr 1
  rw [Bool.eq_iff_iff]
  simp
theorem ordL_nat {S : List Int} {n i : Nat} {x : Int} (h : (ordL S n)[i]? = some x) : ∃ k : Nat, x = (k : Int) ∧ k < n := by
  have := ordL_mem (List.mem_of_getElem? h)
  exact ⟨x.toNat, by omega, by omega⟩

set_option maxHeartbeats 8000000 in
set_option maxRecDepth 100000 in
theorem mtM_right (u v : Option Addr) (p po n cu q qo m cv : Nat) (H S : List Int) (lo hi : Int) (w : World) (hl : H.length = n) (hm : S.length = m) (hu : Its w u p po H) (hv : Its w v q qo S) (hC : mtC H S lo hi = 0) :
    Calls Try.prog 8 #[.slice u n cu, .slice v m cv, .int .i64 lo, .int .i64 hi] w fun e w' => (∃ val, e = .returned (.tuple #[val, .int .i64 0]) ∧ PAt w' w.heap.size val (pgo H S lo hi (ordL H n) (ordL S m)).ps) ∧ Below w.heap.size w w' := by
  obtain ⟨iP, hi1, hy0, hy1, hy2⟩ := info_parts pair_info
  obtain ⟨hn, hm2, hH, hS, hlo, hlh, hhi⟩ := mtC_ok hC
  rw [hl] at hn
  rw [hm] at hm2
  have HCD := hide (codeM_any u v p po n cu q qo m cv H S lo hi w hl hm (by omega) (by omega) hu hv)
  rw [hC] at HCD
  have HOA := hide (ordM_any u p po n cu H w hl hn hu)
  have HOB := hide (fun (W : World) (hW : Below w.heap.size w W) => ordM_any v q qo m cv S W hm hm2 (hv.bel hW))
  have hmk := fun W => make_bools (P := Try.prog) 29 4 m Try.underlying29 bool_info (by omega) W
  have HHC : Hid (∀ W, Below w.heap.size w W → ∀ j, j < n → ∃ b o, u = some ⟨b, o, none⟩ ∧ b < w.heap.size ∧ W.cell? ⟨b, o + j, none⟩ = some (.int .i64 (gt H j)) ∧ 0 ≤ gt H j ∧ gt H j ≤ 100000) := hide (fun W hW j hj => by
    have hx := gtk_some (a := H) (i := j) (by omega)
    obtain ⟨h1, h2, h3⟩ := hu.at hx
    exact ⟨p, po, h1, h2, (hW.cell (p := ⟨p, po + j, none⟩) h2).trans h3, hH _ (List.mem_of_getElem? hx)⟩)
  have HSC : Hid (∀ W, Below w.heap.size w W → ∀ j, j < m → ∃ b o, v = some ⟨b, o, none⟩ ∧ b < w.heap.size ∧ W.cell? ⟨b, o + j, none⟩ = some (.int .i64 (gt S j)) ∧ 0 ≤ gt S j ∧ gt S j ≤ 100000) := hide (fun W hW j hj => by
    have hx := gtk_some (a := S) (i := j) (by omega)
    obtain ⟨h1, h2, h3⟩ := hv.at hx
    exact ⟨q, qo, h1, h2, (hW.cell (p := ⟨q, qo + j, none⟩) h2).trans h3, hS _ (List.mem_of_getElem? hx)⟩)
  have HAL := hide (ordL_len H n)
  have HBL := hide (ordL_len S m)
  have HAN := hide (fun (i : Nat) (x : Int) (h : (ordL H n)[i]? = some x) => ordL_nat h)
  have HBN := hide (fun (i : Nat) (x : Int) (h : (ordL S m)[i]? = some x) => ordL_nat h)
  have HFC := hide (fit_cases H S lo hi)
  have HP0 : Hid (pgo H S lo hi [] (ordL S m) = ⟨List.replicate m false, [], []⟩) := hide (by unfold pgo pst0; rw [hm]; rfl)
  have HPL := hide (fun (X : List Int) => pgo_len H S lo hi X (ordL S m))
  rw [hm] at HPL
  have HPS := hide (fun (i : Nat) (a : Int) (h : (ordL H n)[i]? = some a) => pgo_succ (H := H) (S := S) (lo := lo) (hi := hi) (B := ordL S m) h)
  have n0 : (0 : Int) ≤ (n : Int) := Int.natCast_nonneg _
  have m0 : (0 : Int) ≤ (m : Int) := Int.natCast_nonneg _
  have nI : (n : Int) ≤ 200 := by omega
  have mI : (m : Int) ≤ 200 := by omega
  generalize hZ : (List.replicate m false).map Value.bool = Z at hmk
  have HZ := hide hZ
  clear hu hv hH hS hZ hC hl hm
  generalize ordL H n = A at *
  generalize ordL S m = B at *
  go_enter Try.func8, Try.ntmps8
  go_wp2_with fail
  refine (unhide HCD).mono ?_
  rintro e W1 ⟨rfl, hW1⟩
  have hW1' := hW1.symm
  subst hW1'
  go_wp2_with fail
  refine (unhide HOA).mono ?_
  rintro e W2 ⟨⟨ga, ca, rfl, hra⟩, hb2⟩
  have HB2 := hide hb2
  have HRA := hide hra
  clear hb2 hra
  go_wp2_with fail
  refine (unhide HOB _ (unhide HB2)).mono ?_
  rintro e W3 ⟨⟨gb, cb, rfl, hrb⟩, hb3⟩
  have HB3 := hide (bc (unhide HB2) hb3)
  have HRB := hide hrb
  have HRA3 := hide ((unhide HRA).below hb3)
  obtain ⟨_, _, hva, hga1, hga2, hga3, hga4⟩ := (unhide HRA).sm (by simp)
  cases hva
  obtain ⟨_, _, hvb, hgb1, hgb2, hgb3, hgb4⟩ := hrb.sm (by simp)
  cases hvb
  have hs3 := (unhide HB3).size
  have hs23 := hb3.size
  clear hb3 hrb HRA
  go_wp2_with fail
  have HUS := hide (show bblk (W3.alloc (.cells Z.toArray 4)) W3.heap.size (List.replicate m false) by unfold bblk; rw [unhide HZ]; exact vblk_new W3 4 Z)
  have HRA4 := hide ((unhide HRA3).below (ba (Below.refl _ _) (.cells Z.toArray 4)))
  have HRB4 := hide ((unhide HRB).below (ba (Below.refl _ _) (.cells Z.toArray 4)))
  have HB4 := hide (ba (unhide HB3) (.cells Z.toArray 4))
  have hsq : (W3.alloc (.cells Z.toArray 4)).heap.size = W3.heap.size + 1 := by simp
  clear hmk HRA3 HRB
  generalize hWq : W3.alloc (.cells Z.toArray 4) = Wq at *
  obtain ⟨gu, hgu⟩ : ∃ gu, W3.heap.size = gu := ⟨_, rfl⟩
  rw [hgu] at HUS hsq ⊢
  have ha1 : ga ≠ gu := by omega
  have hb1 : gb ≠ gu := by omega
  have hga5 : ga < Wq.heap.size := by omega
  have hgb5 : gb < Wq.heap.size := by omega
  have hgu5 : gu < Wq.heap.size := by omega
  have hgw : w.heap.size ≤ gu := by omega
  rw [show gu + 1 = Wq.heap.size by omega]
  have HSQ := hide hsq
  clear hWq hsq hgu
  go_loopw [14, 15] (fun x z W => ∃ (i g c : Nat) (s : PS), s = pgo H S lo hi (A.take i) B ∧ x = .slice (some ⟨g, 0, none⟩) s.ps.length c ∧ z = .int .i64 (i : Int) ∧ i ≤ n ∧ Row W Wq.heap.size 31 2 (.slice (some ⟨g, 0, none⟩) s.ps.length c) s.ps.length (flat2 s.ps) ∧ bblk W gu s.used ∧ Mx gu Wq W) (fun _ z _ => n - (intOf z).toNat)
  case atStart =>
    refine ⟨0, _, _, ⟨List.replicate m false, [], []⟩, (unhide HP0).symm, rfl, rfl, Nat.zero_le _, row_made _ 31 _ 2 (Nat.le_refl _) _ rfl, ?_, ?_⟩
    · exact vblk.bel (unhide HUS) (ba (Below.refl _ _) _)
    · exact (Mx.refl gu Wq).low (ba (Below.refl _ _) _) (Nat.le_refl _)
  case round =>
    obtain ⟨i, g, c, s, hs, rfl, rfl, hi', hrow, hus, hmx⟩ := hrel
    have HS := hide hs
    have HR := hide hrow
    have HU := hide hus
    have HX := hide hmx
    obtain ⟨_, _, hvg, hg1, hg2, hc1, hc2⟩ := hrow.sm (by simp)
    cases hvg
    have hul : s.used.length = m := by rw [hs]; exact (unhide HPL _).1
    have hpl : s.ps.length ≤ i := by
      have := (unhide HPL (A.take i)).2
      rw [← hs, List.length_take] at this
      omega
    have HUL := hide hul
    have hsz := hmx.size
    clear hs hrow hus hmx hul
    by_cases h : i < n
    · have i1 : (i : Int) < (n : Int) := by omega
      have i0 : (0 : Int) ≤ (i : Int) := Int.natCast_nonneg _
      have iz : decide ((i : Int) < (n : Int)) = true := decide_eq_true i1
      obtain ⟨ax, hax⟩ := get_some (unhide HAL) h
      obtain ⟨an, rfl, han⟩ := unhide HAN i ax hax
      have HST := hide (unhide HPS i _ hax)
      have HAX := hide hax
      clear hax
      obtain ⟨Wo, hWo⟩ : ∃ Wo, Wo = wr := ⟨_, rfl⟩
      go_wp2_with fail
      go_loopw [14, 16] (fun x z W => ∃ k : Nat, x = .slice (some ⟨g, 0, none⟩) s.ps.length c ∧ z = .int .i64 (k : Int) ∧ k ≤ m ∧ (∀ b ∈ B.take k, okP H S lo hi s.used (an : Int) b = false) ∧ Same Wo W) (fun _ z _ => m - (intOf z).toNat)
      case atStart => exact ⟨0, rfl, rfl, Nat.zero_le _, by simp, by rw [hWo]; exact Same.refl _⟩
      case round =>
        obtain ⟨k, rfl, rfl, hk, hno, hsm⟩ := hrel
        subst hWo
        have HNO := hide hno
        have HSM := hide hsm
        have HX2 := hide ((unhide HX).low (B := Wq.heap.size) hsm.bel (Nat.le_refl _))
        have HR2 := hide ((unhide HR).below hsm.bel)
        have HU2 : Hid (bblk wr gu s.used) := hide (vblk.bel (unhide HU) hsm.bel)
        have hsz2 := (unhide HX2).size
        clear hno hsm
        by_cases h2 : k < m
        · have k1 : (k : Int) < (m : Int) := by omega
          have k0 : (0 : Int) ≤ (k : Int) := Int.natCast_nonneg _
          have kz : decide ((k : Int) < (m : Int)) = true := decide_eq_true k1
          obtain ⟨bx, hbx⟩ := get_some (unhide HBL) h2
          obtain ⟨bn, rfl, hbn⟩ := unhide HBN k bx hbx
          have HBX := hide hbx
          have hbw : Below w.heap.size w wr := (unhide HB4).trans ((unhide HX2).bel hgw (by have := (unhide HB4).size; omega))
          obtain ⟨hb_, ho_, rfl, hbl, ch, gh0, gh1⟩ := unhide HHC wr hbw an han
          obtain ⟨sb_, so_, rfl, sbl, cs, gs0, gs1⟩ := unhide HSC wr hbw bn hbn
          have c1 : wr.cell? ⟨ga, i, none⟩ = some (.int .i64 (an : Int)) := (unhide HX2).cell ha1 ((unhide HRA4).cellAt (unhide HAX))
          have c2 : wr.cell? ⟨gb, k, none⟩ = some (.int .i64 (bn : Int)) := (unhide HX2).cell hb1 ((unhide HRB4).cellAt hbx)
          have c3 : wr.cell? ⟨gu, bn, none⟩ = some (.bool (bt s.used bn)) := (unhide HU2).cell (bt_some (by rw [unhide HUL]; exact hbn))
          have fz : ∀ o, wr.frozen? ⟨gu, o, none⟩ = false := vblk.frozen (unhide HU2)
          have anI : (an : Int) < (n : Int) := by omega
          have bnI : (bn : Int) < (m : Int) := by omega
          have an0 : (0 : Int) ≤ (an : Int) := Int.natCast_nonneg _
          have bn0 : (0 : Int) ≤ (bn : Int) := Int.natCast_nonneg _
          have hok := unhide HFC s.used an bn
          have HOK := hide hok
          have HBW := hide hbw
          have HUSD := hide (bt_some (u := s.used) (i := bn) (by rw [unhide HUL]; exact hbn))
          clear hbx hbw hok
          generalize gt H an = xh at *
          generalize gt S bn = xs at *
          generalize bt s.used bn = ub at *
          have nxt : okP H S lo hi s.used (an : Int) (bn : Int) = false → ∃ k' : Nat, Value.int .i64 ((k : Int) + 1) = .int .i64 (k' : Int) ∧ k' ≤ m ∧ (∀ b ∈ B.take k', okP H S lo hi s.used (an : Int) b = false) := fun e => ⟨k + 1, by simp, h2, (take_succ_mem (unhide HBX) (fun b => okP H S lo hi s.used (an : Int) b = false)).2 ⟨unhide HNO, e⟩⟩
          have NXT := hide nxt
          clear nxt
          cases ub
          · by_cases g1 : lo ≤ xh - xs
            · have d1 : decide (lo ≤ xh - xs) = true := decide_eq_true g1
              by_cases g2 : xh - xs ≤ hi
              · have d2 : decide (xh - xs ≤ hi) = true := decide_eq_true g2
                have hfind : B.find? (fun b => okP H S lo hi s.used (an : Int) b) = some (bn : Int) := find_some_at (unhide HNO) (unhide HBX) (by rw [unhide HOK, d1, d2]; rfl)
                have HS2 : Hid (pgo H S lo hi (A.take (i + 1)) B = ⟨s.used.set bn true, s.ps ++ [((an : Int), (bn : Int))], s.al⟩) := hide (by rw [unhide HST, ← unhide HS]; unfold pstep; rw [hfind]; simp only [Int.toNat_natCast])
                clear hfind
                go_wp2_with fail
                go_quiet (fail)
                have HXd := hide ((unhide HX2).low (B := Wq.heap.size) (w' := wr.drewN nq) ⟨rfl, rfl, rfl, Nat.le_refl _, fun _ _ => rfl⟩ (Nat.le_refl _))
                have HRd := hide ((unhide HR2).below (w' := wr.drewN nq) ⟨rfl, rfl, rfl, Nat.le_refl _, fun _ _ => rfl⟩)
                have HUd : Hid (bblk (wr.drewN nq) gu s.used) := hide (vblk.bel (unhide HU2) ⟨rfl, rfl, rfl, Nat.le_refl _, fun _ _ => rfl⟩)
                have HXs := hide ((unhide HXd).set bn (.bool true))
                have HUs := hide ((unhide HUd).set bn true)
                have hgg : g ≠ gu := by omega
                have HRs : Hid (Row ((wr.drewN nq).setCell ⟨gu, bn, none⟩ (.bool true)) Wq.heap.size 31 2 (.slice (some ⟨g, 0, none⟩) s.ps.length c) s.ps.length (flat2 s.ps)) := hide ((unhide HRd).kept' (fun y hy => by simp only [Value.ownBlock, Option.some.injEq] at hy; subst hy; exact Below.heap_setCell _ _ _ _ hgg))
                have x1 : ((wr.drewN nq).setCell ⟨gu, bn, none⟩ (.bool true)).cell? ⟨ga, i, none⟩ = some (.int .i64 (an : Int)) := (unhide HXs).cell ha1 ((unhide HRA4).cellAt (unhide HAX))
                have x2 : ((wr.drewN nq).setCell ⟨gu, bn, none⟩ (.bool true)).cell? ⟨gb, k, none⟩ = some (.int .i64 (bn : Int)) := (unhide HXs).cell hb1 ((unhide HRB4).cellAt (unhide HBX))
                have hsz3 := (unhide HXs).size
                clear HXd HRd HUd
                go_wp2_with fail
                generalize (wr.drewN nq).setCell ⟨gu, bn, none⟩ (.bool true) = Ws at *
                clear ch cs c1 c2 c3 fz
                go_region_law
                  (first
                  | (refine step_own (by rfl) (.tmp 86) (.tmp 96) _ (by rfl) Wq.heap.size 31 iP _ 2 16 Try.underlying26 hi1 hy0 hy1 hy2 rfl (by omega) (.slice (some ⟨g, 0, none⟩) s.ps.length c) s.ps.length ((flat2 s.ps).map (Value.int .i64)) (by rfl) (by first | exact (unhide HRs).alloc _ | exact ((unhide HRs).alloc _).drew | exact ((unhide HRs).drew.alloc _))
                      ⟨_, 0, none⟩ 1 1 ([(an : Int), (bn : Int)].map (Value.int .i64)) (by rfl) (by rfl) (by first | exact news_cells _ _ rfl | exact news_cells _ _ (by simp) | exact news_drew _ _ (by simp)) ints_one (by unfold maxLen; omega) (by omega) (by simp; omega) ?_; intro v1 w1 hown' hgrow hvn1; have R1 := own_more (wr := Ws) (news := [(an : Int), (bn : Int)]) (by repeat (first | exact Below.refl _ _ | refine Below.alloc ?_ (by first | omega | (simp; omega)) _ | refine Below.drew ?_)) (by simp; omega) (unhide HRs) hown' hgrow; have HR1 := hide R1; have HN1 : Hid (v1 ≠ .slice none 0 0) := hide (fun e => by have := (hvn1.1 e).1; cases this); clear hown' hgrow hvn1 R1))
                all_goals
                  obtain ⟨g2, c2, rfl, hg21, hg22, hc21, hc22⟩ := (unhide HR1).1.sm (unhide HN1)
                  go_wp2_with fail
                  go_roundw
                  case rel =>
                    have hlen : (s.ps ++ [((an : Int), (bn : Int))]).length = s.ps.length + 1 := by simp
                    have Hx : ∃ (i' g' c' : Nat) (s' : PS), s' = pgo H S lo hi (A.take i') B ∧ Value.slice (some ⟨g2, 0, none⟩) (s.ps.length + 1) c2 = .slice (some ⟨g', 0, none⟩) s'.ps.length c' ∧ Value.int .i64 ((i : Int) + 1) = .int .i64 (i' : Int) ∧ i' ≤ n ∧ Row w1 Wq.heap.size 31 2 (.slice (some ⟨g', 0, none⟩) s'.ps.length c') s'.ps.length (flat2 s'.ps) ∧ bblk w1 gu s'.used ∧ Mx gu Wq w1 := by
                      refine ⟨i + 1, g2, c2, _, (unhide HS2).symm, by simp only [hlen], by simp, h, ?_, ?_, (unhide HXs).low (unhide HR1).2 (Nat.le_refl _)⟩
                      · simp only [hlen, flat2_app]
                        exact (unhide HR1).1
                      · exact (((unhide HR1).2.block gu hgu5).trans (unhide HUs))
                    first | exact Hx | ((repeat apply Exists.intro); refine ⟨?_, rfl⟩; exact Hx)
                  case measure => simp only [intOf]; omega
              · have d2 : decide (xh - xs ≤ hi) = false := decide_eq_false g2
                have HN := hide (unhide NXT (by rw [unhide HOK, d1, d2]; rfl))
                go_wp2_with fail
                go_quiet (fail)
                go_wp2_with fail
                go_roundw
                case rel =>
                  obtain ⟨k', e1, e2, e3⟩ := unhide HN
                  have Hx : ∃ k2 : Nat, Value.slice (some ⟨g, 0, none⟩) s.ps.length c = .slice (some ⟨g, 0, none⟩) s.ps.length c ∧ Value.int .i64 ((k : Int) + 1) = .int .i64 (k2 : Int) ∧ k2 ≤ m ∧ (∀ b ∈ B.take k2, okP H S lo hi s.used (an : Int) b = false) ∧ Same Wo (wr.drewN nq) := ⟨k', rfl, e1, e2, e3, ⟨(unhide HSM).os, (unhide HSM).tape, (unhide HSM).output, (unhide HSM).heap⟩⟩
                  first | exact Hx | ((repeat apply Exists.intro); refine ⟨?_, rfl⟩; exact Hx)
                case measure => simp only [intOf]; omega
            · have d1 : decide (lo ≤ xh - xs) = false := decide_eq_false g1
              have HN := hide (unhide NXT (by rw [unhide HOK, d1]; simp))
              go_wp2_with fail
              go_quiet (fail)
              go_wp2_with fail
              go_roundw
              case rel =>
                  obtain ⟨k', e1, e2, e3⟩ := unhide HN
                  have Hx : ∃ k2 : Nat, Value.slice (some ⟨g, 0, none⟩) s.ps.length c = .slice (some ⟨g, 0, none⟩) s.ps.length c ∧ Value.int .i64 ((k : Int) + 1) = .int .i64 (k2 : Int) ∧ k2 ≤ m ∧ (∀ b ∈ B.take k2, okP H S lo hi s.used (an : Int) b = false) ∧ Same Wo (wr.drewN nq) := ⟨k', rfl, e1, e2, e3, ⟨(unhide HSM).os, (unhide HSM).tape, (unhide HSM).output, (unhide HSM).heap⟩⟩
                  first | exact Hx | ((repeat apply Exists.intro); refine ⟨?_, rfl⟩; exact Hx)
              case measure => simp only [intOf]; omega
          · have HN := hide (unhide NXT (by rw [unhide HOK]; rfl))
            go_wp2_with fail
            go_quiet (fail)
            go_wp2_with fail
            go_roundw
            case rel =>
                  obtain ⟨k', e1, e2, e3⟩ := unhide HN
                  have Hx : ∃ k2 : Nat, Value.slice (some ⟨g, 0, none⟩) s.ps.length c = .slice (some ⟨g, 0, none⟩) s.ps.length c ∧ Value.int .i64 ((k : Int) + 1) = .int .i64 (k2 : Int) ∧ k2 ≤ m ∧ (∀ b ∈ B.take k2, okP H S lo hi s.used (an : Int) b = false) ∧ Same Wo (wr.drewN nq) := ⟨k', rfl, e1, e2, e3, ⟨(unhide HSM).os, (unhide HSM).tape, (unhide HSM).output, (unhide HSM).heap⟩⟩
                  first | exact Hx | ((repeat apply Exists.intro); refine ⟨?_, rfl⟩; exact Hx)
            case measure => simp only [intOf]; omega
        · have kz : decide ((k : Int) < (m : Int)) = false := decide_eq_false (by omega)
          have k1 : ¬ (k : Int) < (m : Int) := by omega
          have ek : k = m := by omega
          subst ek
          have hfind : B.find? (fun b => okP H S lo hi s.used (an : Int) b) = none := find_none_take (by rw [unhide HBL]; exact unhide HNO)
          have HS2 : Hid (pgo H S lo hi (A.take (i + 1)) B = ⟨s.used, s.ps, s.al ++ [(an : Int)]⟩) := hide (by rw [unhide HST, ← unhide HS]; unfold pstep; rw [hfind])
          clear hfind
          go_wp2_with fail
          go_roundw
          case rel =>
            refine ⟨i + 1, g, c, ⟨s.used, s.ps, s.al ++ [(an : Int)]⟩, (unhide HS2).symm, rfl, by simp, h, unhide HR2, unhide HU2, unhide HX2⟩
          case measure => simp only [intOf]; omega
    · have iz : decide ((i : Int) < (n : Int)) = false := decide_eq_false (by omega)
      have en : i = n := by omega
      subst en
      have et : A.take i = A := List.take_of_length_le (by rw [unhide HAL]; omega)
      have HS2 : Hid (s = pgo H S lo hi A B) := hide (by rw [unhide HS, et])
      clear et
      go_wp2_with fail
      refine bodyPost_ret (v := .tuple #[.slice (some ⟨g, 0, none⟩) s.ps.length c, .int .i64 0]) (by simp [results, Try.results8, go_sem]) rfl ⟨⟨_, rfl, ?_⟩, (unhide HB4).trans ((unhide HX).bel hgw (by have := (unhide HB4).size; omega))⟩
      rw [← unhide HS2]
      exact ⟨_, c, rfl, fun _ => ⟨g, rfl, (unhide HR).mono (by have := (unhide HB4).size; omega)⟩⟩

/-- the model's, at all lists and bounds -/
theorem mtM_any (u v : Option Addr) (p po n cu q qo m cv : Nat) (H S : List Int) (lo hi : Int) (w : World) (hl : H.length = n) (hm : S.length = m) (hn : n ≤ 1048576) (hm2 : m ≤ 1048576) (hu : Its w u p po H) (hv : Its w v q qo S) :
    Calls Try.prog 8 #[.slice u n cu, .slice v m cv, .int .i64 lo, .int .i64 hi] w fun e w' => (∃ val, e = .returned (.tuple #[val, .int .i64 (mtC H S lo hi)]) ∧ PAt w' w.heap.size val (mtP H S lo hi)) ∧ Below w.heap.size w w' := by
  by_cases hC : mtC H S lo hi = 0
  · have h := mtM_right u v p po n cu q qo m cv H S lo hi w hl hm hu hv hC
    have e : mtP H S lo hi = (pgo H S lo hi (ordL H n) (ordL S m)).ps := by unfold mtP; rw [if_pos hC, hl, hm]
    rw [hC, e]
    exact h
  · have HCD := hide (codeM_any u v p po n cu q qo m cv H S lo hi w hl hm hn hm2 hu hv)
    have e : mtP H S lo hi = [] := by unfold mtP; rw [if_neg hC]
    rw [e]
    have cz : (mtC H S lo hi != 0) = true := by rw [bne_iff_ne]; exact hC
    clear hu hv hC e
    generalize mtC H S lo hi = C at *
    go_enter Try.func8, Try.ntmps8
    go_wp2_with fail
    refine (unhide HCD).mono ?_
    rintro e W1 ⟨rfl, hW1⟩
    have hW1' := hW1.symm
    subst hW1'
    go_wp2_with fail
    exact bodyPost_ret (v := .tuple #[.slice (some ⟨w.heap.size, 0, none⟩) 0 0, .int .i64 C]) (by simp [results, Try.results8, go_sem]) rfl ⟨⟨_, rfl, pat_empty _ _ _ _⟩, ba (Below.refl _ _) _⟩
end Go.Proofs.Ytmoobfbjehgdnaa
