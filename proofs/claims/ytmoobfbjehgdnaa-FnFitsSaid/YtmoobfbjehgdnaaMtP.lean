/-
  The program's pairs, and the holes that stay alone.
-/
import Derived.Test.YtmoobfbjehgdnaaMtFit
import Derived.Test.YtmoobfbjehgdnaaMtM
namespace Go.Proofs.Ytmoobfbjehgdnaa
open Go.ChangeShapes Go.WideShapes Go.ChangeAt Go.RowKit
set_option linter.unusedVariables false
set_option linter.unusedSimpArgs false

theorem btw_fit (H S : List Int) (lo hi : Int) (a b : Nat) : btw (gt H a - gt S b) lo hi = fitB H S lo hi (a : Int) (b : Int) := by
  unfold btw fitB
  rw [Int.toNat_natCast, Int.toNat_natCast]
/-- pairs and lone holes of one's own -/
def PAl (w : World) (B : Nat) (vp va : Value) (s : PS) : Prop := Row w B 31 2 vp s.ps.length (flat2 s.ps) ∧ Row w B 3 1 va s.al.length s.al

set_option maxHeartbeats 8000000 in
set_option maxRecDepth 100000 in
theorem paired_any (u v : Option Addr) (p po n cu q qo m cv : Nat) (H S : List Int) (lo hi : Int) (w : World) (hl : H.length = n) (hm : S.length = m) (hu : Its w u p po H) (hv : Its w v q qo S) (hC : mtC H S lo hi = 0) :
    Calls Try.prog 22 #[.agg #[.slice u n cu, .slice v m cv, .int .i64 lo, .int .i64 hi]] w fun e w' => (∃ vp va, e = .returned (.tuple #[vp, va]) ∧ PAl w' w.heap.size vp va (pgo H S lo hi (ordL H n) (ordL S m))) ∧ Below w.heap.size w w' := by
  obtain ⟨iP, hi1, hy0, hy1, hy2⟩ := info_parts pair_info
  obtain ⟨iI, hj1, hz0, hz1, hz2⟩ := info_parts int_info3
  obtain ⟨hn, hm2, hH, hS, hlo, hlh, hhi⟩ := mtC_ok hC
  rw [hl] at hn
  rw [hm] at hm2
  have HOA := hide (fun (W : World) (hW : Below w.heap.size w W) => by_any u p po n cu H W hl hn (hu.bel hW))
  have HOB := hide (fun (W : World) (hW : Below w.heap.size w W) => by_any v q qo m cv S W hm hm2 (hv.bel hW))
  have hmk := fun W => make_bools (P := Try.prog) 29 4 m Try.underlying29 bool_info (by omega) W
  have HHC : Hid (∀ W, Below w.heap.size w W → ∀ j, j < n → ∃ b o, u = some ⟨b, o, none⟩ ∧ b < w.heap.size ∧ W.cell? ⟨b, o + j, none⟩ = some (.int .i64 (gt H j)) ∧ 0 ≤ gt H j ∧ gt H j ≤ 100000) := hide (fun W hW j hj => by
    have hx := gtk_some (a := H) (i := j) (by omega)
    obtain ⟨h1, h2, h3⟩ := hu.at hx
    exact ⟨p, po, h1, h2, (hW.cell (p := ⟨p, po + j, none⟩) h2).trans h3, hH _ (List.mem_of_getElem? hx)⟩)
  have HSC : Hid (∀ W, Below w.heap.size w W → ∀ j, j < m → ∃ b o, v = some ⟨b, o, none⟩ ∧ b < w.heap.size ∧ W.cell? ⟨b, o + j, none⟩ = some (.int .i64 (gt S j)) ∧ 0 ≤ gt S j ∧ gt S j ≤ 100000) := hide (fun W hW j hj => by
    have hx := gtk_some (a := S) (i := j) (by omega)
    obtain ⟨h1, h2, h3⟩ := hv.at hx
    exact ⟨q, qo, h1, h2, (hW.cell (p := ⟨q, qo + j, none⟩) h2).trans h3, hS _ (List.mem_of_getElem? hx)⟩)
  have HAL := hide (ordL_len H n)
  have HBL := hide (ordL_len S m)
  have HAN := hide (fun (i : Nat) (x : Int) (h : (ordL H n)[i]? = some x) => ordL_nat h)
  have HBN := hide (fun (i : Nat) (x : Int) (h : (ordL S m)[i]? = some x) => ordL_nat h)
  have HBF := hide (btw_fit H S lo hi)
  have HP0 : Hid (pgo H S lo hi [] (ordL S m) = ⟨List.replicate m false, [], []⟩) := hide (by unfold pgo pst0; rw [hm]; rfl)
  have HPL := hide (fun (X : List Int) => pgo_len H S lo hi X (ordL S m))
  rw [hm] at HPL
  have HPS := hide (fun (i : Nat) (a : Int) (h : (ordL H n)[i]? = some a) => pgo_succ (H := H) (S := S) (lo := lo) (hi := hi) (B := ordL S m) h)
  have n0 : (0 : Int) ≤ (n : Int) := Int.natCast_nonneg _
  have m0 : (0 : Int) ≤ (m : Int) := Int.natCast_nonneg _
  have nI : (n : Int) ≤ 200 := by omega
  have mI : (m : Int) ≤ 200 := by omega
  have E66 := enters66
  generalize hZ : (List.replicate m false).map Value.bool = Z at hmk
  have HZ := hide hZ
  clear hu hv hH hS hZ hC hl hm
  generalize ordL H n = A at *
  generalize ordL S m = B at *
  go_enter Try.func22, Try.ntmps22
  go_wp2_with fail
  go_step3
  go_wp2_with fail
  have HB3 := hide (ba (ba (ba (Below.refl w.heap.size w) (.cells #[.slice u n cu, .slice v m cv, .int .i64 lo, .int .i64 hi] 46)) (.cells Z.toArray 4)) (.cells #[.slice (some ⟨w.heap.size + 1, 0, none⟩) m m] 29))
  have y0 : (((w.alloc (.cells #[.slice u n cu, .slice v m cv, .int .i64 lo, .int .i64 hi] 46)).alloc (.cells Z.toArray 4)).alloc (.cells #[.slice (some ⟨w.heap.size + 1, 0, none⟩) m m] 29)).cell? ⟨w.heap.size, 0, none⟩ = some (.slice u n cu) := by simp [go_sem]
  have y1 : (((w.alloc (.cells #[.slice u n cu, .slice v m cv, .int .i64 lo, .int .i64 hi] 46)).alloc (.cells Z.toArray 4)).alloc (.cells #[.slice (some ⟨w.heap.size + 1, 0, none⟩) m m] 29)).cell? ⟨w.heap.size, 1, none⟩ = some (.slice v m cv) := by simp [go_sem]
  have y2 : (((w.alloc (.cells #[.slice u n cu, .slice v m cv, .int .i64 lo, .int .i64 hi] 46)).alloc (.cells Z.toArray 4)).alloc (.cells #[.slice (some ⟨w.heap.size + 1, 0, none⟩) m m] 29)).cell? ⟨w.heap.size, 2, none⟩ = some (.int .i64 lo) := by simp [go_sem]
  have y3 : (((w.alloc (.cells #[.slice u n cu, .slice v m cv, .int .i64 lo, .int .i64 hi] 46)).alloc (.cells Z.toArray 4)).alloc (.cells #[.slice (some ⟨w.heap.size + 1, 0, none⟩) m m] 29)).cell? ⟨w.heap.size, 3, none⟩ = some (.int .i64 hi) := by simp [go_sem]
  have y4 : (((w.alloc (.cells #[.slice u n cu, .slice v m cv, .int .i64 lo, .int .i64 hi] 46)).alloc (.cells Z.toArray 4)).alloc (.cells #[.slice (some ⟨w.heap.size + 1, 0, none⟩) m m] 29)).cell? ⟨w.heap.size + 1 + 1, 0, none⟩ = some (.slice (some ⟨w.heap.size + 1, 0, none⟩) m m) := by simp [go_sem]
  have y5 : bblk (((w.alloc (.cells #[.slice u n cu, .slice v m cv, .int .i64 lo, .int .i64 hi] 46)).alloc (.cells Z.toArray 4)).alloc (.cells #[.slice (some ⟨w.heap.size + 1, 0, none⟩) m m] 29)) (w.heap.size + 1) (List.replicate m false) := by
    unfold bblk
    rw [unhide HZ]
    have := (vblk_new (w.alloc (.cells #[.slice u n cu, .slice v m cv, .int .i64 lo, .int .i64 hi] 46)) 4 Z).bel (ba (Below.refl _ _) (.cells #[.slice (some ⟨w.heap.size + 1, 0, none⟩) m m] 29))
    simpa using this
  have Y0 := hide y0
  have Y1 := hide y1
  have Y2 := hide y2
  have Y3 := hide y3
  have Y4 := hide y4
  have Y5 := hide y5
  clear y0 y1 y2 y3 y4 y5 hmk
  generalize ((w.alloc (.cells #[.slice u n cu, .slice v m cv, .int .i64 lo, .int .i64 hi] 46)).alloc (.cells Z.toArray 4)).alloc (.cells #[.slice (some ⟨w.heap.size + 1, 0, none⟩) m m] 29) = W0 at *
  obtain ⟨bm, hbm⟩ : ∃ bm, w.heap.size = bm := ⟨_, rfl⟩
  obtain ⟨gu, hgu⟩ : ∃ gu, bm + 1 = gu := ⟨_, rfl⟩
  obtain ⟨tb, htb⟩ : ∃ tb, gu + 1 = tb := ⟨_, rfl⟩
  rw [hbm] at Y0 Y1 Y2 Y3 Y4 Y5 HB3 ⊢
  rw [hgu] at Y4 Y5 ⊢
  rw [htb] at Y4 ⊢
  have d1 : bm ≠ gu := by omega
  have d2 : tb ≠ gu := by omega
  have d3 : bm ≤ gu := by omega
  have HBM := hide hbm
  have HB0 : Hid (Below w.heap.size w W0) := hide (by rw [hbm]; exact unhide HB3)
  have hl0 := cell_lt (unhide Y0)
  have hl4 := cell_lt (unhide Y4)
  have hl5 := vblk.lt (unhide Y5)
  clear hbm hgu htb
  refine (unhide HOB _ (unhide HB0)).mono ?_
  rintro e W1 ⟨⟨gb, rfl, hgb0, hkb⟩, hb1⟩
  have HB1 := hide (bc (unhide HB0) hb1)
  have y0 := keep1 hb1 (unhide Y0)
  have Y1' := hide (keep1 hb1 (unhide Y1))
  have Y2' := hide (keep1 hb1 (unhide Y2))
  have Y3' := hide (keep1 hb1 (unhide Y3))
  have Y4' := hide (keep1 hb1 (unhide Y4))
  have Y5' : Hid (bblk W1 gu (List.replicate m false)) := hide (vblk.bel (unhide Y5) hb1)
  have HKB := hide hkb
  have hgb1 : gb < W1.heap.size := hkb.lt
  have hs1 := hb1.size
  clear hb1 hkb Y0 Y1 Y2 Y3 Y4 Y5 HB3 HOB
  go_wp2_with fail
  go_step3
  go_wp2_with fail
  refine (unhide HOA _ (unhide HB1)).mono ?_
  rintro e Wq ⟨⟨ga, rfl, hga0, hka⟩, hb2⟩
  have HBq := hide (bc (unhide HB1) hb2)
  have Z0 := hide (keep1 hb2 y0)
  have Z1 := hide (keep1 hb2 (unhide Y1'))
  have Z2 := hide (keep1 hb2 (unhide Y2'))
  have Z3 := hide (keep1 hb2 (unhide Y3'))
  have Z4 := hide (keep1 hb2 (unhide Y4'))
  have Z5 : Hid (bblk Wq gu (List.replicate m false)) := hide (vblk.bel (unhide Y5') hb2)
  have HKA := hide hka
  have HKB2 := hide ((unhide HKB).bel hb2)
  have hga1 : ga < Wq.heap.size := hka.lt
  have hs2 := hb2.size
  have ha1 : ga ≠ gu := by omega
  have hbg1 : gb ≠ gu := by omega
  have hgb5 : gb < Wq.heap.size := by omega
  have hgu5 : gu < Wq.heap.size := by omega
  have hgw : w.heap.size ≤ gu := by have := unhide HBM; omega
  have hwq : w.heap.size ≤ Wq.heap.size := (unhide HBq).size
  clear hb2 hka y0 Y1' Y2' Y3' Y4' Y5' HKB HOA
  go_wp2_with fail
  go_loopw [7, 8, 25] (fun vp va z W => ∃ (i : Nat) (s : PS), s = pgo H S lo hi (A.take i) B ∧ z = .int .i64 (i : Int) ∧ i ≤ n ∧ Row W Wq.heap.size 31 2 vp s.ps.length (flat2 s.ps) ∧ Row W Wq.heap.size 3 1 va s.al.length s.al ∧ bblk W gu s.used ∧ Mx gu Wq W) (fun _ _ z _ => n - (intOf z).toNat)
  case atStart => exact ⟨0, ⟨List.replicate m false, [], []⟩, (unhide HP0).symm, rfl, Nat.zero_le _, World.ownsRow_nil _ _ _ _, World.ownsRow_nil _ _ _ _, unhide Z5, Mx.refl _ _⟩
  case round =>
    obtain ⟨i, s, hs, rfl, hi', hrp, hra, hus, hmx⟩ := hrel
    have HS := hide hs
    have HRP := hide hrp
    have HRA := hide hra
    have HU := hide hus
    have HX := hide hmx
    have hul : s.used.length = m := by rw [hs]; exact (unhide HPL _).1
    have hpl : s.ps.length ≤ i ∧ s.al.length ≤ i := by
      have := (unhide HPL (A.take i)).2
      rw [← hs, List.length_take] at this
      omega
    obtain ⟨hpl1, hpl2⟩ := hpl
    have HUL := hide hul
    have hsz := hmx.size
    clear hs hrp hra hus hmx hul
    by_cases h : i < n
    · have i1 : (i : Int) < (n : Int) := by omega
      have i0 : (0 : Int) ≤ (i : Int) := Int.natCast_nonneg _
      have iz : decide ((i : Int) < (n : Int)) = true := decide_eq_true i1
      obtain ⟨ax, hax⟩ := get_some (unhide HAL) h
      obtain ⟨an, rfl, han⟩ := unhide HAN i ax hax
      have HST := hide (unhide HPS i _ hax)
      have ca := (unhide HX).cell ha1 ((unhide HKA).cell hax)
      clear hax
      obtain ⟨Wo, hWo⟩ : ∃ Wo, Wo = wr := ⟨_, rfl⟩
      go_wp2_with fail
      go_loopw [7, 31] (fun x z W => ∃ k : Nat, x = u7 ∧ z = .int .i64 (k : Int) ∧ k ≤ m ∧ (∀ b ∈ B.take k, okP H S lo hi s.used (an : Int) b = false) ∧ Below Wo.heap.size Wo W) (fun _ z _ => m - (intOf z).toNat)
      case atStart => exact ⟨0, rfl, rfl, Nat.zero_le _, by simp, by rw [hWo]; exact Below.refl _ _⟩
      case round =>
        obtain ⟨k, rfl, rfl, hk, hno, hsm⟩ := hrel
        subst hWo
        have HNO := hide hno
        have HSM := hide hsm
        have HX2 := hide ((unhide HX).low (B := Wq.heap.size) (hsm.mono hsz) (Nat.le_refl _))
        have HRP2 := hide ((unhide HRP).below hsm)
        have HRA2 := hide ((unhide HRA).below hsm)
        have HU2 : Hid (bblk wr gu s.used) := hide (vblk.bel (unhide HU) hsm)
        have hsz2 := (unhide HX2).size
        clear hno hsm
        by_cases h2 : k < m
        · have k1 : (k : Int) < (m : Int) := by omega
          have k0 : (0 : Int) ≤ (k : Int) := Int.natCast_nonneg _
          have kz : decide ((k : Int) < (m : Int)) = true := decide_eq_true k1
          obtain ⟨bx, hbx⟩ := get_some (unhide HBL) h2
          obtain ⟨bn, rfl, hbn⟩ := unhide HBN k bx hbx
          have HBX := hide hbx
          have hbw : Below w.heap.size w wr := (unhide HBq).trans ((unhide HX2).bel hgw hwq)
          obtain ⟨hb_, ho_, rfl, hbl, ch, gh⟩ := unhide HHC wr hbw an han
          obtain ⟨sb_, so_, rfl, sbl, cs, gs⟩ := unhide HSC wr hbw bn hbn
          have c2 : wr.cell? ⟨gb, k, none⟩ = some (.int .i64 (bn : Int)) := (unhide HX2).cell hbg1 ((unhide HKB2).cell hbx)
          have c3 : wr.cell? ⟨gu, bn, none⟩ = some (.bool (bt s.used bn)) := (unhide HU2).cell (bt_some (by rw [unhide HUL]; exact hbn))
          have c4 : wr.cell? ⟨tb, 0, none⟩ = some (.slice (some ⟨gu, 0, none⟩) m m) := (unhide HX2).cell d2 (unhide Z4)
          have x0 := (unhide HX2).cell d1 (unhide Z0)
          have x1 := (unhide HX2).cell d1 (unhide Z1)
          have x2 := (unhide HX2).cell d1 (unhide Z2)
          have x3 := (unhide HX2).cell d1 (unhide Z3)
          have fz : ∀ o, wr.frozen? ⟨gu, o, none⟩ = false := vblk.frozen (unhide HU2)
          have bnI : (bn : Int) < (m : Int) := by omega
          have bn0 : (0 : Int) ≤ (bn : Int) := Int.natCast_nonneg _
          have HFR := hide (free_any tb gu m bn (bt s.used bn) wr hbn c4 c3)
          have HFT := hide (fit_any hb_ ho_ n cu sb_ so_ m cv an bn lo hi _ _ wr han hbn ch cs gh gs)
          rw [unhide HBF] at HFT
          have hok : okP H S lo hi s.used (an : Int) (bn : Int) = (!(bt s.used bn) && fitB H S lo hi (an : Int) (bn : Int)) := by unfold okP; rw [Int.toNat_natCast]
          have HOK := hide hok
          have HBW := hide hbw
          clear hbx hbw hok ch cs gh gs
          generalize bt s.used bn = ub at *
          generalize fitB H S lo hi (an : Int) (bn : Int) = fb at *
          have nxt : okP H S lo hi s.used (an : Int) (bn : Int) = false → ∃ k' : Nat, Value.int .i64 ((k : Int) + 1) = .int .i64 (k' : Int) ∧ k' ≤ m ∧ (∀ b ∈ B.take k', okP H S lo hi s.used (an : Int) b = false) := fun e => ⟨k + 1, by simp, h2, (take_succ_mem (unhide HBX) (fun b => okP H S lo hi s.used (an : Int) b = false)).2 ⟨unhide HNO, e⟩⟩
          have NXT := hide nxt
          clear nxt
          cases ub
          · go_wp2_with fail
            refine (unhide HFR).mono ?_
            rintro e W5 ⟨rfl, hW5⟩
            have hW5' := hW5.symm
            subst hW5'
            go_wp2_with fail
            refine (unhide HFT).mono ?_
            rintro e W6 ⟨rfl, hb6⟩
            have HB6 := hide hb6
            cases fb
            · have HN := hide (unhide NXT (by rw [unhide HOK]; rfl))
              clear hb6
              go_wp2_with fail
              go_roundw
              case rel =>
                obtain ⟨k', e1, e2, e3⟩ := unhide HN
                have Hx : ∃ k2 : Nat, u7 = u7 ∧ Value.int .i64 ((k : Int) + 1) = .int .i64 (k2 : Int) ∧ k2 ≤ m ∧ (∀ b ∈ B.take k2, okP H S lo hi s.used (an : Int) b = false) ∧ Below Wo.heap.size Wo W6 := ⟨k', rfl, e1, e2, e3, bc (unhide HSM) (unhide HB6)⟩
                first | exact Hx | ((repeat apply Exists.intro); refine ⟨?_, rfl⟩; exact Hx)
              case measure => simp only [intOf]; omega
            · have hfind : B.find? (fun b => okP H S lo hi s.used (an : Int) b) = some (bn : Int) := find_some_at (unhide HNO) (unhide HBX) (by rw [unhide HOK]; rfl)
              have HS2 : Hid (pgo H S lo hi (A.take (i + 1)) B = ⟨s.used.set bn true, s.ps ++ [((an : Int), (bn : Int))], s.al⟩) := hide (by rw [unhide HST, ← unhide HS]; unfold pstep; rw [hfind]; simp only [Int.toNat_natCast])
              have b4 := keep1 hb6 c4
              have b3 := keep1 hb6 c3
              have bz : ∀ o, W6.frozen? ⟨gu, o, none⟩ = false := fun o => keepz hb6 (cell_lt c3) (fz o)
              have HX6 := hide ((unhide HX2).low (B := Wq.heap.size) (hb6.mono hsz2) (Nat.le_refl _))
              have HRP6 := hide ((unhide HRP2).below hb6)
              have HRA6 := hide ((unhide HRA2).below hb6)
              have HU6 : Hid (bblk W6 gu s.used) := hide (vblk.bel (unhide HU2) hb6)
              have HXs := hide ((unhide HX6).set bn (.bool true))
              have HUs := hide ((unhide HU6).set bn true)
              have kpt : ∀ {B' t k n' : Nat} {v' : Value} {L : List Int}, Wq.heap.size ≤ B' → Row W6 B' t k v' n' L → Row (W6.setCell ⟨gu, bn, none⟩ (.bool true)) B' t k v' n' L := fun {B' t k n' v' L} hB hr => hr.kept' (fun y hy => by have := (World.ownsRow.lt hr y hy).1; exact Below.heap_setCell _ _ _ _ (show y ≠ gu by omega))
              have HRPs := hide (kpt (Nat.le_refl _) (unhide HRP6))
              have HRAs := hide (kpt (Nat.le_refl _) (unhide HRA6))
              have hszs := (unhide HXs).size
              clear hfind hb6 c3 c4 fz kpt HX6 HRP6 HRA6 HU6 c2 x0 x1 x2 x3
              go_wp2_with (at_builtin; refine unhide ?_)
              refine hide ?_
              clear b3 b4 bz
              have hsw : W6.heap.size = (W6.setCell ⟨gu, bn, none⟩ (.bool true)).heap.size := by simp [World.setCell]
              generalize W6.setCell ⟨gu, bn, none⟩ (.bool true) = Ws at *
              refine wpList_append_own _ rfl _ _ 26 rfl Wq.heap.size 31 iP _ 2 16 Try.underlying26 hi1 hy0 hy1 hy2 rfl (by decide) _ s.ps.length ((flat2 s.ps).map (Value.int .i64)) rfl ((unhide HRPs).alloc _) _ 1 1 ([(an : Int), (bn : Int)].map (Value.int .i64)) rfl rfl (by first | exact news_cells _ _ hsw | exact news_cells _ _ rfl | exact news_cells _ _ (by simp) | exact news_drew _ _ (by simp)) ints_one (by unfold maxLen; omega) (by omega) (by first | omega | (simp; omega)) ?_
              intro v1 w1 hown' hgrow hvn1
              have R1 := own_more (wr := Ws) (news := [(an : Int), (bn : Int)]) (by repeat (first | exact Below.refl _ _ | refine Below.alloc ?_ (by first | omega | (simp; omega)) _ | refine Below.drew ?_)) (by simp; omega) (unhide HRPs) hown' hgrow
              have hra1 : Row w1 Wq.heap.size 3 1 u8 s.al.length s.al := (unhide HRAs).kept' (fun y hy => by
                have hne := rows_ne (unhide HRAs) (unhide HRPs) (by decide) y hy
                have hlt := World.ownsRow.lt (unhide HRAs) y hy
                exact (hgrow.block y (by first | omega | (simp; omega)) (fun e => hne e.symm)).trans (Below.heap_alloc _ _ _ hlt.2))
              have HR1 := hide R1
              have HRA1 := hide hra1
              clear hown' hgrow hvn1 R1 hra1 hsw
              go_wp2_with fail
              go_roundw
              case rel =>
                have hlen : (s.ps ++ [((an : Int), (bn : Int))]).length = s.ps.length + 1 := by simp
                have Hx : ∃ (i' : Nat) (s' : PS), s' = pgo H S lo hi (A.take i') B ∧ Value.int .i64 ((i : Int) + 1) = .int .i64 (i' : Int) ∧ i' ≤ n ∧ Row w1 Wq.heap.size 31 2 v1 s'.ps.length (flat2 s'.ps) ∧ Row w1 Wq.heap.size 3 1 u8 s'.al.length s'.al ∧ bblk w1 gu s'.used ∧ Mx gu Wq w1 := by
                  refine ⟨i + 1, _, (unhide HS2).symm, by simp, h, ?_, unhide HRA1, ?_, (unhide HXs).low (unhide HR1).2 (Nat.le_refl _)⟩
                  · simp only [hlen, flat2_app]
                    exact (unhide HR1).1
                  · exact (((unhide HR1).2.block gu hgu5).trans (unhide HUs))
                first | exact Hx | ((repeat apply Exists.intro); refine ⟨?_, rfl⟩; exact Hx)
              case measure => simp only [intOf]; omega
          · have HN := hide (unhide NXT (by rw [unhide HOK]; rfl))
            go_wp2_with fail
            refine (unhide HFR).mono ?_
            rintro e W5 ⟨rfl, hW5⟩
            have hW5' := hW5.symm
            subst hW5'
            go_wp2_with fail
            go_roundw
            case rel =>
              obtain ⟨k', e1, e2, e3⟩ := unhide HN
              have Hx : ∃ k2 : Nat, u7 = u7 ∧ Value.int .i64 ((k : Int) + 1) = .int .i64 (k2 : Int) ∧ k2 ≤ m ∧ (∀ b ∈ B.take k2, okP H S lo hi s.used (an : Int) b = false) ∧ Below Wo.heap.size Wo wr := ⟨k', rfl, e1, e2, e3, unhide HSM⟩
              first | exact Hx | ((repeat apply Exists.intro); refine ⟨?_, rfl⟩; exact Hx)
            case measure => simp only [intOf]; omega
        · have kz : decide ((k : Int) < (m : Int)) = false := decide_eq_false (by omega)
          have k1 : ¬ (k : Int) < (m : Int) := by omega
          have ek : k = m := by omega
          subst ek
          have hfind : B.find? (fun b => okP H S lo hi s.used (an : Int) b) = none := find_none_take (by rw [unhide HBL]; exact unhide HNO)
          have HS2 : Hid (pgo H S lo hi (A.take (i + 1)) B = ⟨s.used, s.ps, s.al ++ [(an : Int)]⟩) := hide (by rw [unhide HST, ← unhide HS]; unfold pstep; rw [hfind])
          clear hfind
          go_wp2_with (at_builtin; refine unhide ?_)
          refine hide ?_
          refine wpList_append_own _ rfl _ _ 23 rfl Wq.heap.size 3 iI _ 1 8 Try.underlying23 hj1 hz0 hz1 hz2 rfl (by decide) _ s.al.length (s.al.map (Value.int .i64)) rfl ((unhide HRA2).alloc _) ⟨wr.heap.size, 0, none⟩ 1 1 ([(an : Int)].map (Value.int .i64)) rfl rfl (news_cells _ _ rfl) ints_one (by unfold maxLen; omega) (by omega) (by first | omega | (simp; omega)) ?_
          intro v1 w1 hown' hgrow hvn1
          have R1 := own_more (wr := wr) (news := [(an : Int)]) (by repeat (first | exact Below.refl _ _ | refine Below.alloc ?_ (by first | omega | (simp; omega)) _ | refine Below.drew ?_)) (by simp; omega) (unhide HRA2) hown' hgrow
          have hrp1 : Row w1 Wq.heap.size 31 2 u7 s.ps.length (flat2 s.ps) := (unhide HRP2).kept' (fun y hy => by
            have hne := rows_ne (unhide HRP2) (unhide HRA2) (by decide) y hy
            have hlt := World.ownsRow.lt (unhide HRP2) y hy
            exact (hgrow.block y (by first | omega | (simp; omega)) (fun e => hne e.symm)).trans (Below.heap_alloc _ _ _ hlt.2))
          have HR1 := hide R1
          have HRP1 := hide hrp1
          clear hown' hgrow hvn1 R1 hrp1
          go_wp2_with fail
          go_roundw
          case rel =>
            have hlen : (s.al ++ [(an : Int)]).length = s.al.length + 1 := by simp
            have Hx : ∃ (i' : Nat) (s' : PS), s' = pgo H S lo hi (A.take i') B ∧ Value.int .i64 ((i : Int) + 1) = .int .i64 (i' : Int) ∧ i' ≤ n ∧ Row w1 Wq.heap.size 31 2 u7 s'.ps.length (flat2 s'.ps) ∧ Row w1 Wq.heap.size 3 1 v1 s'.al.length s'.al ∧ bblk w1 gu s'.used ∧ Mx gu Wq w1 := by
              refine ⟨i + 1, _, (unhide HS2).symm, by simp, h, unhide HRP1, ?_, ?_, (unhide HX2).low (unhide HR1).2 (Nat.le_refl _)⟩
              · simp only [hlen]
                exact (unhide HR1).1
              · exact (((unhide HR1).2.block gu hgu5).trans (unhide HU2))
            first | exact Hx | ((repeat apply Exists.intro); refine ⟨?_, rfl⟩; exact Hx)
          case measure => simp only [intOf]; omega
    · have iz : decide ((i : Int) < (n : Int)) = false := decide_eq_false (by omega)
      have en : i = n := by omega
      subst en
      have et : A.take i = A := List.take_of_length_le (by rw [unhide HAL]; omega)
      have HS2 : Hid (s = pgo H S lo hi A B) := hide (by rw [unhide HS, et])
      clear et
      go_wp2_with fail
      rw [Exit.noGoto_ret]
      refine bodyPost_ret (v := .tuple #[u7, u8]) (by simp [results, Try.results22, go_sem]) rfl ⟨⟨u7, u8, rfl, ?_⟩, (unhide HBq).trans ((unhide HX).bel hgw hwq)⟩
      rw [← unhide HS2]
      exact ⟨(unhide HRP).mono hwq, (unhide HRA).mono hwq⟩
end Go.Proofs.Ytmoobfbjehgdnaa
