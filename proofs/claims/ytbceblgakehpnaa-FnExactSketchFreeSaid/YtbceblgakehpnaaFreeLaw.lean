/-
  The program's SketchFree answers as the model at every sketch, right or not, writes into none, and its answer owns its memory.
-/
import Derived.Test.YtbceblgakehpnaaFreeG
import Derived.Test.YtbceblgakehpnaaLawKit
import Derived.Test.YtbceblgakehpnaaRows
import Derived.ChangeOld
import Derived.Lib.SmallJoins
namespace Go.Proofs.Ytbceblgakehpnaa
open Go.ChangeShapes Go.WideShapes Go.ChangeAt Go.RowKit Go.Joins
set_option linter.unusedVariables false
set_option linter.unusedSimpArgs false

set_option maxHeartbeats 4000000 in
set_option maxRecDepth 100000 in
theorem fnExactSketchFree_core (n : Int) (u : Option Addr) (l cap p po : Nat) (L : List Int) (nc : Nat) (C : List Int) (ff cc : Int) (w : World) (hn : l ≤ 1048576) (HL : Hid (L.length = l * 4)) (hnc : nc ≤ 60)
    (HX : Hid (l ≠ 0 → u = some ⟨p, po, none⟩ ∧ p < w.heap.size ∧ IntsAt w p po L))
    (HM : Hid (∀ (g : Nat) (W : World), iblk W g 52 L → Calls Try.prog 21 #[skv n (some ⟨g, 0, none⟩) l l] W fun e w' => ∃ v2, e = .returned (.tuple #[.int .i64 ff, v2, .int .i64 cc]) ∧ Sl w' v2 nc C ∧ Below W.heap.size W w'))
    (HP : Hid (∀ (g : Nat) (W : World), iblk W g 52 L → Calls Try.prog 22 #[skv n (some ⟨g, 0, none⟩) l l] W fun e w' => ∃ v2, e = .returned (.tuple #[.int .i64 ff, v2, .int .i64 cc]) ∧ Row w' W.heap.size 3 1 v2 nc C ∧ Below W.heap.size W w')) :
    Calls Try.prog 5 #[skv n u l cap] w fun e w' => e = .returned (.bool true) ∧ Below w.heap.size w w' := by
  have t1 : decide ((1048576 : Int) - (l : Int) < 0) = false := decide_eq_false (by omega)
  have t2 : decide (1 + (l : Int) * 4 < 0) = false := decide_eq_false (by omega)
  have t4 : decide (1 + (nc : Int) * 1 < 0) = false := decide_eq_false (by omega)
  have ec : (cc != cc) = false := by simp
  have ef : (ff != ff) = false := by simp
  have eq1 : (1 + (nc : Int) * 1 != 1 + (nc : Int) * 1) = false := by simp
  have HT := hide (fun W (hW : Below w.heap.size w W) => sk_to n u p po l cap L W (unhide HL) hn (fun h => ⟨(unhide HX h).1, Nat.lt_of_lt_of_le (unhide HX h).2.1 hW.size, (unhide HX h).2.2.below hW (unhide HX h).2.1⟩))
  have HS := hide (fun W => sk_sz_in n u l cap 1048576 W (by omega) (by omega))
  go_enter Try.func5, Try.ntmps5
  go_wp2_with fail
  refine (unhide HS _).mono ?_
  rintro e W0 ⟨rfl, hb⟩
  have a0_W0 : W0.cell? ⟨w.heap.size, 0, none⟩ = some (.int .i64 n) := keep1 hb (by simp [go_sem])
  have a1_W0 : W0.cell? ⟨w.heap.size, 1, none⟩ = some (.slice u l cap) := keep1 hb (by simp [go_sem])
  have HB_W0 : Hid (Below w.heap.size w W0) := hide (bc (ba (Below.refl _ _) _) hb)
  clear hb
  go_wp2_with fail
  refine (unhide HT _ (unhide HB_W0)).mono ?_
  rintro e W1 ⟨⟨g1, rfl, hg1, hk1⟩, hb⟩
  have a0_W1 : W1.cell? ⟨w.heap.size, 0, none⟩ = some (.int .i64 n) := keep1 hb a0_W0
  have a1_W1 : W1.cell? ⟨w.heap.size, 1, none⟩ = some (.slice u l cap) := keep1 hb a1_W0
  have HB_W1 : Hid (Below w.heap.size w W1) := hide (bc (unhide HB_W0) hb)
  have HK1 := hide hk1
  clear hk1 hg1 hb
  clear a0_W0 a1_W0 HB_W0 
  go_wp2_with fail
  refine (unhide HM _ _ (unhide HK1)).mono ?_
  rintro e W2 ⟨v2, rfl, hs2, hb⟩
  have a0_W2 : W2.cell? ⟨w.heap.size, 0, none⟩ = some (.int .i64 n) := keep1 hb a0_W1
  have a1_W2 : W2.cell? ⟨w.heap.size, 1, none⟩ = some (.slice u l cap) := keep1 hb a1_W1
  have HB_W2 : Hid (Below w.heap.size w W2) := hide (bc (unhide HB_W1) hb)
  obtain ⟨ku, kq, kc, rfl, hat2⟩ := hs2.at
  have AT2 := hide hat2
  clear hb hs2 hat2 HK1
  clear a0_W1 a1_W1 HB_W1 
  have lt2 := cell_lt a0_W2
  have HC_W2 : Hid (Below W2.heap.size W2 W2) := hide (Below.refl _ _)
  go_wp2_with fail
  refine (unhide HT _ (unhide HB_W2)).mono ?_
  rintro e W3 ⟨⟨gx, rfl, hgx, hkx⟩, hb⟩
  have a0_W3 : W3.cell? ⟨w.heap.size, 0, none⟩ = some (.int .i64 n) := keep1 hb a0_W2
  have a1_W3 : W3.cell? ⟨w.heap.size, 1, none⟩ = some (.slice u l cap) := keep1 hb a1_W2
  have HB_W3 : Hid (Below w.heap.size w W3) := hide (bc (unhide HB_W2) hb)
  have HC_W3 : Hid (Below W2.heap.size W2 W3) := hide (bc (unhide HC_W2) hb)
  have HX_W3 := hide hkx
  have ltx := hkx.lt
  clear hb hkx
  clear a0_W2 a1_W2 HB_W2 HC_W2 
  have lt3 := cell_lt a0_W3
  go_wp2_with fail
  have hbz := ba (Below.refl W3.heap.size W3) (.cells #[.int .i64 n, .slice (some ⟨gx, 0, none⟩) l l] 29)
  have HBZ := hide hbz
  have HXZ := hide (bel_iblk hbz (unhide HX_W3))
  have z0 : (W3.alloc (.cells #[.int .i64 n, .slice (some ⟨gx, 0, none⟩) l l] 29)).cell? ⟨W3.heap.size, 0, none⟩ = some (.int .i64 n) := by simp [go_sem]
  have z1 : (W3.alloc (.cells #[.int .i64 n, .slice (some ⟨gx, 0, none⟩) l l] 29)).cell? ⟨W3.heap.size, 1, none⟩ = some (.slice (some ⟨gx, 0, none⟩) l l) := by simp [go_sem]
  have hbs : (W3.alloc (.cells #[.int .i64 n, .slice (some ⟨gx, 0, none⟩) l l] 29)).heap.size = W3.heap.size + 1 := by simp
  have HBS := hide hbs
  clear hbz hbs
  refine (unhide HP _ _ (unhide HXZ)).mono ?_
  rintro e W4 ⟨y2, rfl, hr2, hb⟩
  have a0_W4 : W4.cell? ⟨w.heap.size, 0, none⟩ = some (.int .i64 n) := keep1 hb (keep1 (unhide HBZ) a0_W3)
  have a1_W4 : W4.cell? ⟨w.heap.size, 1, none⟩ = some (.slice u l cap) := keep1 hb (keep1 (unhide HBZ) a1_W3)
  have d0_W4 : W4.cell? ⟨W3.heap.size, 0, none⟩ = some (.int .i64 n) := keep1 hb z0
  have d1_W4 : W4.cell? ⟨W3.heap.size, 1, none⟩ = some (.slice (some ⟨gx, 0, none⟩) l l) := keep1 hb z1
  have HB_W4 : Hid (Below w.heap.size w W4) := hide (bc (bc (unhide HB_W3) (unhide HBZ)) hb)
  have HC_W4 : Hid (Below W2.heap.size W2 W4) := hide (bc (bc (unhide HC_W3) (unhide HBZ)) hb)
  have HX_W4 := hide (bel_iblk hb (unhide HXZ))
  obtain ⟨eu, ec_, rfl, _⟩ := hr2.form
  rw [unhide HBS] at hr2
  have R2_W4 := hide hr2
  clear hb hr2 z0 z1 HBZ HXZ HBS
  clear a0_W3 a1_W3 HB_W3 HC_W3 HX_W3 
  go_wp2_with fail
  refine (itR_same _ nc _ _ kq _ _ C _ (unhide R2_W4) (At.of_below (unhide AT2) (Nat.le_refl _) (unhide HC_W4)) (by omega)).mono ?_
  rintro e W6 ⟨rfl, hb⟩
  have a0_W6 : W6.cell? ⟨w.heap.size, 0, none⟩ = some (.int .i64 n) := keep1 hb a0_W4
  have a1_W6 : W6.cell? ⟨w.heap.size, 1, none⟩ = some (.slice u l cap) := keep1 hb a1_W4
  have d0_W6 : W6.cell? ⟨W3.heap.size, 0, none⟩ = some (.int .i64 n) := keep1 hb d0_W4
  have d1_W6 : W6.cell? ⟨W3.heap.size, 1, none⟩ = some (.slice (some ⟨gx, 0, none⟩) l l) := keep1 hb d1_W4
  have HB_W6 : Hid (Below w.heap.size w W6) := hide (bc (unhide HB_W4) hb)
  have HC_W6 : Hid (Below W2.heap.size W2 W6) := hide (bc (unhide HC_W4) hb)
  have R2_W6 := hide ((unhide R2_W4).below hb)
  have HX_W6 := hide (bel_iblk hb (unhide HX_W4))
  clear hb
  clear a0_W4 a1_W4 d0_W4 d1_W4 HB_W4 HC_W4 R2_W4 HX_W4 
  go_wp2_with fail
  go_region_held3 (fun wx => wx.cell? ⟨w.heap.size, 0, none⟩ = some (.int .i64 n) ∧ wx.cell? ⟨w.heap.size, 1, none⟩ = some (.slice u l cap) ∧ wx.cell? ⟨W3.heap.size, 0, none⟩ = some (.int .i64 n) ∧ wx.cell? ⟨W3.heap.size, 1, none⟩ = some (.slice (some ⟨gx, 0, none⟩) l l))
    (simp (maxDischargeDepth := 12) [go_sem, le1, lt1, *])
    (first
    | (go_at_call 9; refine (unhide HT _ (by repeat (first | exact unhide HB_W6 | refine Below.drew ?_))).mono ?_; rintro e W7 ⟨⟨g3, rfl, hg3, hk3⟩, hb⟩; have HB7 := hide hb; have HK3 := hide hk3; have HK5 := hide (bel_iblk hb (unhide HX_W6)); have x0 := keep1 hb (b := w.heap.size) (o := 0) (v := .int .i64 n) a0_W6; have x1 := keep1 hb (b := w.heap.size) (o := 1) (v := .slice u l cap) a1_W6; have x2 := keep1 hb (b := W3.heap.size) (o := 0) (v := .int .i64 n) d0_W6; have x3 := keep1 hb (b := W3.heap.size) (o := 1) (v := .slice (some ⟨gx, 0, none⟩) l l) d1_W6; clear hb hk3 hg3)
    | (go_at_call 11; refine (sk_same n _ _ gx 0 g3 0 l l l L _ (unhide HL) (by omega) (fun _ => ⟨rfl, iblk.lt (unhide HK5), iblk.ints (unhide HK5)⟩) (fun _ => ⟨rfl, iblk.lt (unhide HK3), iblk.ints (unhide HK3)⟩)).mono ?_; rintro e W8 ⟨rfl, hb⟩; have HB8 := hide hb; have HX_W8 := hide (bel_iblk hb (unhide HK5)); have y0 := keep1 hb (b := w.heap.size) (o := 0) (v := .int .i64 n) x0; have y1 := keep1 hb (b := w.heap.size) (o := 1) (v := .slice u l cap) x1; have y2 := keep1 hb (b := W3.heap.size) (o := 0) (v := .int .i64 n) x2; have y3 := keep1 hb (b := W3.heap.size) (o := 1) (v := .slice (some ⟨gx, 0, none⟩) l l) x3; clear hb))
  all_goals
    have hb : Below W6.heap.size W6 W8 := by repeat (first | exact Below.refl _ _ | refine bc ?_ (unhide HB8) | refine bc ?_ (unhide HB7) | refine Below.drew ?_)
    have a0_W8 : W8.cell? ⟨w.heap.size, 0, none⟩ = some (.int .i64 n) := y0
    have a1_W8 : W8.cell? ⟨w.heap.size, 1, none⟩ = some (.slice u l cap) := y1
    have d0_W8 : W8.cell? ⟨W3.heap.size, 0, none⟩ = some (.int .i64 n) := y2
    have d1_W8 : W8.cell? ⟨W3.heap.size, 1, none⟩ = some (.slice (some ⟨gx, 0, none⟩) l l) := y3
    have HB_W8 : Hid (Below w.heap.size w W8) := hide (bc (unhide HB_W6) hb)
    have HC_W8 : Hid (Below W2.heap.size W2 W8) := hide (bc (unhide HC_W6) hb)
    have R2_W8 := hide ((unhide R2_W6).below hb)
    clear hb y0 y1 y2 y3 x0 x1 x2 x3 HB7 HB8 HK3 HK5
    clear a0_W6 a1_W6 d0_W6 d1_W6 HB_W6 HC_W6 R2_W6 HX_W6 
    have HMK := hide (sk_mark n gx l l L 1 W8 (unhide HL) hn (by omega) (by omega) (unhide HX_W8))
    go_wp2_with fail
    refine (unhide HMK).mono ?_
    rintro e W9 ⟨rfl, ht⟩
    have a0_W9 : W9.cell? ⟨w.heap.size, 0, none⟩ = some (.int .i64 n) := ht.cell (by omega) (by omega) a0_W8
    have a1_W9 : W9.cell? ⟨w.heap.size, 1, none⟩ = some (.slice u l cap) := ht.cell (by omega) (by omega) a1_W8
    have HB_W9 : Hid (Below w.heap.size w W9) := hide (Two.bel (unhide HB_W8) ht (by omega) (by omega) (unhide HB_W8).size)
    have HC_W9 : Hid (Below W2.heap.size W2 W9) := hide (Two.bel (unhide HC_W8) ht (by omega) (by omega) (unhide HC_W8).size)
    have R2_W9 := hide ((unhide R2_W8).two ht (by omega))
    clear ht HMK d0_W8 d1_W8 HX_W8
    clear a0_W8 a1_W8 HB_W8 HC_W8 R2_W8 
    go_wp2_with fail
    refine (itR_same _ nc _ _ kq _ _ C _ (unhide R2_W9) (At.of_below (unhide AT2) (Nat.le_refl _) (unhide HC_W9)) (by omega)).mono ?_
    rintro e W12 ⟨rfl, hb⟩
    have a0_W12 : W12.cell? ⟨w.heap.size, 0, none⟩ = some (.int .i64 n) := keep1 hb a0_W9
    have a1_W12 : W12.cell? ⟨w.heap.size, 1, none⟩ = some (.slice u l cap) := keep1 hb a1_W9
    have HB_W12 : Hid (Below w.heap.size w W12) := hide (bc (unhide HB_W9) hb)
    have HC_W12 : Hid (Below W2.heap.size W2 W12) := hide (bc (unhide HC_W9) hb)
    have R2_W12 := hide ((unhide R2_W9).below hb)
    clear hb
    clear a0_W9 a1_W9 HB_W9 HC_W9 R2_W9 
    go_wp2_with fail
    refine (it_markR _ nc _ C 1 _ (by omega) (by omega) (by omega) (unhide R2_W12)).mono ?_
    rintro e W13 ⟨rfl, hr2, hbB, hnl⟩
    have a0_W13 : W13.cell? ⟨w.heap.size, 0, none⟩ = some (.int .i64 n) := (hbB.cell (p := ⟨w.heap.size, 0, none⟩) (show w.heap.size < W3.heap.size + 1 by omega)).trans a0_W12
    have a1_W13 : W13.cell? ⟨w.heap.size, 1, none⟩ = some (.slice u l cap) := (hbB.cell (p := ⟨w.heap.size, 1, none⟩) (show w.heap.size < W3.heap.size + 1 by omega)).trans a1_W12
    have HB_W13 : Hid (Below w.heap.size w W13) := hide ((unhide HB_W12).trans (hbB.mono (by omega)))
    have HC_W13 : Hid (Below W2.heap.size W2 W13) := hide ((unhide HC_W12).trans (hbB.mono (by omega)))
    have R2_W13 := hide hr2
    clear hr2 hbB hnl
    clear a0_W12 a1_W12 HB_W12 HC_W12 R2_W12 
    go_wp2_with fail
    refine (itR_held _ nc _ _ 1 _ (by omega) (by omega) (by omega) (unhide R2_W13)).mono ?_
    rintro e W15 ⟨rfl, hs⟩
    have a0_W15 : W15.cell? ⟨w.heap.size, 0, none⟩ = some (.int .i64 n) := (hs.cell _).trans a0_W13
    have a1_W15 : W15.cell? ⟨w.heap.size, 1, none⟩ = some (.slice u l cap) := (hs.cell _).trans a1_W13
    have HB_W15 : Hid (Below w.heap.size w W15) := hide ((unhide HB_W13).trans hs.bel)
    have HC_W15 : Hid (Below W2.heap.size W2 W15) := hide ((unhide HC_W13).trans hs.bel)
    have R2_W15 := hide ((unhide R2_W13).same hs)
    clear hs
    clear a0_W13 a1_W13 HB_W13 HC_W13 R2_W13 
    go_wp2_with fail
    refine (unhide HT _ (unhide HB_W15)).mono ?_
    rintro e W16 ⟨⟨gy, rfl, hgy, hky⟩, hb⟩
    have HB_W16 : Hid (Below w.heap.size w W16) := hide (bc (unhide HB_W15) hb)
    have HC_W16 : Hid (Below W2.heap.size W2 W16) := hide (bc (unhide HC_W15) hb)
    have R2_W16 := hide ((unhide R2_W15).below hb)
    have HKY := hide hky
    clear hb hky hgy
    clear a0_W15 a1_W15 HB_W15 HC_W15 R2_W15 
    go_wp2_with fail
    refine (unhide HP _ _ (unhide HKY)).mono ?_
    rintro e W17 ⟨y4, rfl, hr4, hb⟩
    have HB_W17 : Hid (Below w.heap.size w W17) := hide (bc (unhide HB_W16) hb)
    have HC_W17 : Hid (Below W2.heap.size W2 W17) := hide (bc (unhide HC_W16) hb)
    have R2_W17 := hide ((unhide R2_W16).below hb)
    obtain ⟨iu, ic, rfl, _⟩ := hr4.form
    have Q2_W17 := hide hr4
    clear hb hr4 HKY
    clear HB_W16 HC_W16 R2_W16 
    go_wp2_with fail
    refine (itR_same _ nc _ _ kq _ _ C _ (unhide Q2_W17) (At.of_below (unhide AT2) (Nat.le_refl _) (unhide HC_W17)) (by omega)).mono ?_
    rintro e W19 ⟨rfl, hb⟩
    have HB_W19 : Hid (Below w.heap.size w W19) := hide (bc (unhide HB_W17) hb)
    have HC_W19 : Hid (Below W2.heap.size W2 W19) := hide (bc (unhide HC_W17) hb)
    have R2_W19 := hide ((unhide R2_W17).below hb)
    clear hb Q2_W17
    clear HB_W17 HC_W17 R2_W17 
    go_wp2_with fail
    refine (itR_held _ nc _ _ 1 _ (by omega) (by omega) (by omega) (unhide R2_W19)).mono ?_
    rintro e W21 ⟨rfl, hs⟩
    have HB_W21 : Hid (Below w.heap.size w W21) := hide ((unhide HB_W19).trans hs.bel)
    have HC_W21 : Hid (Below W2.heap.size W2 W21) := hide ((unhide HC_W19).trans hs.bel)
    have R2_W21 := hide ((unhide R2_W19).same hs)
    clear hs
    clear HB_W19 HC_W19 R2_W19 
    go_wp2_with fail
    go_ret
    exact ⟨rfl, unhide HB_W21⟩
theorem fnExactSketchFree_walk (n : Int) (u : Option Addr) (l cap : Nat) (L : List Int) (w : World) (wn : (Lit.int .i64 n).wf = true) (hn : l ≤ 9223372036854775807) (hl : L.length = l * 4) (hx : l ≠ 0 → ∃ p po, u = some ⟨p, po, none⟩ ∧ p < w.heap.size ∧ IntsAt w p po L) :
    Calls Try.prog 5 #[skv n u l cap] w fun e w' => e = .returned (.bool true) ∧ Below w.heap.size w w' := by
  by_cases hb : l ≤ 1048576
  · obtain ⟨p, po, hx'⟩ : ∃ p po, l ≠ 0 → u = some ⟨p, po, none⟩ ∧ p < w.heap.size ∧ IntsAt w p po L := by
      by_cases h : l = 0
      · exact ⟨0, 0, fun h' => absurd h h'⟩
      · obtain ⟨p, po, h1⟩ := hx h
        exact ⟨p, po, fun _ => h1⟩
    refine fnExactSketchFree_core n u l cap p po L (outS n (toRus L l)).length (nats (outS n (toRus L l))) (outF n (toRus L l)) (outC n (toRus L l)) w hb (hide hl) (outS_le _ _) (hide hx') (hide fun g W hg => ?_) (hide fun g W hg => ?_)
    · exact freeM_any n (some ⟨g, 0, none⟩) g 0 l l (toRus L l) W (toRus_len L l) (by omega) (fun _ => ⟨rfl, hg.lt, rusAt_of hg hl⟩)
    · exact freeP_any n (some ⟨g, 0, none⟩) g 0 l l (toRus L l) W (toRus_len L l) (by omega) (fun _ => ⟨rfl, hg.lt, rusAt_of hg hl⟩)
  · have HX := hide hx
    have HS := hide (fun W => sk_sz_out n u l cap 1048576 W (by omega) (by omega) (by omega) hn)
    clear hx
    go_enter Try.func5, Try.ntmps5
    go_wp2_with fail
    refine (unhide HS _).mono ?_
    rintro e W0 ⟨rfl, hb0⟩
    have HB0 := hide (bc (ba (Below.refl _ _) _) hb0)
    clear hb0
    go_wp2_with fail
    go_ret
    exact ⟨rfl, unhide HB0⟩

theorem fnExactSketchFree_own : ownKnob Try.prog.godebug = none := by kernel_rfl
theorem fnExactSketchFree_laidOut : laidOutB Try.prog = true := by kernel_rfl
theorem cells24 : Try.prog.cellsOf 24 = 2 := by kernel_rfl

set_option maxRecDepth 100000 in
theorem fnExactSketchFree_lifted (os : Os) (started : os.Started) (H : Type) (enc : TypeId × Value → H) :
    ReturnsInHanded {} Try.checked os 5 .any (Rows.fnExactSketchFreeSpec.pre6 enc Try.prog Try.f5 Rows.fnExactSketchFreeRow.domain false) (Rows.fnExactSketchFreeSpec.post enc Try.prog Try.f5 false true false false) := by
  refine returnsInHanded_of_change (C := Try.checked) fnExactSketchFree_own started (by kernel_rfl) Try.func5
    (ChangeSpec.witness6 (enc := enc) (C := Try.checked) false ⟨#[], #[.agg #[.int .i64 0, .slice none 0 0]], []⟩ 8 (by kernel_rfl) (by kernel_rfl) (by kernel_rfl) (by kernel_rfl)) ?_
  intro W base args ds gs before hval0 hW hcnd _
  have hval : ∀ (j : Nat) t v, Try.f5.params[j]? = some t → args[j]? = some v → Value.okWide Try.prog W .any base t v := hval0
  have hW' := hW
  obtain ⟨p, q, hA0, hV, rfl, hfz, hnd⟩ := hW
  have hA : DataW.TrodAll enc Try.prog W 0 (fun _ => true) true Try.f5.params.toList args.toList ds p := hA0
  rw [Try.params5] at hA hval
  obtain ⟨v0, vs0, d0, ds0, p0, q0, hargs, rfl, rfl, h0, r0⟩ := trodAll_cons hA
  obtain ⟨rfl, rfl, rfl⟩ := trodAll_nil r0
  obtain rfl : args = #[v0] := by cases args; simp_all
  obtain ⟨rfl, rfl⟩ := trodVars_none hV
  have k0 := h0
  have lt0 : ∀ x ∈ p0, x.block < W.heap.size := by obtain ⟨m, hm⟩ := k0; exact DataW.trod_lt m _ _ _ hm
  obtain ⟨c0, s0, y0, z0, m0, rfl, rfl, rfl, hy0, hz0⟩ := open_agg2 Try.underlying24 (by kernel_rfl) cells24 (hval 0 24 v0 rfl rfl) h0
  obtain ⟨n0, en0, _, wn0⟩ := DataW.trod_int Try.underlying3 hy0
  simp at en0
  subst en0
  obtain ⟨a0, len0, cap0, L0, hcs0, b0, l0, w0⟩ := open_structs Try.underlying22 Try.underlying77 (k := 4) (by kernel_rfl) (by decide) rfl (by kernel_rfl) hz0
  simp at hcs0
  subst hcs0
  clear hA0 hval0
  refine (fnExactSketchFree_walk n0 a0 len0 cap0 L0 W wn0 b0 l0 w0).mono fun e W' ⟨he, bel⟩ => ?_
  subst he
  exact ⟨_, rfl, _, _, _, [], _, [], hW', trodAll_mk1 (shut_bool Try.underlying4 _), (trodAll_cons_mk (Below.trod fnExactSketchFree_laidOut (by kernel_rfl) (of_decide_eq_true (by kernel_rfl)) k0 bel lt0) trodAll_mk0), rfl, bel.frame _, fun h => by cases h⟩

theorem fnExactSketchFree_over : Rows.fnExactSketchFreeRow.holds Try.pinned (OpenSpec.ofChange Rows.fnExactSketchFreeSpec) :=
  OpenClaim.holds_of_wide 5 Try.f5 rfl rfl rfl rfl rfl rfl rfl ⟨rfl, rfl, rfl, rfl, rfl⟩ rfl rfl rfl rfl rfl (by kernel_rfl) Try.func5 (by kernel_rfl)
    (of_decide_eq_true (by kernel_rfl)) (by unfold Func.isWrapper; first | (rw [if_pos (by decide +kernel)]; kernel_rfl) | (rw [if_neg (by decide +kernel)]; exact ⟨rfl, rfl⟩))
    (fun os started H enc _ => fnExactSketchFree_lifted os started H enc)

/-- The statement, as it was given. -/
theorem fnExactSketchFree_holds : Rows.FnExactSketchFreeSaid := fnExactSketchFree_over
#print axioms fnExactSketchFree_holds
end Go.Proofs.Ytbceblgakehpnaa
