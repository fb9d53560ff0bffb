/-
  The program's SketchMove answers as the model at every sketch, point and place, writes into none, and its answer owns its memory.
-/
import Derived.Test.YtbceblgakehpnaaMoveP
import Derived.Test.YtbceblgakehpnaaLawKit
import Derived.Test.YtbceblgakehpnaaRows
import Derived.ChangeOld
import Derived.Lib.SmallJoins
namespace Go.Proofs.Ytbceblgakehpnaa
open Go.ChangeShapes Go.WideShapes Go.ChangeAt Go.RowKit Go.Joins
set_option linter.unusedVariables false
set_option linter.unusedSimpArgs false

theorem pt_conv (x y : Int) (w : World) : Calls Try.prog 24 #[.agg #[.int .i64 x, .int .i64 y]] w fun e w' => e = .returned (.agg #[.int .i64 x, .int .i64 y]) ∧ Below w.heap.size w w' := by
  go_enter Try.func24, Try.ntmps24
  go_wp2
  exact bodyPost_ret (v := .agg #[.int .i64 x, .int .i64 y]) (by simp [results, Try.results24, go_sem]) rfl ⟨rfl, by repeat (first | exact Below.refl _ _ | refine ba ?_ _)⟩

set_option maxHeartbeats 4000000 in
set_option maxRecDepth 100000 in
theorem fnExactSketchMove_core (n pt x y : Int) (u : Option Addr) (l cap p po : Nat) (L : List Int) (np nc : Nat) (P C : List Int) (cc : Int) (w : World) (hn : l ≤ 1048576) (HL : Hid (L.length = l * 4)) (hnp : np ≤ 24) (hnc : nc ≤ 60)
    (HX : Hid (l ≠ 0 → u = some ⟨p, po, none⟩ ∧ p < w.heap.size ∧ IntsAt w p po L))
    (HM : Hid (∀ (g : Nat) (W : World), iblk W g 52 L → Calls Try.prog 23 #[skv n (some ⟨g, 0, none⟩) l l, .int .i64 pt, .agg #[.int .i64 x, .int .i64 y]] W fun e w' => ∃ v1 v2, e = .returned (.tuple #[v1, .int .i64 cc, v2]) ∧ Sl w' v1 np P ∧ Sl w' v2 nc C ∧ Below W.heap.size W w'))
    (HP : Hid (∀ (g : Nat) (W : World), iblk W g 52 L → Calls Try.prog 25 #[skv n (some ⟨g, 0, none⟩) l l, .int .i64 pt, .agg #[.int .i64 x, .int .i64 y]] W fun e w' => ∃ v1 v2, e = .returned (.tuple #[v1, .int .i64 cc, v2]) ∧ Row w' W.heap.size 47 2 v1 np P ∧ Row w' W.heap.size 3 1 v2 nc C ∧ (v1 = .slice none 0 0 ∨ v2 = .slice none 0 0) ∧ Below W.heap.size W w')) :
    Calls Try.prog 6 #[skv n u l cap, .int .i64 pt, .agg #[.int .i64 x, .int .i64 y]] w fun e w' => e = .returned (.bool true) ∧ Below w.heap.size w w' := by
  have t1 : decide ((1048576 : Int) - (l : Int) < 0) = false := decide_eq_false (by omega)
  have t2 : decide (1 + (l : Int) * 4 < 0) = false := decide_eq_false (by omega)
  have t3 : decide (1 + (np : Int) * 2 < 0) = false := decide_eq_false (by omega)
  have t4 : decide (1 + (np : Int) * 2 + (nc : Int) * 1 < 0) = false := decide_eq_false (by omega)
  have ec : (cc != cc) = false := by simp
  have eq1 : (1 + (np : Int) * 2 + (nc : Int) * 1 != 1 + (np : Int) * 2 + (nc : Int) * 1) = false := by simp
  have HT := hide (fun W (hW : Below w.heap.size w W) => sk_to n u p po l cap L W (unhide HL) hn (fun h => ⟨(unhide HX h).1, Nat.lt_of_lt_of_le (unhide HX h).2.1 hW.size, (unhide HX h).2.2.below hW (unhide HX h).2.1⟩))
  have HS := hide (fun W => sk_sz_in n u l cap 1048576 W (by omega) (by omega))
  have HPC := hide (fun W => pt_conv x y W)
  go_enter Try.func6, Try.ntmps6
  go_wp2_with fail
  refine (unhide HS _).mono ?_
  rintro e W0 ⟨rfl, hb⟩
  have a0_W0 : W0.cell? ⟨w.heap.size, 0, none⟩ = some (.int .i64 n) := keep1 hb (by simp [go_sem])
  have a1_W0 : W0.cell? ⟨w.heap.size, 1, none⟩ = some (.slice u l cap) := keep1 hb (by simp [go_sem])
  have e0_W0 : W0.cell? ⟨w.heap.size + 1, 0, none⟩ = some (.int .i64 x) := keep1 hb (by simp [go_sem])
  have e1_W0 : W0.cell? ⟨w.heap.size + 1, 1, none⟩ = some (.int .i64 y) := keep1 hb (by simp [go_sem])
  have HB_W0 : Hid (Below w.heap.size w W0) := hide (bc (ba (ba (Below.refl _ _) _) _) hb)
  clear hb
  go_wp2_with fail
  go_region_held3 (fun wx => wx.cell? ⟨w.heap.size, 0, none⟩ = some (.int .i64 n) ∧ wx.cell? ⟨w.heap.size, 1, none⟩ = some (.slice u l cap) ∧ wx.cell? ⟨w.heap.size + 1, 0, none⟩ = some (.int .i64 x) ∧ wx.cell? ⟨w.heap.size + 1, 1, none⟩ = some (.int .i64 y))
    (simp (maxDischargeDepth := 12) [go_sem, le1, lt1, *])
    (first
    | (go_at_call 9; refine (unhide HT _ (by repeat (first | exact unhide HB_W0 | refine Below.drew ?_))).mono ?_; rintro e W1 ⟨⟨g1, rfl, hg1, hk1⟩, hb⟩; have HB1x := hide hb; have HK1 := hide hk1; have x_a0 := keep1 hb (b := w.heap.size) (o := 0) (v := .int .i64 n) a0_W0; have x_a1 := keep1 hb (b := w.heap.size) (o := 1) (v := .slice u l cap) a1_W0; have x_e0 := keep1 hb (b := w.heap.size + 1) (o := 0) (v := .int .i64 x) e0_W0; have x_e1 := keep1 hb (b := w.heap.size + 1) (o := 1) (v := .int .i64 y) e1_W0; clear hb hk1 hg1)
    | (go_at_call 24; refine (unhide HPC _).mono ?_; rintro e W1b ⟨rfl, hb⟩; have HB1y := hide hb; have HK1b := hide (bel_iblk hb (unhide HK1)); have y_a0 := keep1 hb (b := w.heap.size) (o := 0) (v := .int .i64 n) x_a0; have y_a1 := keep1 hb (b := w.heap.size) (o := 1) (v := .slice u l cap) x_a1; have y_e0 := keep1 hb (b := w.heap.size + 1) (o := 0) (v := .int .i64 x) x_e0; have y_e1 := keep1 hb (b := w.heap.size + 1) (o := 1) (v := .int .i64 y) x_e1; clear hb)
    | (go_at_call 23; refine (unhide HM _ _ (by exact unhide HK1b)).mono ?_; rintro e W2 ⟨v1, v2, rfl, hs1, hs2, hb⟩; have HB2x := hide hb; have HS1 := hide hs1; have HS2 := hide hs2; have z_a0 := keep1 hb (b := w.heap.size) (o := 0) (v := .int .i64 n) y_a0; have z_a1 := keep1 hb (b := w.heap.size) (o := 1) (v := .slice u l cap) y_a1; have z_e0 := keep1 hb (b := w.heap.size + 1) (o := 0) (v := .int .i64 x) y_e0; have z_e1 := keep1 hb (b := w.heap.size + 1) (o := 1) (v := .int .i64 y) y_e1; clear hb hs1 hs2))
  all_goals
    have a0_W2 : W2.cell? ⟨w.heap.size, 0, none⟩ = some (.int .i64 n) := z_a0
    have a1_W2 : W2.cell? ⟨w.heap.size, 1, none⟩ = some (.slice u l cap) := z_a1
    have e0_W2 : W2.cell? ⟨w.heap.size + 1, 0, none⟩ = some (.int .i64 x) := z_e0
    have e1_W2 : W2.cell? ⟨w.heap.size + 1, 1, none⟩ = some (.int .i64 y) := z_e1
    have HB_W2 : Hid (Below w.heap.size w W2) := hide (by repeat (first | exact unhide HB_W0 | refine bc ?_ (unhide HB2x) | refine bc ?_ (unhide HB1y) | refine bc ?_ (unhide HB1x) | refine Below.drew ?_))
    obtain ⟨wu, wq, wc, rfl, hat1⟩ := (unhide HS1).at
    obtain ⟨ku, kq, kc, rfl, hat2⟩ := (unhide HS2).at
    have AT1 := hide hat1
    have AT2 := hide hat2
    clear hat1 hat2 HK1 HK1b HB1x HB1y HB2x HS1 HS2 z_a0 z_a1 z_e0 z_e1 y_a0 y_a1 y_e0 y_e1 x_a0 x_a1 x_e0 x_e1
    clear a0_W0 a1_W0 e0_W0 e1_W0 HB_W0
    have lt2 := cell_lt a0_W2
    have lt2e := cell_lt e0_W2
    have HC_W2 : Hid (Below W2.heap.size W2 W2) := hide (Below.refl _ _)
    go_wp2_with fail
    refine (unhide HT _ (unhide HB_W2)).mono ?_
    rintro e W3 ⟨⟨gx, rfl, hgx, hkx⟩, hb⟩
    have a0_W3 : W3.cell? ⟨w.heap.size, 0, none⟩ = some (.int .i64 n) := keep1 hb a0_W2
    have a1_W3 : W3.cell? ⟨w.heap.size, 1, none⟩ = some (.slice u l cap) := keep1 hb a1_W2
    have e0_W3 : W3.cell? ⟨w.heap.size + 1, 0, none⟩ = some (.int .i64 x) := keep1 hb e0_W2
    have e1_W3 : W3.cell? ⟨w.heap.size + 1, 1, none⟩ = some (.int .i64 y) := keep1 hb e1_W2
    have HB_W3 : Hid (Below w.heap.size w W3) := hide (bc (unhide HB_W2) hb)
    have HC_W3 : Hid (Below W2.heap.size W2 W3) := hide (bc (unhide HC_W2) hb)
    have HX_W3 := hide hkx
    have ltx := hkx.lt
    clear hb hkx
    clear a0_W2 a1_W2 e0_W2 e1_W2 HB_W2 HC_W2
    have lt3 := cell_lt a0_W3
    have lt3e := cell_lt e0_W3
    go_wp2_with fail
    have hb := ba (Below.refl W3.heap.size W3) (.cells #[.int .i64 n, .slice (some ⟨gx, 0, none⟩) l l] 29)
    have d0_V : (W3.alloc (.cells #[.int .i64 n, .slice (some ⟨gx, 0, none⟩) l l] 29)).cell? ⟨W3.heap.size, 0, none⟩ = some (.int .i64 n) := by simp [go_sem]
    have d1_V : (W3.alloc (.cells #[.int .i64 n, .slice (some ⟨gx, 0, none⟩) l l] 29)).cell? ⟨W3.heap.size, 1, none⟩ = some (.slice (some ⟨gx, 0, none⟩) l l) := by simp [go_sem]
    have hbs : (W3.alloc (.cells #[.int .i64 n, .slice (some ⟨gx, 0, none⟩) l l] 29)).heap.size = W3.heap.size + 1 := by simp
    generalize W3.alloc (.cells #[.int .i64 n, .slice (some ⟨gx, 0, none⟩) l l] 29) = V at *
    have a0_V : V.cell? ⟨w.heap.size, 0, none⟩ = some (.int .i64 n) := keep1 hb a0_W3
    have a1_V : V.cell? ⟨w.heap.size, 1, none⟩ = some (.slice u l cap) := keep1 hb a1_W3
    have e0_V : V.cell? ⟨w.heap.size + 1, 0, none⟩ = some (.int .i64 x) := keep1 hb e0_W3
    have e1_V : V.cell? ⟨w.heap.size + 1, 1, none⟩ = some (.int .i64 y) := keep1 hb e1_W3
    have HB_V : Hid (Below w.heap.size w V) := hide (bc (unhide HB_W3) hb)
    have HC_V : Hid (Below W2.heap.size W2 V) := hide (bc (unhide HC_W3) hb)
    have HX_V := hide (bel_iblk hb (unhide HX_W3))
    clear hb
    clear a0_W3 a1_W3 e0_W3 e1_W3 HB_W3 HC_W3 HX_W3
    go_region_held3 (fun wx => wx.cell? ⟨w.heap.size, 0, none⟩ = some (.int .i64 n) ∧ wx.cell? ⟨w.heap.size, 1, none⟩ = some (.slice u l cap) ∧ wx.cell? ⟨w.heap.size + 1, 0, none⟩ = some (.int .i64 x) ∧ wx.cell? ⟨w.heap.size + 1, 1, none⟩ = some (.int .i64 y) ∧ wx.cell? ⟨W3.heap.size, 0, none⟩ = some (.int .i64 n) ∧ wx.cell? ⟨W3.heap.size, 1, none⟩ = some (.slice (some ⟨gx, 0, none⟩) l l))
      (simp (maxDischargeDepth := 12) [go_sem, le1, lt1, *])
      (first
      | (go_at_call 24; refine (unhide HPC _).mono ?_; rintro e W3b ⟨rfl, hb⟩; have HB3y := hide hb; have HX3b := hide (bel_iblk hb (unhide HX_V)); have y_a0 := keep1 hb (b := w.heap.size) (o := 0) (v := .int .i64 n) a0_V; have y_a1 := keep1 hb (b := w.heap.size) (o := 1) (v := .slice u l cap) a1_V; have y_e0 := keep1 hb (b := w.heap.size + 1) (o := 0) (v := .int .i64 x) e0_V; have y_e1 := keep1 hb (b := w.heap.size + 1) (o := 1) (v := .int .i64 y) e1_V; have y_d0 := keep1 hb (b := W3.heap.size) (o := 0) (v := .int .i64 n) d0_V; have y_d1 := keep1 hb (b := W3.heap.size) (o := 1) (v := .slice (some ⟨gx, 0, none⟩) l l) d1_V; clear hb)
      | (go_at_call 25; refine (unhide HP _ _ (by exact unhide HX3b)).mono ?_; rintro e W4 ⟨y1, y2, rfl, hr0, hr2, hnil, hb⟩; have HB4x := hide hb; have HR0 := hide hr0; have HR2 := hide hr2; have HNIL := hide hnil; have z_a0 := keep1 hb (b := w.heap.size) (o := 0) (v := .int .i64 n) y_a0; have z_a1 := keep1 hb (b := w.heap.size) (o := 1) (v := .slice u l cap) y_a1; have z_e0 := keep1 hb (b := w.heap.size + 1) (o := 0) (v := .int .i64 x) y_e0; have z_e1 := keep1 hb (b := w.heap.size + 1) (o := 1) (v := .int .i64 y) y_e1; have z_d0 := keep1 hb (b := W3.heap.size) (o := 0) (v := .int .i64 n) y_d0; have z_d1 := keep1 hb (b := W3.heap.size) (o := 1) (v := .slice (some ⟨gx, 0, none⟩) l l) y_d1; clear hb hr0 hr2 hnil))
    all_goals
      have a0_W4 : W4.cell? ⟨w.heap.size, 0, none⟩ = some (.int .i64 n) := z_a0
      have a1_W4 : W4.cell? ⟨w.heap.size, 1, none⟩ = some (.slice u l cap) := z_a1
      have e0_W4 : W4.cell? ⟨w.heap.size + 1, 0, none⟩ = some (.int .i64 x) := z_e0
      have e1_W4 : W4.cell? ⟨w.heap.size + 1, 1, none⟩ = some (.int .i64 y) := z_e1
      have d0_W4 : W4.cell? ⟨W3.heap.size, 0, none⟩ = some (.int .i64 n) := z_d0
      have d1_W4 : W4.cell? ⟨W3.heap.size, 1, none⟩ = some (.slice (some ⟨gx, 0, none⟩) l l) := z_d1
      have hbV : Below V.heap.size V W4 := by repeat (first | exact Below.refl _ _ | refine bc ?_ (unhide HB4x) | refine bc ?_ (unhide HB3y) | refine Below.drew ?_)
      have hbV3 : Below V.heap.size V W3b := by repeat (first | exact Below.refl _ _ | refine bc ?_ (unhide HB3y) | refine Below.drew ?_)
      have HB_W4 : Hid (Below w.heap.size w W4) := hide (bc (unhide HB_V) hbV)
      have HC_W4 : Hid (Below W2.heap.size W2 W4) := hide (bc (unhide HC_V) hbV)
      have HX_W4 := hide (bel_iblk hbV (unhide HX_V))
      have hbs3 := hbV3.size
      obtain ⟨gu, gc, rfl, _⟩ := (unhide HR0).form
      obtain ⟨eu, ec_, rfl, _⟩ := (unhide HR2).form
      have R0_W4 := hide ((unhide HR0).mono (show W3.heap.size + 1 ≤ W3b.heap.size by omega))
      have R2_W4 := hide ((unhide HR2).mono (show W3.heap.size + 1 ≤ W3b.heap.size by omega))
      clear hbV hbV3 hbs3 hbs HR0 HR2 HB3y HB4x HX3b z_a0 z_a1 z_e0 z_e1 z_d0 z_d1 y_a0 y_a1 y_e0 y_e1 y_d0 y_d1
      clear a0_V a1_V e0_V e1_V d0_V d1_V HB_V HC_V HX_V
      go_wp2_with fail
      refine (ptR_same _ np _ _ wq _ _ P _ (unhide R0_W4) (At.of_below (unhide AT1) (Nat.le_refl _) (unhide HC_W4)) (by omega)).mono ?_
      rintro e W5 ⟨rfl, hb⟩
      have a0_W5 : W5.cell? ⟨w.heap.size, 0, none⟩ = some (.int .i64 n) := keep1 hb a0_W4
      have a1_W5 : W5.cell? ⟨w.heap.size, 1, none⟩ = some (.slice u l cap) := keep1 hb a1_W4
      have e0_W5 : W5.cell? ⟨w.heap.size + 1, 0, none⟩ = some (.int .i64 x) := keep1 hb e0_W4
      have e1_W5 : W5.cell? ⟨w.heap.size + 1, 1, none⟩ = some (.int .i64 y) := keep1 hb e1_W4
      have d0_W5 : W5.cell? ⟨W3.heap.size, 0, none⟩ = some (.int .i64 n) := keep1 hb d0_W4
      have d1_W5 : W5.cell? ⟨W3.heap.size, 1, none⟩ = some (.slice (some ⟨gx, 0, none⟩) l l) := keep1 hb d1_W4
      have HB_W5 : Hid (Below w.heap.size w W5) := hide (bc (unhide HB_W4) hb)
      have HC_W5 : Hid (Below W2.heap.size W2 W5) := hide (bc (unhide HC_W4) hb)
      have R0_W5 := hide ((unhide R0_W4).below hb)
      have R2_W5 := hide ((unhide R2_W4).below hb)
      have HX_W5 := hide (bel_iblk hb (unhide HX_W4))
      clear hb
      clear a0_W4 a1_W4 e0_W4 e1_W4 d0_W4 d1_W4 HB_W4 HC_W4 R0_W4 R2_W4 HX_W4
      go_wp2_with fail
      refine (itR_same _ nc _ _ kq _ _ C _ (unhide R2_W5) (At.of_below (unhide AT2) (Nat.le_refl _) (unhide HC_W5)) (by omega)).mono ?_
      rintro e W6 ⟨rfl, hb⟩
      have a0_W6 : W6.cell? ⟨w.heap.size, 0, none⟩ = some (.int .i64 n) := keep1 hb a0_W5
      have a1_W6 : W6.cell? ⟨w.heap.size, 1, none⟩ = some (.slice u l cap) := keep1 hb a1_W5
      have e0_W6 : W6.cell? ⟨w.heap.size + 1, 0, none⟩ = some (.int .i64 x) := keep1 hb e0_W5
      have e1_W6 : W6.cell? ⟨w.heap.size + 1, 1, none⟩ = some (.int .i64 y) := keep1 hb e1_W5
      have d0_W6 : W6.cell? ⟨W3.heap.size, 0, none⟩ = some (.int .i64 n) := keep1 hb d0_W5
      have d1_W6 : W6.cell? ⟨W3.heap.size, 1, none⟩ = some (.slice (some ⟨gx, 0, none⟩) l l) := keep1 hb d1_W5
      have HB_W6 : Hid (Below w.heap.size w W6) := hide (bc (unhide HB_W5) hb)
      have HC_W6 : Hid (Below W2.heap.size W2 W6) := hide (bc (unhide HC_W5) hb)
      have R0_W6 := hide ((unhide R0_W5).below hb)
      have R2_W6 := hide ((unhide R2_W5).below hb)
      have HX_W6 := hide (bel_iblk hb (unhide HX_W5))
      clear hb
      clear a0_W5 a1_W5 e0_W5 e1_W5 d0_W5 d1_W5 HB_W5 HC_W5 R0_W5 R2_W5 HX_W5
      go_wp2_with fail
      go_region_held3 (fun wx => wx.cell? ⟨w.heap.size, 0, none⟩ = some (.int .i64 n) ∧ wx.cell? ⟨w.heap.size, 1, none⟩ = some (.slice u l cap) ∧ wx.cell? ⟨w.heap.size + 1, 0, none⟩ = some (.int .i64 x) ∧ wx.cell? ⟨w.heap.size + 1, 1, none⟩ = some (.int .i64 y) ∧ wx.cell? ⟨W3.heap.size, 0, none⟩ = some (.int .i64 n) ∧ wx.cell? ⟨W3.heap.size, 1, none⟩ = some (.slice (some ⟨gx, 0, none⟩) l l))
        (simp (maxDischargeDepth := 12) [go_sem, le1, lt1, *])
        (first
        | (go_at_call 9; refine (unhide HT _ (by repeat (first | exact unhide HB_W6 | refine Below.drew ?_))).mono ?_; rintro e W7 ⟨⟨g3, rfl, hg3, hk3⟩, hb⟩; have HB7 := hide hb; have HK3 := hide hk3; have HK5 := hide (bel_iblk hb (unhide HX_W6)); have x_a0 := keep1 hb (b := w.heap.size) (o := 0) (v := .int .i64 n) a0_W6; have x_a1 := keep1 hb (b := w.heap.size) (o := 1) (v := .slice u l cap) a1_W6; have x_e0 := keep1 hb (b := w.heap.size + 1) (o := 0) (v := .int .i64 x) e0_W6; have x_e1 := keep1 hb (b := w.heap.size + 1) (o := 1) (v := .int .i64 y) e1_W6; have x_d0 := keep1 hb (b := W3.heap.size) (o := 0) (v := .int .i64 n) d0_W6; have x_d1 := keep1 hb (b := W3.heap.size) (o := 1) (v := .slice (some ⟨gx, 0, none⟩) l l) d1_W6; clear hb hk3 hg3)
        | (go_at_call 11; refine (sk_same n _ _ gx 0 g3 0 l l l L _ (unhide HL) (by omega) (fun _ => ⟨rfl, iblk.lt (unhide HK5), iblk.ints (unhide HK5)⟩) (fun _ => ⟨rfl, iblk.lt (unhide HK3), iblk.ints (unhide HK3)⟩)).mono ?_; rintro e W8 ⟨rfl, hb⟩; have HB8 := hide hb; have HX_W8 := hide (bel_iblk hb (unhide HK5)); have y_a0 := keep1 hb (b := w.heap.size) (o := 0) (v := .int .i64 n) x_a0; have y_a1 := keep1 hb (b := w.heap.size) (o := 1) (v := .slice u l cap) x_a1; have y_e0 := keep1 hb (b := w.heap.size + 1) (o := 0) (v := .int .i64 x) x_e0; have y_e1 := keep1 hb (b := w.heap.size + 1) (o := 1) (v := .int .i64 y) x_e1; have y_d0 := keep1 hb (b := W3.heap.size) (o := 0) (v := .int .i64 n) x_d0; have y_d1 := keep1 hb (b := W3.heap.size) (o := 1) (v := .slice (some ⟨gx, 0, none⟩) l l) x_d1; clear hb))
      all_goals
        have hb : Below W6.heap.size W6 W8 := by repeat (first | exact Below.refl _ _ | refine bc ?_ (unhide HB8) | refine bc ?_ (unhide HB7) | refine Below.drew ?_)
        have a0_W8 : W8.cell? ⟨w.heap.size, 0, none⟩ = some (.int .i64 n) := y_a0
        have a1_W8 : W8.cell? ⟨w.heap.size, 1, none⟩ = some (.slice u l cap) := y_a1
        have e0_W8 : W8.cell? ⟨w.heap.size + 1, 0, none⟩ = some (.int .i64 x) := y_e0
        have e1_W8 : W8.cell? ⟨w.heap.size + 1, 1, none⟩ = some (.int .i64 y) := y_e1
        have d0_W8 : W8.cell? ⟨W3.heap.size, 0, none⟩ = some (.int .i64 n) := y_d0
        have d1_W8 : W8.cell? ⟨W3.heap.size, 1, none⟩ = some (.slice (some ⟨gx, 0, none⟩) l l) := y_d1
        have HB_W8 : Hid (Below w.heap.size w W8) := hide (bc (unhide HB_W6) hb)
        have HC_W8 : Hid (Below W2.heap.size W2 W8) := hide (bc (unhide HC_W6) hb)
        have R0_W8 := hide ((unhide R0_W6).below hb)
        have R2_W8 := hide ((unhide R2_W6).below hb)
        clear hb HB7 HB8 HK3 HK5 y_a0 y_a1 y_e0 y_e1 y_d0 y_d1 x_a0 x_a1 x_e0 x_e1 x_d0 x_d1
        clear a0_W6 a1_W6 e0_W6 e1_W6 d0_W6 d1_W6 HB_W6 HC_W6 R0_W6 R2_W6 HX_W6
        have HMK := hide (sk_mark n gx l l L 1 W8 (unhide HL) hn (by omega) (by omega) (unhide HX_W8))
        go_wp2_with fail
        refine (unhide HMK).mono ?_
        rintro e W9 ⟨rfl, ht⟩
        have a0_W9 : W9.cell? ⟨w.heap.size, 0, none⟩ = some (.int .i64 n) := ht.cell (by omega) (by omega) a0_W8
        have a1_W9 : W9.cell? ⟨w.heap.size, 1, none⟩ = some (.slice u l cap) := ht.cell (by omega) (by omega) a1_W8
        have e0_W9 : W9.cell? ⟨w.heap.size + 1, 0, none⟩ = some (.int .i64 x) := ht.cell (by omega) (by omega) e0_W8
        have e1_W9 : W9.cell? ⟨w.heap.size + 1, 1, none⟩ = some (.int .i64 y) := ht.cell (by omega) (by omega) e1_W8
        have HB_W9 : Hid (Below w.heap.size w W9) := hide (Two.bel (unhide HB_W8) ht (by omega) (by omega) (unhide HB_W8).size)
        have HC_W9 : Hid (Below W2.heap.size W2 W9) := hide (Two.bel (unhide HC_W8) ht (by omega) (by omega) (unhide HC_W8).size)
        have R0_W9 := hide ((unhide R0_W8).two ht (by omega))
        have R2_W9 := hide ((unhide R2_W8).two ht (by omega))
        clear ht HMK d0_W8 d1_W8 HX_W8
        clear a0_W8 a1_W8 e0_W8 e1_W8 HB_W8 HC_W8 R0_W8 R2_W8
        go_wp2_with fail
        refine (ptR_same _ np _ _ wq _ _ P _ (unhide R0_W9) (At.of_below (unhide AT1) (Nat.le_refl _) (unhide HC_W9)) (by omega)).mono ?_
        rintro e W10 ⟨rfl, hb⟩
        have a0_W10 : W10.cell? ⟨w.heap.size, 0, none⟩ = some (.int .i64 n) := keep1 hb a0_W9
        have a1_W10 : W10.cell? ⟨w.heap.size, 1, none⟩ = some (.slice u l cap) := keep1 hb a1_W9
        have e0_W10 : W10.cell? ⟨w.heap.size + 1, 0, none⟩ = some (.int .i64 x) := keep1 hb e0_W9
        have e1_W10 : W10.cell? ⟨w.heap.size + 1, 1, none⟩ = some (.int .i64 y) := keep1 hb e1_W9
        have HB_W10 : Hid (Below w.heap.size w W10) := hide (bc (unhide HB_W9) hb)
        have HC_W10 : Hid (Below W2.heap.size W2 W10) := hide (bc (unhide HC_W9) hb)
        have R0_W10 := hide ((unhide R0_W9).below hb)
        have R2_W10 := hide ((unhide R2_W9).below hb)
        clear hb
        clear a0_W9 a1_W9 e0_W9 e1_W9 HB_W9 HC_W9 R0_W9 R2_W9
        go_wp2_with fail
        refine (itR_same _ nc _ _ kq _ _ C _ (unhide R2_W10) (At.of_below (unhide AT2) (Nat.le_refl _) (unhide HC_W10)) (by omega)).mono ?_
        rintro e W11 ⟨rfl, hb⟩
        have a0_W11 : W11.cell? ⟨w.heap.size, 0, none⟩ = some (.int .i64 n) := keep1 hb a0_W10
        have a1_W11 : W11.cell? ⟨w.heap.size, 1, none⟩ = some (.slice u l cap) := keep1 hb a1_W10
        have e0_W11 : W11.cell? ⟨w.heap.size + 1, 0, none⟩ = some (.int .i64 x) := keep1 hb e0_W10
        have e1_W11 : W11.cell? ⟨w.heap.size + 1, 1, none⟩ = some (.int .i64 y) := keep1 hb e1_W10
        have HB_W11 : Hid (Below w.heap.size w W11) := hide (bc (unhide HB_W10) hb)
        have HC_W11 : Hid (Below W2.heap.size W2 W11) := hide (bc (unhide HC_W10) hb)
        have R0_W11 := hide ((unhide R0_W10).below hb)
        have R2_W11 := hide ((unhide R2_W10).below hb)
        clear hb
        clear a0_W10 a1_W10 e0_W10 e1_W10 HB_W10 HC_W10 R0_W10 R2_W10
        go_wp2_with fail
        refine (pt_markR _ np _ P 1 _ (by omega) (by omega) (by omega) (unhide R0_W11)).mono ?_
        rintro e W12 ⟨rfl, hr0, hbB, hnl⟩
        have a0_W12 : W12.cell? ⟨w.heap.size, 0, none⟩ = some (.int .i64 n) := (hbB.cell (p := ⟨w.heap.size, 0, none⟩) (show w.heap.size < W3.heap.size + 1 by omega)).trans a0_W11
        have a1_W12 : W12.cell? ⟨w.heap.size, 1, none⟩ = some (.slice u l cap) := (hbB.cell (p := ⟨w.heap.size, 1, none⟩) (show w.heap.size < W3.heap.size + 1 by omega)).trans a1_W11
        have e0_W12 : W12.cell? ⟨w.heap.size + 1, 0, none⟩ = some (.int .i64 x) := (hbB.cell (p := ⟨w.heap.size + 1, 0, none⟩) (show w.heap.size + 1 < W3.heap.size + 1 by omega)).trans e0_W11
        have e1_W12 : W12.cell? ⟨w.heap.size + 1, 1, none⟩ = some (.int .i64 y) := (hbB.cell (p := ⟨w.heap.size + 1, 1, none⟩) (show w.heap.size + 1 < W3.heap.size + 1 by omega)).trans e1_W11
        have HB_W12 : Hid (Below w.heap.size w W12) := hide ((unhide HB_W11).trans (hbB.mono (by omega)))
        have HC_W12 : Hid (Below W2.heap.size W2 W12) := hide ((unhide HC_W11).trans (hbB.mono (by omega)))
        have R0_W12 := hide hr0
        have R2_W12 : Hid (Row W12 (W3.heap.size + 1) 3 1 (.slice eu nc ec_) nc C) := hide (by
          rcases unhide HNIL with h | h
          · rw [unhide hnl h]; exact unhide R2_W11
          · have h1 := unhide R2_W11
            rw [h] at h1 ⊢
            exact h1.nil_any)
        clear hr0 hbB hnl
        clear a0_W11 a1_W11 e0_W11 e1_W11 HB_W11 HC_W11 R0_W11 R2_W11
        go_wp2_with fail
        refine (it_markR _ nc _ C (1 + (np : Int) * 2) _ (by omega) (by omega) (by omega) (unhide R2_W12)).mono ?_
        rintro e W13 ⟨rfl, hr2, hbB, hnl⟩
        have a0_W13 : W13.cell? ⟨w.heap.size, 0, none⟩ = some (.int .i64 n) := (hbB.cell (p := ⟨w.heap.size, 0, none⟩) (show w.heap.size < W3.heap.size + 1 by omega)).trans a0_W12
        have a1_W13 : W13.cell? ⟨w.heap.size, 1, none⟩ = some (.slice u l cap) := (hbB.cell (p := ⟨w.heap.size, 1, none⟩) (show w.heap.size < W3.heap.size + 1 by omega)).trans a1_W12
        have e0_W13 : W13.cell? ⟨w.heap.size + 1, 0, none⟩ = some (.int .i64 x) := (hbB.cell (p := ⟨w.heap.size + 1, 0, none⟩) (show w.heap.size + 1 < W3.heap.size + 1 by omega)).trans e0_W12
        have e1_W13 : W13.cell? ⟨w.heap.size + 1, 1, none⟩ = some (.int .i64 y) := (hbB.cell (p := ⟨w.heap.size + 1, 1, none⟩) (show w.heap.size + 1 < W3.heap.size + 1 by omega)).trans e1_W12
        have HB_W13 : Hid (Below w.heap.size w W13) := hide ((unhide HB_W12).trans (hbB.mono (by omega)))
        have HC_W13 : Hid (Below W2.heap.size W2 W13) := hide ((unhide HC_W12).trans (hbB.mono (by omega)))
        have R2_W13 := hide hr2
        have R0_W13 : Hid (Row W13 (W3.heap.size + 1) 47 2 (.slice gu np gc) np (marks 1 (np * 2))) := hide (by
          rcases unhide HNIL with h | h
          · have h1 := unhide R0_W12
            rw [h] at h1 ⊢
            exact h1.nil_any
          · rw [unhide hnl h]; exact unhide R0_W12)
        clear hr2 hbB hnl
        clear a0_W12 a1_W12 e0_W12 e1_W12 HB_W12 HC_W12 R0_W12 R2_W12
        go_wp2_with fail
        refine (ptR_held _ np _ _ 1 _ (by omega) (by omega) (by omega) (unhide R0_W13)).mono ?_
        rintro e W14 ⟨rfl, hs⟩
        have a0_W14 : W14.cell? ⟨w.heap.size, 0, none⟩ = some (.int .i64 n) := (hs.cell _).trans a0_W13
        have a1_W14 : W14.cell? ⟨w.heap.size, 1, none⟩ = some (.slice u l cap) := (hs.cell _).trans a1_W13
        have e0_W14 : W14.cell? ⟨w.heap.size + 1, 0, none⟩ = some (.int .i64 x) := (hs.cell _).trans e0_W13
        have e1_W14 : W14.cell? ⟨w.heap.size + 1, 1, none⟩ = some (.int .i64 y) := (hs.cell _).trans e1_W13
        have HB_W14 : Hid (Below w.heap.size w W14) := hide ((unhide HB_W13).trans hs.bel)
        have HC_W14 : Hid (Below W2.heap.size W2 W14) := hide ((unhide HC_W13).trans hs.bel)
        have R0_W14 := hide ((unhide R0_W13).same hs)
        have R2_W14 := hide ((unhide R2_W13).same hs)
        clear hs
        clear a0_W13 a1_W13 e0_W13 e1_W13 HB_W13 HC_W13 R0_W13 R2_W13
        go_wp2_with fail
        refine (itR_held _ nc _ _ (1 + (np : Int) * 2) _ (by omega) (by omega) (by omega) (unhide R2_W14)).mono ?_
        rintro e W15 ⟨rfl, hs⟩
        have a0_W15 : W15.cell? ⟨w.heap.size, 0, none⟩ = some (.int .i64 n) := (hs.cell _).trans a0_W14
        have a1_W15 : W15.cell? ⟨w.heap.size, 1, none⟩ = some (.slice u l cap) := (hs.cell _).trans a1_W14
        have e0_W15 : W15.cell? ⟨w.heap.size + 1, 0, none⟩ = some (.int .i64 x) := (hs.cell _).trans e0_W14
        have e1_W15 : W15.cell? ⟨w.heap.size + 1, 1, none⟩ = some (.int .i64 y) := (hs.cell _).trans e1_W14
        have HB_W15 : Hid (Below w.heap.size w W15) := hide ((unhide HB_W14).trans hs.bel)
        have HC_W15 : Hid (Below W2.heap.size W2 W15) := hide ((unhide HC_W14).trans hs.bel)
        have R0_W15 := hide ((unhide R0_W14).same hs)
        have R2_W15 := hide ((unhide R2_W14).same hs)
        clear hs
        clear a0_W14 a1_W14 e0_W14 e1_W14 HB_W14 HC_W14 R0_W14 R2_W14
        go_wp2_with fail
        go_region_held3 (fun wx => wx.cell? ⟨w.heap.size, 0, none⟩ = some (.int .i64 n) ∧ wx.cell? ⟨w.heap.size, 1, none⟩ = some (.slice u l cap) ∧ wx.cell? ⟨w.heap.size + 1, 0, none⟩ = some (.int .i64 x) ∧ wx.cell? ⟨w.heap.size + 1, 1, none⟩ = some (.int .i64 y))
          (simp (maxDischargeDepth := 12) [go_sem, le1, lt1, *])
          (first
          | (go_at_call 9; refine (unhide HT _ (by repeat (first | exact unhide HB_W15 | refine Below.drew ?_))).mono ?_; rintro e W16 ⟨⟨gy, rfl, hgy, hky⟩, hb⟩; have HB16 := hide hb; have HKY := hide hky; have x_a0 := keep1 hb (b := w.heap.size) (o := 0) (v := .int .i64 n) a0_W15; have x_a1 := keep1 hb (b := w.heap.size) (o := 1) (v := .slice u l cap) a1_W15; have x_e0 := keep1 hb (b := w.heap.size + 1) (o := 0) (v := .int .i64 x) e0_W15; have x_e1 := keep1 hb (b := w.heap.size + 1) (o := 1) (v := .int .i64 y) e1_W15; clear hb hky hgy)
          | (go_at_call 24; refine (unhide HPC _).mono ?_; rintro e W16b ⟨rfl, hb⟩; have HB16b := hide hb; have HKYb := hide (bel_iblk hb (unhide HKY)); have y_a0 := keep1 hb (b := w.heap.size) (o := 0) (v := .int .i64 n) x_a0; have y_a1 := keep1 hb (b := w.heap.size) (o := 1) (v := .slice u l cap) x_a1; have y_e0 := keep1 hb (b := w.heap.size + 1) (o := 0) (v := .int .i64 x) x_e0; have y_e1 := keep1 hb (b := w.heap.size + 1) (o := 1) (v := .int .i64 y) x_e1; clear hb)
          | (go_at_call 25; refine (unhide HP _ _ (by exact unhide HKYb)).mono ?_; rintro e W17 ⟨y3, y4, rfl, hr3, hr4, _, hb⟩; have HB17 := hide hb; have HR3 := hide hr3; have HR4 := hide hr4; have z_a0 := keep1 hb (b := w.heap.size) (o := 0) (v := .int .i64 n) y_a0; have z_a1 := keep1 hb (b := w.heap.size) (o := 1) (v := .slice u l cap) y_a1; have z_e0 := keep1 hb (b := w.heap.size + 1) (o := 0) (v := .int .i64 x) y_e0; have z_e1 := keep1 hb (b := w.heap.size + 1) (o := 1) (v := .int .i64 y) y_e1; clear hb hr3 hr4))
        all_goals
          have hb : Below W15.heap.size W15 W17 := by repeat (first | exact Below.refl _ _ | refine bc ?_ (unhide HB17) | refine bc ?_ (unhide HB16b) | refine bc ?_ (unhide HB16) | refine Below.drew ?_)
          have HB_W17 : Hid (Below w.heap.size w W17) := hide (bc (unhide HB_W15) hb)
          have HC_W17 : Hid (Below W2.heap.size W2 W17) := hide (bc (unhide HC_W15) hb)
          have R0_W17 := hide ((unhide R0_W15).below hb)
          have R2_W17 := hide ((unhide R2_W15).below hb)
          obtain ⟨hu, hc, rfl, _⟩ := (unhide HR3).form
          obtain ⟨iu, ic, rfl, _⟩ := (unhide HR4).form
          have Q0_W17 := HR3
          have Q2_W17 := HR4
          clear hb HB17 HB16b HB16 HKY HKYb x_a0 x_a1 x_e0 x_e1 y_a0 y_a1 y_e0 y_e1 z_a0 z_a1 z_e0 z_e1
          clear a0_W15 a1_W15 e0_W15 e1_W15 HB_W15 HC_W15 R0_W15 R2_W15
          go_wp2_with fail
          refine (ptR_same _ np _ _ wq _ _ P _ (unhide Q0_W17) (At.of_below (unhide AT1) (Nat.le_refl _) (unhide HC_W17)) (by omega)).mono ?_
          rintro e W18 ⟨rfl, hb⟩
          have HB_W18 : Hid (Below w.heap.size w W18) := hide (bc (unhide HB_W17) hb)
          have HC_W18 : Hid (Below W2.heap.size W2 W18) := hide (bc (unhide HC_W17) hb)
          have R0_W18 := hide ((unhide R0_W17).below hb)
          have R2_W18 := hide ((unhide R2_W17).below hb)
          have Q0_W18 := hide ((unhide Q0_W17).below hb)
          have Q2_W18 := hide ((unhide Q2_W17).below hb)
          clear hb Q0_W17 Q2_W17
          clear HB_W17 HC_W17 R0_W17 R2_W17
          go_wp2_with fail
          refine (itR_same _ nc _ _ kq _ _ C _ (unhide Q2_W18) (At.of_below (unhide AT2) (Nat.le_refl _) (unhide HC_W18)) (by omega)).mono ?_
          rintro e W19 ⟨rfl, hb⟩
          have HB_W19 : Hid (Below w.heap.size w W19) := hide (bc (unhide HB_W18) hb)
          have HC_W19 : Hid (Below W2.heap.size W2 W19) := hide (bc (unhide HC_W18) hb)
          have R0_W19 := hide ((unhide R0_W18).below hb)
          have R2_W19 := hide ((unhide R2_W18).below hb)
          clear hb Q0_W18 Q2_W18
          clear HB_W18 HC_W18 R0_W18 R2_W18
          go_wp2_with fail
          refine (ptR_held _ np _ _ 1 _ (by omega) (by omega) (by omega) (unhide R0_W19)).mono ?_
          rintro e W20 ⟨rfl, hs⟩
          have HB_W20 : Hid (Below w.heap.size w W20) := hide ((unhide HB_W19).trans hs.bel)
          have HC_W20 : Hid (Below W2.heap.size W2 W20) := hide ((unhide HC_W19).trans hs.bel)
          have R0_W20 := hide ((unhide R0_W19).same hs)
          have R2_W20 := hide ((unhide R2_W19).same hs)
          clear hs
          clear HB_W19 HC_W19 R0_W19 R2_W19
          go_wp2_with fail
          refine (itR_held _ nc _ _ (1 + (np : Int) * 2) _ (by omega) (by omega) (by omega) (unhide R2_W20)).mono ?_
          rintro e W21 ⟨rfl, hs⟩
          have HB_W21 : Hid (Below w.heap.size w W21) := hide ((unhide HB_W20).trans hs.bel)
          have HC_W21 : Hid (Below W2.heap.size W2 W21) := hide ((unhide HC_W20).trans hs.bel)
          have R0_W21 := hide ((unhide R0_W20).same hs)
          have R2_W21 := hide ((unhide R2_W20).same hs)
          clear hs
          clear HB_W20 HC_W20 R0_W20 R2_W20
          go_wp2_with fail
          go_ret
          exact ⟨rfl, unhide HB_W21⟩
theorem fnExactSketchMove_walk (n : Int) (u : Option Addr) (l cap : Nat) (L : List Int) (pt x y : Int) (w : World) (wn : (Lit.int .i64 n).wf = true) (hn : l ≤ 9223372036854775807) (hl : L.length = l * 4) (hx : l ≠ 0 → ∃ p po, u = some ⟨p, po, none⟩ ∧ p < w.heap.size ∧ IntsAt w p po L) (w1 : (Lit.int .i64 pt).wf = true) (w2 : (Lit.int .i64 x).wf = true) (w3 : (Lit.int .i64 y).wf = true) :
    Calls Try.prog 6 #[skv n u l cap, .int .i64 pt, .agg #[.int .i64 x, .int .i64 y]] w fun e w' => e = .returned (.bool true) ∧ Below w.heap.size w w' := by
  by_cases hb : l ≤ 1048576
  · obtain ⟨p, po, hx'⟩ : ∃ p po, l ≠ 0 → u = some ⟨p, po, none⟩ ∧ p < w.heap.size ∧ IntsAt w p po L := by
      by_cases h : l = 0
      · exact ⟨0, 0, fun h' => absurd h h'⟩
      · obtain ⟨p, po, h1⟩ := hx h
        exact ⟨p, po, fun _ => h1⟩
    have hle : (L ++ ext pt x y).length = (l + 2) * 4 := by rw [List.length_append, hl]; show l * 4 + 8 = _; omega
    refine fnExactSketchMove_core n pt x y u l cap p po L (outN n (toRus (L ++ ext pt x y) (l + 2))) (outK n (toRus (L ++ ext pt x y) (l + 2))).length (outP n (toRus (L ++ ext pt x y) (l + 2))) (nats (outK n (toRus (L ++ ext pt x y) (l + 2)))) (outC n (toRus (L ++ ext pt x y) (l + 2))) w hb (hide hl) (outN_le _ _) (outK_le _ _) (hide hx') (hide fun g W hg => ?_) (hide fun g W hg => ?_)
    · refine (moveM_any n pt x y g l L W hb (hide hl) (hide hg.ints) hg.lt (hide fun V q c hq hi => (solveM_any n (some ⟨q, 0, none⟩) q 0 (l + 2) c _ V (toRus_len _ _) (by omega) (fun _ => ⟨rfl, hq, rusAt_ints hi hle⟩)).mono ?_)).mono ?_
      · rintro e w' ⟨a, b, h1, h2, h3, h4⟩
        exact ⟨⟨a, b, h1, h2, h3⟩, h4⟩
      · rintro e w' ⟨⟨a, b, h1, h2, h3⟩, h4⟩
        exact ⟨a, b, h1, h2, h3, h4⟩
    · have happ : toRus (L ++ ext pt x y) (l + 2) = toRus L l ++ toRus (ext pt x y) 2 := toRus_app L (ext pt x y) l 2 hl
      have hok : ∀ V, Below W.heap.size W V → Calls Try.prog 10 #[skv n (some ⟨g, 0, none⟩) l l] V fun e w' => e = .returned (.bool (skOk n (toRus L l))) ∧ Below V.heap.size V w' := fun V hV => okP_any n (some ⟨g, 0, none⟩) g 0 l l (toRus L l) V (hide (toRus_len L l)) (by omega) (hide fun _ => ⟨rfl, Nat.lt_of_lt_of_le hg.lt hV.size, rusAt_of (hg.bel hV) hl⟩)
      cases hsk : skOk n (toRus L l) with
      | false =>
        rw [hsk] at hok
        have hsk2 : skOk n (toRus (L ++ ext pt x y) (l + 2)) = false := by
          cases hq : skOk n (toRus (L ++ ext pt x y) (l + 2)) with
          | false => rfl
          | true => rw [happ] at hq; rw [skOk_pre hq] at hsk; cases hsk
        refine (moveP_bad n pt x y (some ⟨g, 0, none⟩) l l W (hide hok)).mono ?_
        rintro e w' ⟨rfl, hbb⟩
        unfold outN outP outC outK
        rw [hsk2]
        exact ⟨_, _, rfl, World.ownsRow_nil _ _ _ _, World.ownsRow_nil _ _ _ _, .inl rfl, hbb⟩
      | true =>
        rw [hsk] at hok
        have hl60 : l ≤ 60 := by have := (ok_parts hsk).2.2.1; rwa [toRus_len] at this
        refine (moveP_good n pt x y g l (outN n (toRus (L ++ ext pt x y) (l + 2))) L (outP n (toRus (L ++ ext pt x y) (l + 2))) (outK n (toRus (L ++ ext pt x y) (l + 2))) (outC n (toRus (L ++ ext pt x y) (l + 2))) W hl60 (hide hl) (hide hg.ints) hg.lt (hide hok) (hide fun V q c hq hi => (solveP_any n (some ⟨q, 0, none⟩) q 0 (l + 2) c _ V (toRus_len _ _) (by omega) (fun _ => ⟨rfl, hq, rusAt_ints hi hle⟩)).mono ?_)).mono ?_
        · rintro e w' ⟨a, b, h1, h2, h3, h4, h5⟩
          exact ⟨⟨a, b, h1, h2, h3, h4⟩, h5⟩
        · rintro e w' ⟨⟨a, b, h1, h2, h3, h4⟩, h5⟩
          exact ⟨a, b, h1, h2, h3, h4, h5⟩
  · have HX := hide hx
    have HS := hide (fun W => sk_sz_out n u l cap 1048576 W (by omega) (by omega) (by omega) hn)
    clear hx
    go_enter Try.func6, Try.ntmps6
    go_wp2_with fail
    refine (unhide HS _).mono ?_
    rintro e W0 ⟨rfl, hb0⟩
    have HB0 := hide (bc (ba (ba (Below.refl _ _) _) _) hb0)
    clear hb0
    go_wp2_with fail
    go_ret
    exact ⟨rfl, unhide HB0⟩

theorem fnExactSketchMove_own : ownKnob Try.prog.godebug = none := by kernel_rfl
theorem fnExactSketchMove_laidOut : laidOutB Try.prog = true := by kernel_rfl
theorem cells24 : Try.prog.cellsOf 24 = 2 := by kernel_rfl
theorem cells45 : Try.prog.cellsOf 45 = 2 := by kernel_rfl

set_option maxRecDepth 100000 in
theorem fnExactSketchMove_lifted (os : Os) (started : os.Started) (H : Type) (enc : TypeId × Value → H) :
    ReturnsInHanded {} Try.checked os 6 .any (Rows.fnExactSketchMoveSpec.pre6 enc Try.prog Try.f6 Rows.fnExactSketchMoveRow.domain false) (Rows.fnExactSketchMoveSpec.post enc Try.prog Try.f6 false true false false) := by
  refine returnsInHanded_of_change (C := Try.checked) fnExactSketchMove_own started (by kernel_rfl) Try.func6
    (ChangeSpec.witness6 (enc := enc) (C := Try.checked) false ⟨#[], #[.agg #[.int .i64 0, .slice none 0 0], .int .i64 0, .agg #[.int .i64 0, .int .i64 0]], []⟩ 8 (by kernel_rfl) (by kernel_rfl) (by kernel_rfl) (by kernel_rfl)) ?_
  intro W base args ds gs before hval0 hW hcnd _
  have hval : ∀ (j : Nat) t v, Try.f6.params[j]? = some t → args[j]? = some v → Value.okWide Try.prog W .any base t v := hval0
  have hW' := hW
  obtain ⟨p, q, hA0, hV, rfl, hfz, hnd⟩ := hW
  have hA : DataW.TrodAll enc Try.prog W 0 (fun _ => true) true Try.f6.params.toList args.toList ds p := hA0
  rw [Try.params6] at hA hval
  obtain ⟨v0, vs0, d0, ds0, p0, q0, hargs, rfl, rfl, h0, r0⟩ := trodAll_cons hA
  obtain ⟨v1, vs1, d1, ds1, p1, q1, rfl, rfl, rfl, h1, r1⟩ := trodAll_cons r0
  obtain ⟨v2, vs2, d2, ds2, p2, q2, rfl, rfl, rfl, h2, r2⟩ := trodAll_cons r1
  obtain ⟨rfl, rfl, rfl⟩ := trodAll_nil r2
  obtain rfl : args = #[v0, v1, v2] := by cases args; simp_all
  obtain ⟨rfl, rfl⟩ := trodVars_none hV
  have k0 := h0
  have lt0 : ∀ x ∈ p0, x.block < W.heap.size := by obtain ⟨m, hm⟩ := k0; exact DataW.trod_lt m _ _ _ hm
  obtain ⟨c0, s0, y0, z0, m0, rfl, rfl, rfl, hy0, hz0⟩ := open_agg2 Try.underlying24 (by kernel_rfl) cells24 (hval 0 24 v0 rfl rfl) h0
  obtain ⟨n0, en0, _, wn0⟩ := DataW.trod_int Try.underlying3 hy0
  simp at en0
  subst en0
  obtain ⟨a0, len0, cap0, L0, hcs0, b0, l0, w0⟩ := open_structs Try.underlying22 Try.underlying77 (k := 4) (by kernel_rfl) (by decide) rfl (by kernel_rfl) hz0
  simp at hcs0
  subst hcs0
  obtain ⟨a1, rfl, rfl, rfl, w1⟩ := open_int Try.underlying3 (hval 1 3 v1 rfl rfl) h1
  have k2 := h2
  have lt2 : ∀ x ∈ p2, x.block < W.heap.size := by obtain ⟨m, hm⟩ := k2; exact DataW.trod_lt m _ _ _ hm
  obtain ⟨c2, kk2, y2, z2, m2, rfl, rfl, rfl, hy2, hz2⟩ := open_agg2 Try.underlying45 (by kernel_rfl) cells45 (hval 2 45 v2 rfl rfl) h2
  obtain ⟨n2, en2, rfl, wn2⟩ := DataW.trod_int Try.underlying3 hy2
  obtain ⟨d2', ed2, rfl, wd2⟩ := DataW.trod_int Try.underlying3 hz2
  simp at en2 ed2
  subst en2 ed2
  clear hA0 hval0
  refine (fnExactSketchMove_walk n0 a0 len0 cap0 L0 a1 n2 d2' W wn0 b0 l0 w0 w1 wn2 wd2).mono fun e W' ⟨he, bel⟩ => ?_
  subst he
  exact ⟨_, rfl, _, _, _, [], _, [], hW', trodAll_mk1 (shut_bool Try.underlying4 _), (trodAll_cons_mk (Below.trod fnExactSketchMove_laidOut (by kernel_rfl) (of_decide_eq_true (by kernel_rfl)) k0 bel lt0) (trodAll_cons_mk (shut_int Try.underlying3 w1) (trodAll_cons_mk (Below.trod fnExactSketchMove_laidOut (by kernel_rfl) (of_decide_eq_true (by kernel_rfl)) k2 bel lt2) trodAll_mk0))), rfl, bel.frame _, fun h => by cases h⟩

theorem fnExactSketchMove_over : Rows.fnExactSketchMoveRow.holds Try.pinned (OpenSpec.ofChange Rows.fnExactSketchMoveSpec) :=
  OpenClaim.holds_of_wide 6 Try.f6 rfl rfl rfl rfl rfl rfl rfl ⟨rfl, rfl, rfl, rfl, rfl⟩ rfl rfl rfl rfl rfl (by kernel_rfl) Try.func6 (by kernel_rfl)
    (of_decide_eq_true (by kernel_rfl)) (by unfold Func.isWrapper; first | (rw [if_pos (by decide +kernel)]; kernel_rfl) | (rw [if_neg (by decide +kernel)]; exact ⟨rfl, rfl⟩))
    (fun os started H enc _ => fnExactSketchMove_lifted os started H enc)

/-- The statement, as it was given. -/
theorem fnExactSketchMove_holds : Rows.FnExactSketchMoveSaid := fnExactSketchMove_over
#print axioms fnExactSketchMove_holds
end Go.Proofs.Ytbceblgakehpnaa
