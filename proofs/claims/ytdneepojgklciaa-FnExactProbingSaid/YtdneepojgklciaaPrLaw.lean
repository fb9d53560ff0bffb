/-
  The program's Probing answers as the model at every list of points and every point, right or not; it changes none; its numbers lie in memory of their own.
-/
import Derived.Test.YtdneepojgklciaaPrM
import Derived.Test.YtdneepojgklciaaItRows
import Derived.Test.YtdneepojgklciaaPtRows
import Derived.Test.YtdneepojgklciaaOpenRows
import Derived.Test.YtdneepojgklciaaChecked
import Derived.Test.YtdneepojgklciaaRows
import Derived.ChangeOld
import Derived.Lib.SmallJoins
namespace Go.Proofs.Ytdneepojgklciaa
open Go.ChangeShapes Go.WideShapes Go.ChangeAt Go.RowKit Go.Joins
set_option linter.unusedVariables false
set_option linter.unusedSimpArgs false

/-- the numbers in pairs -/
def toPts (L : List Int) (n : Nat) : List Pt := (List.range n).map fun i => (L.getD (i * 2) 0, L.getD (i * 2 + 1) 0)
theorem toPts_len (L : List Int) (n : Nat) : (toPts L n).length = n := by simp [toPts]
theorem ptsAt_of {w : World} {g : Nat} {L : List Int} {n : Nat} (h : iblk w g 26 L) (hl : L.length = n * 2) : PtsAt w g 0 (toPts L n) := by
  intro j p hj
  have hjn : j < n := by
    have := (List.getElem?_eq_some_iff.1 hj).1
    simpa [toPts] using this
  unfold toPts at hj
  rw [List.getElem?_map, List.getElem?_range hjn] at hj
  simp only [Option.map_some, Option.some.injEq] at hj
  rw [← hj, Nat.zero_add]
  have h0 : L[j * 2]? = some (L.getD (j * 2) 0) := by rw [List.getD_eq_getElem?_getD, List.getElem?_eq_getElem (by omega)]; rfl
  have h1 : L[j * 2 + 1]? = some (L.getD (j * 2 + 1) 0) := by rw [List.getD_eq_getElem?_getD, List.getElem?_eq_getElem (by omega)]; rfl
  exact ⟨h.cell h0, h.cell h1⟩
theorem Row.its {w : World} {B m : Nat} {v : Value} {F : List Int} (h : Row w B 3 1 v m F) : ∃ u g c, v = .slice u m c ∧ Its w u g 0 F := by
  have hl := h.len
  obtain ⟨u, c, hv, hf⟩ := h.form
  by_cases h0 : m = 0
  · exact ⟨u, 0, c, hv, fun hh => absurd (List.eq_nil_of_length_eq_zero (by omega)) hh⟩
  · obtain ⟨g, h1, h2, h3, h4⟩ := hf h0
    exact ⟨u, g, c, hv, fun _ => ⟨h1, h3, h4⟩⟩
/-- a row of the answer's own -/
def Mine (w : World) (B : Nat) (u : Option Addr) (g : Nat) (F : List Int) : Prop := F ≠ [] → u = some ⟨g, 0, none⟩ ∧ B ≤ g ∧ iblk w g 3 F
theorem Mine.its {w : World} {B : Nat} {u : Option Addr} {g : Nat} {F : List Int} (h : Mine w B u g F) : Its w u g 0 F := fun h0 => ⟨(h h0).1, (h h0).2.2.lt, (h h0).2.2.ints⟩
theorem Mine.bel {w w' : World} {B : Nat} {u : Option Addr} {g : Nat} {F : List Int} (h : Mine w B u g F) (hb : Below w.heap.size w w') : Mine w' B u g F := fun h0 => ⟨(h h0).1, (h h0).2.1, (h h0).2.2.bel hb⟩
theorem prL_le (P : List Pt) (f : Pt) : (prL P f).length ≤ 200 := by
  unfold prL
  split
  · rename_i h
    have := (way_ok (P := P) (f := f) (fun q hq => ok_rpt (List.all_eq_true.1 h.2.1 q hq)) (ok_rpt h.2.2) P.length (Nat.le_refl _)).len
    rw [this]; exact h.1
  · simp

set_option maxHeartbeats 4000000 in
set_option maxRecDepth 100000 in
theorem fnExactProbing_core (u : Option Addr) (n cap p po m : Nat) (L F : List Int) (x1 x2 C A : Int) (w : World) (hn : n ≤ 1048576) (hm : m ≤ 200) (HL : Hid (L.length = n * 2)) (HF : Hid (F.length = m))
    (HX : Hid (n ≠ 0 → u = some ⟨p, po, none⟩ ∧ p < w.heap.size ∧ IntsAt w p po L))
    (HM : Hid (∀ (g : Nat) (W : World), iblk W g 26 L → Calls Try.prog 9 #[.slice (some ⟨g, 0, none⟩) n n, .agg #[.int .i64 x1, .int .i64 x2]] W fun e w' => (∃ u g c, e = .returned (.tuple #[.slice u m c, .int .i64 A, .int .i64 C]) ∧ Its w' u g 0 F) ∧ Below W.heap.size W w'))
    (HP : Hid (∀ (g : Nat) (W : World), iblk W g 26 L → Calls Try.prog 8 #[.slice (some ⟨g, 0, none⟩) n n, .agg #[.int .i64 x1, .int .i64 x2]] W fun e w' => (∃ u g c, e = .returned (.tuple #[.slice u m c, .int .i64 A, .int .i64 C]) ∧ Mine w' W.heap.size u g F) ∧ Below W.heap.size W w')) :
    Calls Try.prog 5 #[.slice u n cap, .agg #[.int .i64 x1, .int .i64 x2]] w fun e w' => e = .returned (.bool true) ∧ Below w.heap.size w w' := by
  have t1 : decide ((1048576 : Int) - (n : Int) < 0) = false := decide_eq_false (by omega)
  have HT := hide (fun W (hW : Below w.heap.size w W) => pt_to u p po n cap L W (unhide HL) hn (fun h => ⟨(unhide HX h).1, Nat.lt_of_lt_of_le (unhide HX h).2.1 hW.size, (unhide HX h).2.2.below hW (unhide HX h).2.1⟩))
  have cc : (C != C) = false := by simp
  have ca : (A != A) = false := by simp
  have HFN : Hid (F = [] ↔ m = 0) := hide (by rw [← unhide HF]; exact ⟨fun e => by rw [e]; rfl, fun e => List.eq_nil_of_length_eq_zero e⟩)
  go_enter Try.func5, Try.ntmps5
  go_wp2_with fail
  have HB0 := hide (ba (Below.refl w.heap.size w) (.cells #[.int .i64 x1, .int .i64 x2] 41))
  refine (pt_sz_in u n cap 1048576 _ (by omega) (by omega)).mono ?_
  rintro e W0 ⟨rfl, rfl⟩
  go_upto_region 5 with fail
  go_cut [6, 7, 8] (fun s6 s7 s8 wx => ∃ uw gw cw, s6 = .slice uw m cw ∧ s7 = .int .i64 A ∧ s8 = .int .i64 C ∧ Its wx uw gw 0 F ∧ wx.cell? ⟨w.heap.size, 0, none⟩ = some (.int .i64 x1) ∧ wx.cell? ⟨w.heap.size, 1, none⟩ = some (.int .i64 x2) ∧ Below w.heap.size w wx)
  case first =>
    go_region_held3 (fun wx => wx.cell? ⟨w.heap.size, 0, none⟩ = some (.int .i64 x1) ∧ wx.cell? ⟨w.heap.size, 1, none⟩ = some (.int .i64 x2))
      (simp (maxDischargeDepth := 12) [go_sem, le1, lt1, *])
      (first
      | (go_at_call 16; refine (unhide HT _ (by repeat (first | exact unhide HB0 | refine Below.drew ?_))).mono ?_; rintro e w' ⟨⟨g1, rfl, hg1, hk1⟩, hb⟩; have HB1 := hide (show Below w.heap.size w w' from bc (by repeat (first | exact unhide HB0 | refine Below.drew ?_)) hb); have HK1 := hide hk1; have k0 := keep1 hb (b := w.heap.size) (o := 0) (v := .int .i64 x1) (by simp (maxDischargeDepth := 12) [go_sem, le1, lt1, *]); have k1 := keep1 hb (b := w.heap.size) (o := 1) (v := .int .i64 x2) (by simp (maxDischargeDepth := 12) [go_sem, le1, lt1, *]); clear hb hk1 hg1)
      | (go_at_call 17; refine (pt_conv _ _ _).mono ?_; rintro e w' ⟨rfl, hb⟩; have HK2 := hide ((unhide HK1).bel hb); have HB2 := hide (show Below w.heap.size w w' from bc (by repeat (first | exact unhide HB1 | refine Below.drew ?_)) hb); have j0 := keep1 hb (b := w.heap.size) (o := 0) (v := .int .i64 x1) (by simp (maxDischargeDepth := 12) [go_sem, le1, lt1, *]); have j1 := keep1 hb (b := w.heap.size) (o := 1) (v := .int .i64 x2) (by simp (maxDischargeDepth := 12) [go_sem, le1, lt1, *]); clear hb)
      | (go_at_call 9; refine (unhide HM _ _ (unhide HK2)).mono ?_; rintro e w' ⟨⟨uw, gw, cw, rfl, hlw⟩, hb⟩; have HLW := hide hlw; have HB3 := hide (show Below w.heap.size w w' from bc (by repeat (first | exact unhide HB2 | refine Below.drew ?_)) hb); have i0 := keep1 hb (b := w.heap.size) (o := 0) (v := .int .i64 x1) (by simp (maxDischargeDepth := 12) [go_sem, le1, lt1, *]); have i1 := keep1 hb (b := w.heap.size) (o := 1) (v := .int .i64 x2) (by simp (maxDischargeDepth := 12) [go_sem, le1, lt1, *]); clear hb hlw))
    all_goals
      go_wp2_with fail
      go_meet
      case rel => exact ⟨uw, gw, cw, rfl, rfl, rfl, by first | exact unhide HLW | exact (unhide HLW).bel (Below.refl _ _).drew, by simp (maxDischargeDepth := 12) [go_sem, le1, lt1, *], by simp (maxDischargeDepth := 12) [go_sem, le1, lt1, *], by repeat (first | exact unhide HB3 | refine Below.drew ?_)⟩
  case rest =>
    obtain ⟨uw, gw, cw, rfl, rfl, rfl, hlw, x0, y0, hw⟩ := hcut
    have HB2 := hide hw
    have HLW := hide hlw
    clear hw hlw HB0
    go_wp2_with fail
    refine (unhide HT _ (unhide HB2)).mono ?_
    rintro e W3 ⟨⟨g2, rfl, hg2, hk2⟩, hb3⟩
    have k0 := keep1 hb3 x0
    have k1 := keep1 hb3 y0
    have HB3 := hide (bc (unhide HB2) hb3)
    have HK2 := hide hk2
    have HLW3 := hide ((unhide HLW).bel hb3)
    have HGW : Hid (F ≠ [] → gw < g2) := hide (fun h => Nat.lt_of_lt_of_le (unhide HLW h).2.1 hg2)
    have HGB : Hid (w.heap.size < g2) := hide (Nat.lt_of_lt_of_le (cell_lt x0) hg2)
    clear hb3 hk2 hg2 x0 y0
    go_wp2_with fail
    refine (pt_conv _ _ _).mono ?_
    rintro e W3' ⟨rfl, hb⟩
    have HK2' := hide ((unhide HK2).bel hb)
    have HB3' := hide (bc (unhide HB3) hb)
    have HLW3' := hide ((unhide HLW3).bel hb)
    have k2 := keep1 hb k0
    have k3 := keep1 hb k1
    clear hb k0 k1
    go_wp2_with fail
    refine (unhide HP _ _ (unhide HK2')).mono ?_
    rintro e W4 ⟨⟨ug, gg, cg, rfl, hmg⟩, hb4⟩
    have HB4 := hide (bc (unhide HB3') hb4)
    have HK4 := hide ((unhide HK2').bel hb4)
    have HLW4 := hide ((unhide HLW3').bel hb4)
    have HMG := hide hmg
    have HGG : Hid (F ≠ [] → g2 < gg) := hide (fun h => Nat.lt_of_lt_of_le (unhide HK2').lt (hmg h).2.1)
    have k4 := keep1 hb4 k2
    have k5 := keep1 hb4 k3
    clear hb4 hmg k2 k3
    go_wp2_with fail
    refine (it_same _ _ gg 0 gw 0 m cg cw F _ (unhide HF) (by omega) (unhide HMG).its (unhide HLW4)).mono ?_
    rintro e W5 ⟨rfl, hb5⟩
    have HB5 := hide (bc (unhide HB4) hb5)
    have HK5 := hide ((unhide HK4).bel hb5)
    have HLW5 := hide ((unhide HLW4).bel hb5)
    have HMG5 := hide ((unhide HMG).bel hb5)
    have k6 := keep1 hb5 k4
    have k7 := keep1 hb5 k5
    clear hb5 k4 k5
    go_wp2_with fail
    refine (unhide HT _ (unhide HB5)).mono ?_
    rintro e W6 ⟨⟨g3, rfl, hg3, hk3⟩, hb6⟩
    have HB6 := hide (bc (unhide HB5) hb6)
    have HK6 := hide ((unhide HK5).bel hb6)
    have HLW6 := hide ((unhide HLW5).bel hb6)
    have HMG6 := hide ((unhide HMG5).bel hb6)
    have HK3 := hide hk3
    have k8 := keep1 hb6 k6
    have k9 := keep1 hb6 k7
    clear hb6 hk3 hg3 k6 k7
    go_wp2_with fail
    refine (pt_same _ _ g2 0 g3 0 n n n L _ (unhide HL) (by omega) (fun _ => ⟨rfl, (unhide HK6).lt, (unhide HK6).ints⟩) (fun _ => ⟨rfl, (unhide HK3).lt, (unhide HK3).ints⟩)).mono ?_
    rintro e W7 ⟨rfl, hb7⟩
    have HB7 := hide (bc (unhide HB6) hb7)
    have HK7 := hide ((unhide HK6).bel hb7)
    have HLW7 := hide ((unhide HLW6).bel hb7)
    have HMG7 := hide ((unhide HMG6).bel hb7)
    have l0 := keep1 hb7 k8
    have l1 := keep1 hb7 k9
    clear hb7 k8 k9
    go_wp2_with fail
    refine (pt_mark (some ⟨g2, 0, none⟩) g2 n n L 1 _ (unhide HL) (by omega) (by omega) (by omega) (fun _ => ⟨rfl, unhide HK7⟩)).mono ?_
    rintro e W8 ⟨rfl, _, hbut⟩
    have t2 : decide ((1 : Int) + (n : Int) * 2 < 0) = false := decide_eq_false (by omega)
    have HB8 : Hid (Below w.heap.size w W8) := hide ((unhide HB7).trans (hbut.bel (B := w.heap.size) (Nat.le_of_lt (unhide HGB))))
    have HLW8 : Hid (Its W8 uw gw 0 F) := hide ((unhide HLW7).but hbut (fun h => Nat.ne_of_lt (unhide HGW h)))
    have HMG8 : Hid (Mine W8 W3'.heap.size ug gg F) := hide (fun h => ⟨(unhide HMG7 h).1, (unhide HMG7 h).2.1, (unhide HMG7 h).2.2.but hbut (Nat.ne_of_gt (unhide HGG h))⟩)
    have l2 := cell_but hbut (Nat.ne_of_lt (unhide HGB)) l0
    have l3 := cell_but hbut (Nat.ne_of_lt (unhide HGB)) l1
    clear hbut l0 l1
    go_wp2_with fail
    refine (it_same _ _ gg 0 gw 0 m cg cw F _ (unhide HF) (by omega) (unhide HMG8).its (unhide HLW8)).mono ?_
    rintro e W9 ⟨rfl, hb9⟩
    have HB9 := hide (bc (unhide HB8) hb9)
    have HLW9 := hide ((unhide HLW8).bel hb9)
    have HMG9 := hide ((unhide HMG8).bel hb9)
    have l4 := keep1 hb9 l2
    have l5 := keep1 hb9 l3
    clear hb9 l2 l3
    go_wp2_with fail
    refine (it_mark ug gg m cg F 1 _ (unhide HF) (by omega) (by omega) (by omega) (fun h => ⟨(unhide HMG9 (fun e => h ((unhide HFN).1 e))).1, (unhide HMG9 (fun e => h ((unhide HFN).1 e))).2.2⟩)).mono ?_
    rintro e W10 ⟨rfl, hk10, hz10, hbut10⟩
    have HGX : Hid (m ≠ 0 → w.heap.size < gg ∧ gw ≠ gg) := hide (fun h => by
      have h1 := unhide HGG (fun e => h ((unhide HFN).1 e))
      have h2 := unhide HGW (fun e => h ((unhide HFN).1 e))
      have h3 := unhide HGB
      omega)
    have HX10 : Hid (Below w.heap.size w W10 ∧ Its W10 uw gw 0 F ∧ W10.cell? ⟨w.heap.size, 0, none⟩ = some (.int .i64 x1) ∧ W10.cell? ⟨w.heap.size, 1, none⟩ = some (.int .i64 x2)) := hide (by
      by_cases h0 : m = 0
      · have e := hz10 h0
        rw [e]
        exact ⟨unhide HB9, unhide HLW9, l4, l5⟩
      · have hg := unhide HGX h0
        exact ⟨(unhide HB9).trans (hbut10.bel (Nat.le_of_lt hg.1)), (unhide HLW9).but hbut10 (fun _ => hg.2), cell_but hbut10 (Nat.ne_of_lt hg.1) l4, cell_but hbut10 (Nat.ne_of_lt hg.1) l5⟩)
    have HMK10 : Hid (Its W10 ug gg 0 (marks 1 m)) := hide (fun h => by
      have h0 : m ≠ 0 := fun e => h (by subst e; rfl)
      exact ⟨(unhide HMG9 (fun e => h0 ((unhide HFN).1 e))).1, (hk10 h0).lt, (hk10 h0).ints⟩)
    clear hk10 hz10 hbut10 l4 l5
    go_wp2_with fail
    refine (it_held ug gg 0 m cg 1 _ (by omega) (by omega) (by omega) (unhide HMK10)).mono ?_
    rintro e W11 ⟨rfl, hs11⟩
    have t3 : decide ((1 : Int) + (m : Int) < 0) = false := decide_eq_false (by omega)
    have t4 : ((1 : Int) + (m : Int) != 1 + (m : Int)) = false := by simp
    have HB11 : Hid (Below w.heap.size w W11) := hide ((unhide HX10).1.trans hs11.bel)
    have HLW11 := hide ((unhide HX10).2.1.bel hs11.bel)
    have HMK11 := hide ((unhide HMK10).bel hs11.bel)
    have p0 : W11.cell? ⟨w.heap.size, 0, none⟩ = some (.int .i64 x1) := (hs11.cell _).trans (unhide HX10).2.2.1
    have p1 : W11.cell? ⟨w.heap.size, 1, none⟩ = some (.int .i64 x2) := (hs11.cell _).trans (unhide HX10).2.2.2
    clear hs11
    go_upto_region 24 with fail
    go_cut [16, 17, 18] (fun s6 s7 s8 wx => ∃ uh gh ch, s6 = .slice uh m ch ∧ s7 = .int .i64 A ∧ s8 = .int .i64 C ∧ Its wx uh gh 0 F ∧ Below W11.heap.size W11 wx)
    case first =>
      have HZ0 := hide (Below.refl W11.heap.size W11)
      go_region_held3 (fun wx => wx.cell? ⟨w.heap.size, 0, none⟩ = some (.int .i64 x1) ∧ wx.cell? ⟨w.heap.size, 1, none⟩ = some (.int .i64 x2))
        (simp (maxDischargeDepth := 12) [go_sem, le1, lt1, *])
        (first
        | (go_at_call 16; refine (unhide HT _ (by repeat (first | exact unhide HB11 | refine Below.drew ?_))).mono ?_; rintro e w' ⟨⟨g1, rfl, hg1, hk1⟩, hb⟩; have HZ1 := hide (show Below W11.heap.size W11 w' from bc (by repeat (first | exact unhide HZ0 | refine Below.drew ?_)) hb); have HK1 := hide hk1; have k0 := keep1 hb (b := w.heap.size) (o := 0) (v := .int .i64 x1) (by simp (maxDischargeDepth := 12) [go_sem, le1, lt1, *]); have k1 := keep1 hb (b := w.heap.size) (o := 1) (v := .int .i64 x2) (by simp (maxDischargeDepth := 12) [go_sem, le1, lt1, *]); clear hb hk1 hg1)
        | (go_at_call 17; refine (pt_conv _ _ _).mono ?_; rintro e w' ⟨rfl, hb⟩; have HKb := hide ((unhide HK1).bel hb); have HZ2 := hide (show Below W11.heap.size W11 w' from bc (by repeat (first | exact unhide HZ1 | refine Below.drew ?_)) hb); have j0 := keep1 hb (b := w.heap.size) (o := 0) (v := .int .i64 x1) (by simp (maxDischargeDepth := 12) [go_sem, le1, lt1, *]); have j1 := keep1 hb (b := w.heap.size) (o := 1) (v := .int .i64 x2) (by simp (maxDischargeDepth := 12) [go_sem, le1, lt1, *]); clear hb)
        | (go_at_call 8; refine (unhide HP _ _ (unhide HKb)).mono ?_; rintro e w' ⟨⟨uh, gh, ch, rfl, hlh⟩, hb⟩; have HLH := hide hlh.its; have HZ3 := hide (show Below W11.heap.size W11 w' from bc (by repeat (first | exact unhide HZ2 | refine Below.drew ?_)) hb); have i0 := keep1 hb (b := w.heap.size) (o := 0) (v := .int .i64 x1) (by simp (maxDischargeDepth := 12) [go_sem, le1, lt1, *]); have i1 := keep1 hb (b := w.heap.size) (o := 1) (v := .int .i64 x2) (by simp (maxDischargeDepth := 12) [go_sem, le1, lt1, *]); clear hb hlh))
      all_goals
        go_wp2_with fail
        go_meet
        case rel => exact ⟨uh, gh, ch, rfl, rfl, rfl, by first | exact unhide HLH | exact (unhide HLH).bel (Below.refl _ _).drew, by repeat (first | exact unhide HZ3 | refine Below.drew ?_)⟩
    case rest =>
      obtain ⟨uh, gh, ch, rfl, rfl, rfl, hlh, hw13⟩ := hcut
      have HLH := hide hlh
      have HB13 := hide (bc (unhide HB11) hw13)
      have HLW13 := hide ((unhide HLW11).bel hw13)
      have HMK13 := hide ((unhide HMK11).bel hw13)
      clear hlh hw13 p0 p1
      go_wp2_with fail
      refine (it_same _ _ gh 0 gw 0 m ch cw F _ (unhide HF) (by omega) (unhide HLH) (unhide HLW13)).mono ?_
      rintro e W14 ⟨rfl, hb14⟩
      have HB14 := hide (bc (unhide HB13) hb14)
      have HMK14 := hide ((unhide HMK13).bel hb14)
      clear hb14
      go_wp2_with fail
      refine (it_held ug gg 0 m cg 1 _ (by omega) (by omega) (by omega) (unhide HMK14)).mono ?_
      rintro e W15 ⟨rfl, hs15⟩
      have HB15 : Hid (Below w.heap.size w W15) := hide ((unhide HB14).trans hs15.bel)
      clear hs15
      go_wp2_with fail
      go_ret
      exact ⟨rfl, unhide HB15⟩
theorem fnExactProbing_walk (u : Option Addr) (n cap : Nat) (L : List Int) (x1 x2 : Int) (w : World) (hn : n ≤ 9223372036854775807) (hl : L.length = n * 2) (hx : n ≠ 0 → ∃ p po, u = some ⟨p, po, none⟩ ∧ p < w.heap.size ∧ IntsAt w p po L) (h0 : (Lit.int .i64 x1).wf = true) (h1 : (Lit.int .i64 x2).wf = true) :
    Calls Try.prog 5 #[.slice u n cap, .agg #[.int .i64 x1, .int .i64 x2]] w fun e w' => e = .returned (.bool true) ∧ Below w.heap.size w w' := by
  by_cases hb : n ≤ 1048576
  · obtain ⟨p, po, hx'⟩ : ∃ p po, n ≠ 0 → u = some ⟨p, po, none⟩ ∧ p < w.heap.size ∧ IntsAt w p po L := by
      by_cases h : n = 0
      · exact ⟨0, 0, fun h' => absurd h h'⟩
      · obtain ⟨p, po, h1⟩ := hx h
        exact ⟨p, po, fun _ => h1⟩
    refine fnExactProbing_core u n cap p po (prL (toPts L n) (x1, x2)).length L (nums (prL (toPts L n) (x1, x2))) x1 x2 (prC (toPts L n) (x1, x2)) (prS (toPts L n) (x1, x2)) w hb (prL_le _ _) (hide hl) (hide (by simp [nums])) (hide hx') (hide fun g W hg => ?_) (hide fun g W hg => ?_)
    · have h := prM_any g n (toPts L n) (x1, x2) W (by rw [toPts_len]; omega) hg.lt (ptsAt_of hg hl)
      rw [toPts_len] at h
      refine h.mono ?_
      rintro e w' ⟨⟨v, he, hr⟩, hb'⟩
      obtain ⟨u', g', c', rfl, hi⟩ := hr.its
      exact ⟨⟨u', g', c', he, hi⟩, hb'⟩
    · have h := prP_any g n (toPts L n) (x1, x2) W (by rw [toPts_len]; omega) hg.lt (ptsAt_of hg hl)
      rw [toPts_len] at h
      refine h.mono ?_
      rintro e w' ⟨⟨v, he, u', g', c', rfl, hi⟩, hb'⟩
      exact ⟨⟨u', g', c', he, fun h0 => hi (fun e => h0 (by rw [e]; rfl))⟩, hb'⟩
  · have HX := hide hx
    clear hx
    go_enter Try.func5, Try.ntmps5
    go_wp2_with fail
    refine (pt_sz_out u n cap 1048576 _ (by omega) (by omega) (by omega) hn).mono ?_
    rintro e W0 ⟨rfl, rfl⟩
    go_wp2_with fail
    go_ret
    exact ⟨rfl, ba (Below.refl _ _) _⟩

theorem fnExactProbing_own : ownKnob Try.prog.godebug = none := by kernel_rfl
theorem fnExactProbing_laidOut : laidOutB Try.prog = true := by kernel_rfl
theorem cells41 : Try.prog.cellsOf 41 = 2 := by kernel_rfl

set_option maxRecDepth 100000 in
theorem fnExactProbing_lifted (os : Os) (started : os.Started) (H : Type) (enc : TypeId × Value → H) :
    ReturnsInHanded {} Try.checked os 5 .any (Rows.fnExactProbingSpec.pre6 enc Try.prog Try.f5 Rows.fnExactProbingRow.domain false) (Rows.fnExactProbingSpec.post enc Try.prog Try.f5 false true false false) := by
  refine returnsInHanded_of_change (C := Try.checked) fnExactProbing_own started (by kernel_rfl) Try.func5
    (ChangeSpec.witness6 (enc := enc) (C := Try.checked) false ⟨#[], #[.slice none 0 0, .agg #[.int .i64 0, .int .i64 0]], []⟩ 8 (by kernel_rfl) (by kernel_rfl) (by kernel_rfl) (by kernel_rfl)) ?_
  intro W base args ds gs before hval0 hW hcnd _
  have hval : ∀ (j : Nat) t v, Try.f5.params[j]? = some t → args[j]? = some v → Value.okWide Try.prog W .any base t v := hval0
  have hW' := hW
  obtain ⟨p, q, hA0, hV, rfl, hfz, hnd⟩ := hW
  have hA : DataW.TrodAll enc Try.prog W 0 (fun _ => true) true Try.f5.params.toList args.toList ds p := hA0
  rw [Try.params5] at hA hval
  obtain ⟨v0, vs0, d0, ds0, p0, q0, hargs, rfl, rfl, h0, r0⟩ := trodAll_cons hA
  obtain ⟨v1, vs1, d1, ds1, p1, q1, rfl, rfl, rfl, h1, r1⟩ := trodAll_cons r0
  obtain ⟨rfl, rfl, rfl⟩ := trodAll_nil r1
  obtain rfl : args = #[v0, v1] := by cases args; simp_all
  obtain ⟨rfl, rfl⟩ := trodVars_none hV
  obtain ⟨a0, len0, cap0, rfl⟩ := okWide_slice Try.underlying40 (hval 0 40 v0 rfl rfl)
  have k0 := h0
  have lt0 : ∀ x ∈ p0, x.block < W.heap.size := by obtain ⟨m, hm⟩ := k0; exact DataW.trod_lt m _ _ _ hm
  obtain ⟨z0, b0, l0, w0⟩ : ∃ L : List Int, len0 ≤ 9223372036854775807 ∧ L.length = len0 * 2 ∧ (len0 ≠ 0 → ∃ p po, a0 = some ⟨p, po, none⟩ ∧ p < W.heap.size ∧ IntsAt W p po L) := by
    obtain ⟨fuel, hf⟩ := h0
    obtain ⟨u, n, cap, L, hcs, hn, hl, hx⟩ := open_structs Try.underlying40 Try.underlying41 (k := 2) (by kernel_rfl) (by decide) rfl (by kernel_rfl) hf
    simp [Value.cells] at hcs
    obtain ⟨rfl, rfl, rfl⟩ := hcs
    exact ⟨L, hn, hl, hx⟩
  have k1 := h1
  have lt1 : ∀ x ∈ p1, x.block < W.heap.size := by obtain ⟨m, hm⟩ := k1; exact DataW.trod_lt m _ _ _ hm
  obtain ⟨c1, kk1, y1, z1, m1, rfl, rfl, rfl, hy1, hz1⟩ := open_agg2 Try.underlying41 (by kernel_rfl) cells41 (hval 1 41 v1 rfl rfl) h1
  obtain ⟨n1, en1, rfl, wn1⟩ := DataW.trod_int Try.underlying3 hy1
  obtain ⟨d1', ed1, rfl, wd1⟩ := DataW.trod_int Try.underlying3 hz1
  simp at en1 ed1
  subst en1 ed1
  clear hA0 hval0
  refine (fnExactProbing_walk a0 len0 cap0 z0 n1 d1' W b0 l0 w0 wn1 wd1).mono fun e W' ⟨he, bel⟩ => ?_
  subst he
  exact ⟨_, rfl, _, _, _, [], _, [], hW', trodAll_mk1 (shut_bool Try.underlying4 _), (trodAll_cons_mk (Below.trod fnExactProbing_laidOut (by kernel_rfl) (of_decide_eq_true (by kernel_rfl)) k0 bel lt0) (trodAll_cons_mk (Below.trod fnExactProbing_laidOut (by kernel_rfl) (of_decide_eq_true (by kernel_rfl)) k1 bel lt1) trodAll_mk0)), rfl, bel.frame _, fun h => by cases h⟩

theorem fnExactProbing_over : Rows.fnExactProbingRow.holds Try.pinned (OpenSpec.ofChange Rows.fnExactProbingSpec) :=
  OpenClaim.holds_of_wide 5 Try.f5 rfl rfl rfl rfl rfl rfl rfl ⟨rfl, rfl, rfl, rfl, rfl⟩ rfl rfl rfl rfl rfl (by kernel_rfl) Try.func5 (by kernel_rfl)
    (of_decide_eq_true (by kernel_rfl)) (by unfold Func.isWrapper; first | (rw [if_pos (by decide +kernel)]; kernel_rfl) | (rw [if_neg (by decide +kernel)]; exact ⟨rfl, rfl⟩))
    (fun os started H enc _ => fnExactProbing_lifted os started H enc)

/-- The statement, as it was given. -/
theorem fnExactProbing_holds : Rows.FnExactProbingSaid := fnExactProbing_over
#print axioms fnExactProbing_holds
end Go.Proofs.Ytdneepojgklciaa
