/-
  The program's Rest answers as the model at every two fields, right or not; it changes none.
-/
import Derived.Test.YtbjljofgpbecbaaRst
import Derived.Test.YtbjljofgpbecbaaFdLaw
namespace Go.Proofs.Ytbjljofgpbecbaa
open Go.ChangeShapes Go.WideShapes Go.ChangeAt Go.RowKit Go.Joins
set_option linter.unusedVariables false
set_option linter.unusedSimpArgs false

set_option maxHeartbeats 4000000 in
set_option maxRecDepth 100000 in
theorem fnExactRest_walk (W H : Int) (u : Option Addr) (n c : Nat) (A : List Int) (W' H' : Int) (u' : Option Addr) (n' c' : Nat) (B : List Int) (w : World) (hn : n ≤ 9223372036854775807) (hl : A.length = n)
    (hx : n ≠ 0 → ∃ p po, u = some ⟨p, po, none⟩ ∧ p < w.heap.size ∧ IntsAt w p po A) (hn' : n' ≤ 9223372036854775807) (hl' : B.length = n')
    (hx' : n' ≠ 0 → ∃ p po, u' = some ⟨p, po, none⟩ ∧ p < w.heap.size ∧ IntsAt w p po B) :
    Calls Try.prog 8 #[fldV W H u n c, fldV W' H' u' n' c'] w fun e w' => e = .returned (.bool true) ∧ Below w.heap.size w w' := by
  obtain ⟨p, po, hu⟩ := its_of hl hx
  obtain ⟨p', po', hu'⟩ := its_of hl' hx'
  have HB0 := hide (ba (ba (Below.refl w.heap.size w) (.cells #[.int .i64 W, .int .i64 H, .slice u n c] 42)) (.cells #[.int .i64 W', .int .i64 H', .slice u' n' c'] 42))
  have HV := hide (vb_new1 w 42 [.int .i64 W, .int .i64 H, .slice u n c] (.cells #[.int .i64 W', .int .i64 H', .slice u' n' c'] 42))
  have HV' := hide (vb_new2 w 42 [.int .i64 W', .int .i64 H', .slice u' n' c'] (.cells #[.int .i64 W, .int .i64 H, .slice u n c] 42))
  by_cases hb : n ≤ 1048576
  · have HZ := hide (fun X => fd_sz_in W H u n c 1048576 X (by omega) (by omega))
    have t1 : decide ((1048576 : Int) - (n : Int) < 0) = false := decide_eq_false (by omega)
    by_cases hb' : (n' : Int) ≤ 1048576 - (n : Int)
    · have HZ' := hide (fun X => fd_sz_in W' H' u' n' c' (1048576 - (n : Int)) X (by omega) hb')
      have t2 : decide ((1048576 : Int) - (n : Int) - (n' : Int) < 0) = false := decide_eq_false (by omega)
      have hb2 : n' ≤ 1048576 := by omega
      have HT := hide (fun X (hX : Below w.heap.size w X) => fd_to W H u p po n c A X hl hb (hu.bel hX))
      have HT' := hide (fun X (hX : Below w.heap.size w X) => fd_to W' H' u' p' po' n' c' B X hl' hb2 (hu'.bel hX))
      have HM := hide (fun g g' X (hX : iblk X g 3 A) (hX' : iblk X g' 3 B) => rsM_any W H (some ⟨g, 0, none⟩) g 0 n n A W' H' (some ⟨g', 0, none⟩) g' 0 n' n' B X hl hn hX.its hl' hn' hX'.its)
      have HP := hide (fun g g' X (hX : iblk X g 3 A) (hX' : iblk X g' 3 B) => rsP_any W H (some ⟨g, 0, none⟩) g 0 n n A W' H' (some ⟨g', 0, none⟩) g' 0 n' n' B X hl hn hX.its hl' hn' hX'.its)
      have HE := hide (fun g g' X (hX : iblk X g 3 A) (hY : iblk X g' 3 A) => fd_same W H (some ⟨g, 0, none⟩) (some ⟨g', 0, none⟩) g 0 g' 0 n n n A X hl hb hX.its hY.its)
      have HE' := hide (fun g g' X (hX : iblk X g 3 B) (hY : iblk X g' 3 B) => fd_same W' H' (some ⟨g, 0, none⟩) (some ⟨g', 0, none⟩) g 0 g' 0 n' n' n' B X hl' hb2 hX.its hY.its)
      generalize restS W H A W' H' B = rs at *
      generalize restC W H A W' H' B = rc at *
      have s1 : (rs != rs) = false := by simp
      have s2 : (rc != rc) = false := by simp
      unfold fldV at *
      clear hx hu hl hx' hu' hl'
      go_enter Try.func8, Try.ntmps8
      go_wp2_with fail
      refine (unhide HZ _).mono ?_
      rintro e W0 ⟨rfl, hb0⟩
      have v0 := (unhide HV').bel hb0
      have k0 := v0.cell (m := 0) rfl
      have k1 := v0.cell (m := 1) rfl
      have k2 := v0.cell (m := 2) rfl
      have HV0 := hide ((unhide HV).bel hb0)
      have HV0' := hide v0
      have HB1 := hide (bc (unhide HB0) hb0)
      clear hb0 v0
      go_wp2_with fail
      refine (unhide HZ' _).mono ?_
      rintro e W1 ⟨rfl, hb1⟩
      have v0 := (unhide HV0).bel hb1
      have v1 := (unhide HV0').bel hb1
      have j0 := v0.cell (m := 0) rfl
      have j1 := v0.cell (m := 1) rfl
      have j2 := v0.cell (m := 2) rfl
      have i0 := v1.cell (m := 0) rfl
      have i1 := v1.cell (m := 1) rfl
      have i2 := v1.cell (m := 2) rfl
      have HB2 := hide (bc (unhide HB1) hb1)
      have HVA := hide v0
      have HVB := hide v1
      clear hb1 v0 v1 k0 k1 k2
      go_upto_region 8 with fail
      go_cut [6, 7] (fun s6 s7 wx => s6 = .int .i64 rs ∧ s7 = .int .i64 rc ∧ vb wx (w.heap.size) 42 [.int .i64 W, .int .i64 H, .slice u n c] ∧ vb wx (w.heap.size + 1) 42 [.int .i64 W', .int .i64 H', .slice u' n' c'] ∧ Below w.heap.size w wx)
      case first =>
        go_region_held3 (fun wx => wx.cell? ⟨w.heap.size, 0, none⟩ = some (.int .i64 W) ∧ wx.cell? ⟨w.heap.size, 1, none⟩ = some (.int .i64 H) ∧ wx.cell? ⟨w.heap.size, 2, none⟩ = some (.slice u n c) ∧ wx.cell? ⟨w.heap.size + 1, 0, none⟩ = some (.int .i64 W') ∧ wx.cell? ⟨w.heap.size + 1, 1, none⟩ = some (.int .i64 H') ∧ wx.cell? ⟨w.heap.size + 1, 2, none⟩ = some (.slice u' n' c'))
          (simp (maxDischargeDepth := 12) [go_sem, le1, lt1, *])
          (first
          | (go_at_call 21; with_reducible refine (unhide HT _ (by repeat (first | exact unhide HB2 | refine Below.drew ?_))).mono ?_; rintro e w' ⟨⟨g1, rfl, hg1, hk1⟩, hb⟩; have HBx := hide (show Below W1.heap.size W1 w' from bc (by repeat (first | exact Below.refl _ _ | refine Below.drew ?_)) hb); have HB3 := hide (show Below w.heap.size w w' from bc (unhide HB2) (unhide HBx)); have HK1 := hide hk1; have x0 := keep1 hb (b := w.heap.size) (o := 0) (v := .int .i64 W) (by simp (maxDischargeDepth := 12) [go_sem, le1, lt1, *]); have x1 := keep1 hb (b := w.heap.size) (o := 1) (v := .int .i64 H) (by simp (maxDischargeDepth := 12) [go_sem, le1, lt1, *]); have x2 := keep1 hb (b := w.heap.size) (o := 2) (v := .slice u n c) (by simp (maxDischargeDepth := 12) [go_sem, le1, lt1, *]); have x3 := keep1 hb (b := w.heap.size + 1) (o := 0) (v := .int .i64 W') (by simp (maxDischargeDepth := 12) [go_sem, le1, lt1, *]); have x4 := keep1 hb (b := w.heap.size + 1) (o := 1) (v := .int .i64 H') (by simp (maxDischargeDepth := 12) [go_sem, le1, lt1, *]); have x5 := keep1 hb (b := w.heap.size + 1) (o := 2) (v := .slice u' n' c') (by simp (maxDischargeDepth := 12) [go_sem, le1, lt1, *]); clear hb hk1 hg1)
          | (go_at_call 21; with_reducible refine (unhide HT' _ (by repeat (first | exact unhide HB3 | refine Below.drew ?_))).mono ?_; rintro e w' ⟨⟨g2, rfl, hg2, hk2⟩, hb⟩; have HBy := hide (show Below W1.heap.size W1 w' from bc (by repeat (first | exact unhide HBx | refine Below.drew ?_)) hb); have HK1' := hide (show iblk w' g1 3 A from (unhide HK1).bel (bc (by repeat (first | exact Below.refl _ _ | refine Below.drew ?_)) hb)); have HK2 := hide hk2; have y0 := keep1 hb (b := w.heap.size) (o := 0) (v := .int .i64 W) (by simp (maxDischargeDepth := 12) [go_sem, le1, lt1, *]); have y1 := keep1 hb (b := w.heap.size) (o := 1) (v := .int .i64 H) (by simp (maxDischargeDepth := 12) [go_sem, le1, lt1, *]); have y2 := keep1 hb (b := w.heap.size) (o := 2) (v := .slice u n c) (by simp (maxDischargeDepth := 12) [go_sem, le1, lt1, *]); have y3 := keep1 hb (b := w.heap.size + 1) (o := 0) (v := .int .i64 W') (by simp (maxDischargeDepth := 12) [go_sem, le1, lt1, *]); have y4 := keep1 hb (b := w.heap.size + 1) (o := 1) (v := .int .i64 H') (by simp (maxDischargeDepth := 12) [go_sem, le1, lt1, *]); have y5 := keep1 hb (b := w.heap.size + 1) (o := 2) (v := .slice u' n' c') (by simp (maxDischargeDepth := 12) [go_sem, le1, lt1, *]); clear hb hk2 hg2)
          | (go_at_call 18; with_reducible refine (unhide HM _ _ _ (unhide HK1') (unhide HK2)).mono ?_; rintro e w' ⟨rfl, hb⟩; have HBz := hide (show Below W1.heap.size W1 w' from bc (by repeat (first | exact unhide HBy | refine Below.drew ?_)) hb); have z0 := keep1 hb (b := w.heap.size) (o := 0) (v := .int .i64 W) (by simp (maxDischargeDepth := 12) [go_sem, le1, lt1, *]); have z1 := keep1 hb (b := w.heap.size) (o := 1) (v := .int .i64 H) (by simp (maxDischargeDepth := 12) [go_sem, le1, lt1, *]); have z2 := keep1 hb (b := w.heap.size) (o := 2) (v := .slice u n c) (by simp (maxDischargeDepth := 12) [go_sem, le1, lt1, *]); have z3 := keep1 hb (b := w.heap.size + 1) (o := 0) (v := .int .i64 W') (by simp (maxDischargeDepth := 12) [go_sem, le1, lt1, *]); have z4 := keep1 hb (b := w.heap.size + 1) (o := 1) (v := .int .i64 H') (by simp (maxDischargeDepth := 12) [go_sem, le1, lt1, *]); have z5 := keep1 hb (b := w.heap.size + 1) (o := 2) (v := .slice u' n' c') (by simp (maxDischargeDepth := 12) [go_sem, le1, lt1, *]); clear hb))
        all_goals
          go_wp2_with fail
          go_meet
          case rel => exact ⟨rfl, rfl, (unhide HVA).bel (by repeat (first | exact unhide HBz | refine Below.drew ?_)), (unhide HVB).bel (by repeat (first | exact unhide HBz | refine Below.drew ?_)), (by repeat (first | exact bc (unhide HB2) (unhide HBz) | refine Below.drew ?_))⟩
      case rest =>
        obtain ⟨rfl, rfl, va, vb', hw⟩ := hcut
        have j0 := va.cell (m := 0) rfl
        have j1 := va.cell (m := 1) rfl
        have j2 := va.cell (m := 2) rfl
        have HV2 := hide va
        have HV2' := hide vb'
        have HB3 := hide hw
        clear va vb' hw HVA HVB HB0 HB1 HB2 HV0 HV0' HV HV'
        go_wp2_with fail
        refine (unhide HT _ (unhide HB3)).mono ?_
        rintro e W3 ⟨⟨g3, rfl, hg3, hk3⟩, hb3⟩
        have HK3 := hide hk3
        have HV3 := hide ((unhide HV2).bel hb3)
        have v3 := (unhide HV2').bel hb3
        have HV3' := hide v3
        have HB4 := hide (bc (unhide HB3) hb3)
        clear hb3 hk3 hg3 j0 j1 j2 v3
        have hA : Below W3.heap.size W3 (W3.alloc (.cells #[.int .i64 W, .int .i64 H, .slice (some ⟨g3, 0, none⟩) n n] 25)) := ba (Below.refl _ _) _
        have HX4 := hide (bc (unhide HB4) hA)
        have HK4 := hide ((unhide HK3).bel hA)
        have HV4 := hide ((unhide HV3).bel hA)
        have v4 := (unhide HV3').bel hA
        have HV4' := hide v4
        have i0 := v4.cell (m := 0) rfl
        have i1 := v4.cell (m := 1) rfl
        have i2 := v4.cell (m := 2) rfl
        have HN4 := hide (vb_new W3 25 [.int .i64 W, .int .i64 H, .slice (some ⟨g3, 0, none⟩) n n] W3.heap.size rfl)
        clear hA v4
        obtain ⟨b3, hb3⟩ : ∃ b3, W3.heap.size = b3 := ⟨_, rfl⟩
        go_wp2_with fail
        refine (unhide HT' _ (unhide HX4)).mono ?_
        rintro e W5 ⟨⟨g5, rfl, hg5, hk5⟩, hb5⟩
        have HK5 := hide hk5
        have HK5a := hide ((unhide HK4).bel hb5)
        have HV5 := hide ((unhide HV4).bel hb5)
        have HV5' := hide ((unhide HV4').bel hb5)
        have v5 := (unhide HN4).bel hb5
        rw [hb3] at v5
        have HN5 := hide v5
        have HB5 := hide (bc (unhide HX4) hb5)
        clear hb5 hk5 hg5 v5 HN4 hb3 i0 i1 i2
        have hA : Below W5.heap.size W5 (W5.alloc (.cells #[.int .i64 W', .int .i64 H', .slice (some ⟨g5, 0, none⟩) n' n'] 25)) := ba (Below.refl _ _) _
        have HX6 := hide (bc (unhide HB5) hA)
        have HK6 := hide ((unhide HK5a).bel hA)
        have HK6' := hide ((unhide HK5).bel hA)
        have HV6 := hide ((unhide HV5).bel hA)
        have HV6' := hide ((unhide HV5').bel hA)
        have v6 := (unhide HN5).bel hA
        have i0 := v6.cell (m := 0) rfl
        have i1 := v6.cell (m := 1) rfl
        have i2 := v6.cell (m := 2) rfl
        have HN6 := hide v6
        clear v6
        have HN6' := hide (vb_new W5 25 [.int .i64 W', .int .i64 H', .slice (some ⟨g5, 0, none⟩) n' n'] W5.heap.size rfl)
        clear hA
        go_wp2_with fail
        refine (unhide HP _ _ _ (unhide HK6) (unhide HK6')).mono ?_
        rintro e W7 ⟨rfl, hb7⟩
        have HB7 := hide (bc (unhide HX6) hb7)
        have HK7 := hide ((unhide HK6).bel hb7)
        have HK7' := hide ((unhide HK6').bel hb7)
        have va := (unhide HV6).bel hb7
        have HVb := hide ((unhide HV6').bel hb7)
        have vn := (unhide HN6).bel hb7
        have HNn := hide ((unhide HN6').bel hb7)
        generalize W5.heap.size = b5 at *
        have x0 := va.cell (m := 0) rfl
        have x1 := va.cell (m := 1) rfl
        have x2 := va.cell (m := 2) rfl
        have y0 := vn.cell (m := 0) rfl
        have y1 := vn.cell (m := 1) rfl
        have y2 := vn.cell (m := 2) rfl
        clear hb7 va vn i0 i1 i2
        go_upto_region 14 with fail
        go_cut [52] (fun s52 wx => s52 = .bool false ∧ Below W7.heap.size W7 wx)
        case first =>
          go_region_held3 (fun wx => wx.cell? ⟨w.heap.size, 0, none⟩ = some (.int .i64 W) ∧ wx.cell? ⟨w.heap.size, 1, none⟩ = some (.int .i64 H) ∧ wx.cell? ⟨w.heap.size, 2, none⟩ = some (.slice u n c) ∧ wx.cell? ⟨b3, 0, none⟩ = some (.int .i64 W) ∧ wx.cell? ⟨b3, 1, none⟩ = some (.int .i64 H) ∧ wx.cell? ⟨b3, 2, none⟩ = some (.slice (some ⟨g3, 0, none⟩) n n))
            (simp (maxDischargeDepth := 12) [go_sem, le1, lt1, *])
            (first
            | (go_at_call 21; with_reducible refine (unhide HT _ (by repeat (first | exact unhide HB7 | refine Below.drew ?_))).mono ?_; rintro e w' ⟨⟨g8, rfl, hg8, hk8⟩, hb⟩; have HBx := hide (show Below W7.heap.size W7 w' from bc (by repeat (first | exact Below.refl _ _ | refine Below.drew ?_)) hb); have HK8 := hide hk8; have HK8' := hide ((unhide HK7).bel (unhide HBx)); have p0 := keep1 hb (b := w.heap.size) (o := 0) (v := .int .i64 W) (by simp (maxDischargeDepth := 12) [go_sem, le1, lt1, *]); have p1 := keep1 hb (b := w.heap.size) (o := 1) (v := .int .i64 H) (by simp (maxDischargeDepth := 12) [go_sem, le1, lt1, *]); have p2 := keep1 hb (b := w.heap.size) (o := 2) (v := .slice u n c) (by simp (maxDischargeDepth := 12) [go_sem, le1, lt1, *]); have p3 := keep1 hb (b := b3) (o := 0) (v := .int .i64 W) (by simp (maxDischargeDepth := 12) [go_sem, le1, lt1, *]); have p4 := keep1 hb (b := b3) (o := 1) (v := .int .i64 H) (by simp (maxDischargeDepth := 12) [go_sem, le1, lt1, *]); have p5 := keep1 hb (b := b3) (o := 2) (v := .slice (some ⟨g3, 0, none⟩) n n) (by simp (maxDischargeDepth := 12) [go_sem, le1, lt1, *]); clear hb hk8 hg8)
            | (go_at_call 23; with_reducible refine (unhide HE _ _ _ (unhide HK8') (unhide HK8)).mono ?_; rintro e w' ⟨rfl, hb⟩; have HBy := hide (show Below W7.heap.size W7 w' from bc (by repeat (first | exact unhide HBx | refine Below.drew ?_)) hb); have q0 := keep1 hb (b := w.heap.size) (o := 0) (v := .int .i64 W) (by simp (maxDischargeDepth := 12) [go_sem, le1, lt1, *]); have q1 := keep1 hb (b := w.heap.size) (o := 1) (v := .int .i64 H) (by simp (maxDischargeDepth := 12) [go_sem, le1, lt1, *]); have q2 := keep1 hb (b := w.heap.size) (o := 2) (v := .slice u n c) (by simp (maxDischargeDepth := 12) [go_sem, le1, lt1, *]); have q3 := keep1 hb (b := b3) (o := 0) (v := .int .i64 W) (by simp (maxDischargeDepth := 12) [go_sem, le1, lt1, *]); have q4 := keep1 hb (b := b3) (o := 1) (v := .int .i64 H) (by simp (maxDischargeDepth := 12) [go_sem, le1, lt1, *]); have q5 := keep1 hb (b := b3) (o := 2) (v := .slice (some ⟨g3, 0, none⟩) n n) (by simp (maxDischargeDepth := 12) [go_sem, le1, lt1, *]); clear hb))
          all_goals
            go_wp2_with fail
            go_meet
            case rel => exact ⟨rfl, (by repeat (first | exact unhide HBy | refine Below.drew ?_))⟩
        case rest =>
          obtain ⟨rfl, hw⟩ := hcut
          have HK9 := hide ((unhide HK7').bel hw)
          have vB := (unhide HVb).bel hw
          have vN := (unhide HNn).bel hw
          have HB9 := hide (bc (unhide HB7) hw)
          clear hw x0 x1 x2 y0 y1 y2
          have x0 := vB.cell (m := 0) rfl
          have x1 := vB.cell (m := 1) rfl
          have x2 := vB.cell (m := 2) rfl
          have y0 := vN.cell (m := 0) rfl
          have y1 := vN.cell (m := 1) rfl
          have y2 := vN.cell (m := 2) rfl
          clear vB vN
          go_wp2_with fail
          go_region_held3 (fun wx => wx.cell? ⟨w.heap.size + 1, 0, none⟩ = some (.int .i64 W') ∧ wx.cell? ⟨w.heap.size + 1, 1, none⟩ = some (.int .i64 H') ∧ wx.cell? ⟨w.heap.size + 1, 2, none⟩ = some (.slice u' n' c') ∧ wx.cell? ⟨b5, 0, none⟩ = some (.int .i64 W') ∧ wx.cell? ⟨b5, 1, none⟩ = some (.int .i64 H') ∧ wx.cell? ⟨b5, 2, none⟩ = some (.slice (some ⟨g5, 0, none⟩) n' n'))
            (simp (maxDischargeDepth := 12) [go_sem, le1, lt1, *])
            (first
            | (go_at_call 21; with_reducible refine (unhide HT' _ (by repeat (first | exact unhide HB9 | refine Below.drew ?_))).mono ?_; rintro e w' ⟨⟨g8, rfl, hg8, hk8⟩, hb⟩; have HBx := hide (show Below w.heap.size w w' from bc (by repeat (first | exact unhide HB9 | refine Below.drew ?_)) hb); have HK8 := hide hk8; have HK8' := hide (show iblk w' g5 3 B from (unhide HK9).bel (show Below wc.heap.size wc w' from bc (by repeat (first | exact Below.refl _ _ | refine Below.drew ?_)) hb)); have p0 := keep1 hb (b := w.heap.size + 1) (o := 0) (v := .int .i64 W') (by simp (maxDischargeDepth := 12) [go_sem, le1, lt1, *]); have p1 := keep1 hb (b := w.heap.size + 1) (o := 1) (v := .int .i64 H') (by simp (maxDischargeDepth := 12) [go_sem, le1, lt1, *]); have p2 := keep1 hb (b := w.heap.size + 1) (o := 2) (v := .slice u' n' c') (by simp (maxDischargeDepth := 12) [go_sem, le1, lt1, *]); have p3 := keep1 hb (b := b5) (o := 0) (v := .int .i64 W') (by simp (maxDischargeDepth := 12) [go_sem, le1, lt1, *]); have p4 := keep1 hb (b := b5) (o := 1) (v := .int .i64 H') (by simp (maxDischargeDepth := 12) [go_sem, le1, lt1, *]); have p5 := keep1 hb (b := b5) (o := 2) (v := .slice (some ⟨g5, 0, none⟩) n' n') (by simp (maxDischargeDepth := 12) [go_sem, le1, lt1, *]); clear hb hk8 hg8)
            | (go_at_call 23; with_reducible refine (unhide HE' _ _ _ (unhide HK8') (unhide HK8)).mono ?_; rintro e w' ⟨rfl, hb⟩; have HBy := hide (show Below w.heap.size w w' from bc (by repeat (first | exact unhide HBx | refine Below.drew ?_)) hb); have q0 := keep1 hb (b := w.heap.size + 1) (o := 0) (v := .int .i64 W') (by simp (maxDischargeDepth := 12) [go_sem, le1, lt1, *]); have q1 := keep1 hb (b := w.heap.size + 1) (o := 1) (v := .int .i64 H') (by simp (maxDischargeDepth := 12) [go_sem, le1, lt1, *]); have q2 := keep1 hb (b := w.heap.size + 1) (o := 2) (v := .slice u' n' c') (by simp (maxDischargeDepth := 12) [go_sem, le1, lt1, *]); have q3 := keep1 hb (b := b5) (o := 0) (v := .int .i64 W') (by simp (maxDischargeDepth := 12) [go_sem, le1, lt1, *]); have q4 := keep1 hb (b := b5) (o := 1) (v := .int .i64 H') (by simp (maxDischargeDepth := 12) [go_sem, le1, lt1, *]); have q5 := keep1 hb (b := b5) (o := 2) (v := .slice (some ⟨g5, 0, none⟩) n' n') (by simp (maxDischargeDepth := 12) [go_sem, le1, lt1, *]); clear hb))
          all_goals
            go_wp2_with fail
            go_ret
            exact ⟨rfl, (by repeat (first | exact unhide HBy | refine Below.drew ?_))⟩
    · have HZ' := hide (fun X => fd_sz_out W' H' u' n' c' (1048576 - (n : Int)) X (by omega) (by omega) (by omega) hn')
      unfold fldV at *
      clear hx hu hl hx' hu' hl'
      go_enter Try.func8, Try.ntmps8
      go_wp2_with fail
      refine (unhide HZ _).mono ?_
      rintro e W0 ⟨rfl, hb0⟩
      have v0 := (unhide HV').bel hb0
      have k0 := v0.cell (m := 0) rfl
      have k1 := v0.cell (m := 1) rfl
      have k2 := v0.cell (m := 2) rfl
      have HB1 := hide (bc (unhide HB0) hb0)
      clear hb0 v0
      go_wp2_with fail
      refine (unhide HZ' _).mono ?_
      rintro e W1 ⟨rfl, hb1⟩
      have HB2 := hide (bc (unhide HB1) hb1)
      clear hb1
      go_wp2_with fail
      go_ret
      exact ⟨rfl, unhide HB2⟩
  · have HZ := hide (fun X => fd_sz_out W H u n c 1048576 X (by omega) (by omega) (by omega) hn)
    unfold fldV at *
    clear hx hu hl hx' hu' hl'
    go_enter Try.func8, Try.ntmps8
    go_wp2_with fail
    refine (unhide HZ _).mono ?_
    rintro e W0 ⟨rfl, hb0⟩
    have HB1 := hide (bc (unhide HB0) hb0)
    clear hb0
    go_wp2_with fail
    go_ret
    exact ⟨rfl, unhide HB1⟩
theorem fnExactRest_own : ownKnob Try.prog.godebug = none := by kernel_rfl
theorem fnExactRest_laidOut : laidOutB Try.prog = true := by kernel_rfl

set_option maxRecDepth 100000 in
theorem fnExactRest_lifted (os : Os) (started : os.Started) (H : Type) (enc : TypeId × Value → H) :
    ReturnsInHanded {} Try.checked os 8 .any (Rows.fnExactRestSpec.pre6 enc Try.prog Try.f8 Rows.fnExactRestRow.domain false) (Rows.fnExactRestSpec.post enc Try.prog Try.f8 false true false false) := by
  refine returnsInHanded_of_change (C := Try.checked) fnExactRest_own started (by kernel_rfl) Try.func8
    (ChangeSpec.witness6 (enc := enc) (C := Try.checked) false ⟨#[], #[.agg #[.int .i64 0, .int .i64 0, .slice none 0 0], .agg #[.int .i64 0, .int .i64 0, .slice none 0 0]], []⟩ 8 (by kernel_rfl) (by kernel_rfl) (by kernel_rfl) (by kernel_rfl)) ?_
  intro W base args ds gs before hval0 hW hcnd _
  have hval : ∀ (j : Nat) t v, Try.f8.params[j]? = some t → args[j]? = some v → Value.okWide Try.prog W .any base t v := hval0
  have hW' := hW
  obtain ⟨p, q, hA0, hV, rfl, hfz, hnd⟩ := hW
  have hA : DataW.TrodAll enc Try.prog W 0 (fun _ => true) true Try.f8.params.toList args.toList ds p := hA0
  rw [Try.params8] at hA hval
  obtain ⟨v0, vs0, d0, ds0, p0, q0, hargs, rfl, rfl, h0, r0⟩ := trodAll_cons hA
  obtain ⟨v1, vs1, d1, ds1, p1, q1, rfl, rfl, rfl, h1, r1⟩ := trodAll_cons r0
  obtain ⟨rfl, rfl, rfl⟩ := trodAll_nil r1
  obtain rfl : args = #[v0, v1] := by cases args; simp_all
  obtain ⟨rfl, rfl⟩ := trodVars_none hV
  have k0 := h0
  have lt0 : ∀ x ∈ p0, x.block < W.heap.size := by obtain ⟨m, hm⟩ := k0; exact DataW.trod_lt m _ _ _ hm
  obtain ⟨c0, e0, s0, y0, x0, z0, m0, rfl, rfl, rfl, hy0, hx0, hz0⟩ := open_agg3 Try.underlying42 (by kernel_rfl) cells42 (hval 0 42 v0 rfl rfl) h0
  obtain ⟨n0, en0, _, wn0⟩ := DataW.trod_int Try.underlying3 hy0
  obtain ⟨o0, eo0, _, wo0⟩ := DataW.trod_int Try.underlying3 hx0
  simp at en0 eo0
  subst en0 eo0
  obtain ⟨a0, len0, cap0, L0, hcs0, b0, l0, w0⟩ := open_irow Try.underlying23 Try.underlying3 (by kernel_rfl) hz0
  simp at hcs0
  subst hcs0
  have k1 := h1
  have lt1 : ∀ x ∈ p1, x.block < W.heap.size := by obtain ⟨m, hm⟩ := k1; exact DataW.trod_lt m _ _ _ hm
  obtain ⟨c1, e1, s1, y1, x1, z1, m1, rfl, rfl, rfl, hy1, hx1, hz1⟩ := open_agg3 Try.underlying42 (by kernel_rfl) cells42 (hval 1 42 v1 rfl rfl) h1
  obtain ⟨n1, en1, _, wn1⟩ := DataW.trod_int Try.underlying3 hy1
  obtain ⟨o1, eo1, _, wo1⟩ := DataW.trod_int Try.underlying3 hx1
  simp at en1 eo1
  subst en1 eo1
  obtain ⟨a1, len1, cap1, L1, hcs1, b1, l1, w1⟩ := open_irow Try.underlying23 Try.underlying3 (by kernel_rfl) hz1
  simp at hcs1
  subst hcs1
  clear hA0 hval0
  refine (fnExactRest_walk n0 o0 a0 len0 cap0 L0 n1 o1 a1 len1 cap1 L1 W b0 l0 w0 b1 l1 w1).mono fun e W' ⟨he, bel⟩ => ?_
  subst he
  exact ⟨_, rfl, _, _, _, [], _, [], hW', trodAll_mk1 (shut_bool Try.underlying4 _), (trodAll_cons_mk (Below.trod fnExactRest_laidOut (by kernel_rfl) (of_decide_eq_true (by kernel_rfl)) k0 bel lt0) (trodAll_cons_mk (Below.trod fnExactRest_laidOut (by kernel_rfl) (of_decide_eq_true (by kernel_rfl)) k1 bel lt1) trodAll_mk0)), rfl, bel.frame _, fun h => by cases h⟩

theorem fnExactRest_over : Rows.fnExactRestRow.holds Try.pinned (OpenSpec.ofChange Rows.fnExactRestSpec) :=
  OpenClaim.holds_of_wide 8 Try.f8 rfl rfl rfl rfl rfl rfl rfl ⟨rfl, rfl, rfl, rfl, rfl⟩ rfl rfl rfl rfl rfl (by kernel_rfl) Try.func8 (by kernel_rfl)
    (of_decide_eq_true (by kernel_rfl)) (by unfold Func.isWrapper; first | (rw [if_pos (by decide +kernel)]; kernel_rfl) | (rw [if_neg (by decide +kernel)]; exact ⟨rfl, rfl⟩))
    (fun os started H enc _ => fnExactRest_lifted os started H enc)

/-- The statement, as it was given. -/
theorem fnExactRest_holds : Rows.FnExactRestSaid := fnExactRest_over
#print axioms fnExactRest_holds
end Go.Proofs.Ytbjljofgpbecbaa
