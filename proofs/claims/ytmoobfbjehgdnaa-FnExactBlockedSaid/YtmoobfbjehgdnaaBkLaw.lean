/-
  The program's Blocked answers as the model at all lists of holes and shafts and all bounds; it changes none; its numbers lie in memory of their own.
-/
import Derived.Test.YtmoobfbjehgdnaaBkPP
import Derived.Test.YtmoobfbjehgdnaaNRows
import Derived.Test.YtmoobfbjehgdnaaChecked
import Derived.Test.YtmoobfbjehgdnaaRows
import Derived.ShutString
import Derived.ChangeOld
import Derived.Lib.SmallJoins
namespace Go.Proofs.Ytmoobfbjehgdnaa
open Go.ChangeShapes Go.WideShapes Go.ChangeAt Go.RowKit
set_option linter.unusedVariables false
set_option linter.unusedSimpArgs false

theorem NAt.past {w w' : World} {u : Option Addr} {q n cap p N : Nat} {L : List Int} (h : NAt w u q n cap L) (h0 : N = 0 → w' = w) (h1 : N ≠ 0 → But p w w') (hne : N ≠ 0 → n ≠ 0 → q ≠ p) : NAt w' u q n cap L := by
  by_cases e : N = 0
  · rw [h0 e]; exact h
  · exact h.but (h1 e) (hne e)
theorem marks_n (c : Int) (n : Nat) : (marks c n).length = n := by simp [marks]
set_option maxHeartbeats 4000000 in
set_option maxRecDepth 100000 in
theorem fnExactBlocked_core (u v : Option Addr) (n cu m cv NH NS : Nat) (H S : List Int) (lo hi : Int) (X Y : List Int) (C : Int) (w : World) (hNH : NH ≤ 400) (hNS : NS ≤ 400) (HX : Hid (X.length = NH)) (HY : Hid (Y.length = NS)) (hn : n ≤ 1048576) (hm : m ≤ 1048576) (HH : Hid (H.length = n)) (HS : Hid (S.length = m))
    (HA : Hid (∀ (W : World), Below w.heap.size w W → Calls Try.prog 10 #[.slice u n cu] W fun e w' => (∃ g, e = .returned (.slice (some ⟨g, 0, none⟩) n n) ∧ W.heap.size ≤ g ∧ iblk w' g 3 H) ∧ Below W.heap.size W w'))
    (HB : Hid (∀ (W : World), Below w.heap.size w W → Calls Try.prog 10 #[.slice v m cv] W fun e w' => (∃ g, e = .returned (.slice (some ⟨g, 0, none⟩) m m) ∧ W.heap.size ≤ g ∧ iblk w' g 3 S) ∧ Below W.heap.size W w'))
    (HM : Hid (∀ (g g' : Nat) (W : World), iblk W g 3 H → iblk W g' 3 S → Calls Try.prog 16 #[.slice (some ⟨g, 0, none⟩) n n, .slice (some ⟨g', 0, none⟩) m m, .int .i64 lo, .int .i64 hi] W fun e w' => (∃ u q c u' q' c', e = .returned (.tuple #[.slice u NH c, .slice u' NS c', .int .i64 C]) ∧ NAt w' u q NH c X ∧ NAt w' u' q' NS c' Y ∧ (NH ≠ 0 → W.heap.size ≤ q) ∧ (NS ≠ 0 → W.heap.size ≤ q') ∧ True) ∧ Below W.heap.size W w'))
    (HP : Hid (∀ (g g' : Nat) (W : World), iblk W g 3 H → iblk W g' 3 S → Calls Try.prog 9 #[.slice (some ⟨g, 0, none⟩) n n, .slice (some ⟨g', 0, none⟩) m m, .int .i64 lo, .int .i64 hi] W fun e w' => (∃ u q c u' q' c', e = .returned (.tuple #[.slice u NH c, .slice u' NS c', .int .i64 C]) ∧ NAt w' u q NH c X ∧ NAt w' u' q' NS c' Y ∧ (NH ≠ 0 → W.heap.size ≤ q) ∧ (NS ≠ 0 → W.heap.size ≤ q') ∧ (NH ≠ 0 → NS ≠ 0 → q ≠ q')) ∧ Below W.heap.size W w')) :
    Calls Try.prog 5 #[.slice u n cu, .slice v m cv, .int .i64 lo, .int .i64 hi] w fun e w' => e = .returned (.bool true) ∧ Below w.heap.size w w' := by
  have cc : (C != C) = false := by simp
  have z1 : decide ((1048576 : Int) < (n : Int)) = false := decide_eq_false (by omega)
  have z2 : decide ((1048576 : Int) < (m : Int)) = false := decide_eq_false (by omega)
  go_enter Try.func5, Try.ntmps5
  go_wp2_with fail
  refine (unhide HA _ (Below.refl _ _)).mono ?_
  rintro e W1 ⟨⟨a1, rfl, hga1, hka1⟩, hb1⟩
  have HBw := hide hb1
  have Ka1 := hide hka1
  clear hka1 hga1
  clear hb1
  go_wp2_with fail
  refine (unhide HB _ (unhide HBw)).mono ?_
  rintro e W2 ⟨⟨b1, rfl, hgb1, hkb1⟩, hb2⟩
  have HBw := hide (bc (unhide HBw) hb2)
  have Ka1 := hide ((unhide Ka1).bel hb2)
  have Kb1 := hide hkb1
  clear hkb1 hgb1
  clear hb2
  go_wp2_with fail
  refine (unhide HM _ _ _ (unhide Ka1) (unhide Kb1)).mono ?_
  rintro e W3 ⟨⟨um, qm, cm, vm, rm, dm, rfl, hpm, htm, hqm, hrm, hnm⟩, hb3⟩
  have HBw := hide (bc (unhide HBw) hb3)
  have Ka1 := hide ((unhide Ka1).bel hb3)
  have Kb1 := hide ((unhide Kb1).bel hb3)
  have Pm := hide hpm
  have Tm := hide htm
  clear hpm htm hqm hrm hnm
  clear hb3
  go_wp2_with fail
  refine (unhide HA _ (unhide HBw)).mono ?_
  rintro e W4 ⟨⟨x0, rfl, hgx0, hkx0⟩, hb4⟩
  have LM : Hid (NH ≠ 0 → qm < x0) := hide (fun h => Nat.lt_of_lt_of_le ((unhide Pm).lt h) hgx0)
  have LS : Hid (NS ≠ 0 → rm < x0) := hide (fun h => Nat.lt_of_lt_of_le ((unhide Tm).lt h) hgx0)
  have LX0 := hide (Nat.le_trans (unhide HBw).size hgx0)
  have HBw := hide (bc (unhide HBw) hb4)
  have Pm := hide ((unhide Pm).bel hb4)
  have Tm := hide ((unhide Tm).bel hb4)
  have Kx0 := hide hkx0
  clear hkx0 hgx0
  clear hb4
  go_wp2_with fail
  refine (unhide HB _ (unhide HBw)).mono ?_
  rintro e W5 ⟨⟨x1, rfl, hgx1, hkx1⟩, hb5⟩
  have LX : Hid (x0 < x1) := hide (Nat.lt_of_lt_of_le (unhide Kx0).lt hgx1)
  have LX1 := hide (Nat.le_trans (unhide HBw).size hgx1)
  have HBw := hide (bc (unhide HBw) hb5)
  have Pm := hide ((unhide Pm).bel hb5)
  have Tm := hide ((unhide Tm).bel hb5)
  have Kx0 := hide ((unhide Kx0).bel hb5)
  have Kx1 := hide hkx1
  clear hkx1 hgx1
  clear hb5
  go_wp2_with fail
  refine (unhide HP _ _ _ (unhide Kx0) (unhide Kx1)).mono ?_
  rintro e W6 ⟨⟨up, qp, cp, vp, rp, dp, rfl, hpp, htp, hqp, hrp, hnp⟩, hb6⟩
  have LP : Hid (NH ≠ 0 → x1 < qp) := hide (fun h => Nat.lt_of_lt_of_le (unhide Kx1).lt (hqp h))
  have LQ : Hid (NS ≠ 0 → x1 < rp) := hide (fun h => Nat.lt_of_lt_of_le (unhide Kx1).lt (hrp h))
  have LN := hide hnp
  have HBw := hide (bc (unhide HBw) hb6)
  have Pm := hide ((unhide Pm).bel hb6)
  have Tm := hide ((unhide Tm).bel hb6)
  have Kx0 := hide ((unhide Kx0).bel hb6)
  have Kx1 := hide ((unhide Kx1).bel hb6)
  have Pp := hide hpp
  have Tp := hide htp
  clear hpp htp hqp hrp hnp
  clear hb6
  go_wp2_with fail
  refine (it_same up um qp 0 qm 0 NH cp cm X _ (unhide HX) (by omega) ((unhide Pp).its (unhide HX)) ((unhide Pm).its (unhide HX))).mono ?_
  rintro e W7 ⟨rfl, hb7⟩
  have HBw := hide (bc (unhide HBw) hb7)
  have Pm := hide ((unhide Pm).bel hb7)
  have Tm := hide ((unhide Tm).bel hb7)
  have Kx0 := hide ((unhide Kx0).bel hb7)
  have Kx1 := hide ((unhide Kx1).bel hb7)
  have Pp := hide ((unhide Pp).bel hb7)
  have Tp := hide ((unhide Tp).bel hb7)
  clear hb7
  go_wp2_with fail
  refine (it_same vp vm rp 0 rm 0 NS dp dm Y _ (unhide HY) (by omega) ((unhide Tp).its (unhide HY)) ((unhide Tm).its (unhide HY))).mono ?_
  rintro e W8 ⟨rfl, hb8⟩
  have HBw := hide (bc (unhide HBw) hb8)
  have Pm := hide ((unhide Pm).bel hb8)
  have Tm := hide ((unhide Tm).bel hb8)
  have Kx0 := hide ((unhide Kx0).bel hb8)
  have Kx1 := hide ((unhide Kx1).bel hb8)
  have Pp := hide ((unhide Pp).bel hb8)
  have Tp := hide ((unhide Tp).bel hb8)
  clear hb8
  go_wp2_with fail
  refine (unhide HA _ (unhide HBw)).mono ?_
  rintro e W9 ⟨⟨a2, rfl, hga2, hka2⟩, hb9⟩
  have HBw := hide (bc (unhide HBw) hb9)
  have Pm := hide ((unhide Pm).bel hb9)
  have Tm := hide ((unhide Tm).bel hb9)
  have Kx0 := hide ((unhide Kx0).bel hb9)
  have Kx1 := hide ((unhide Kx1).bel hb9)
  have Pp := hide ((unhide Pp).bel hb9)
  have Tp := hide ((unhide Tp).bel hb9)
  have Ka2 := hide hka2
  clear hka2 hga2
  clear hb9
  go_wp2_with fail
  refine (it_same (some ⟨x0, 0, none⟩) (some ⟨a2, 0, none⟩) x0 0 a2 0 n n n H _ (unhide HH) (by omega) (unhide Kx0).its (unhide Ka2).its).mono ?_
  rintro e W10 ⟨rfl, hb10⟩
  have HBw := hide (bc (unhide HBw) hb10)
  have Pm := hide ((unhide Pm).bel hb10)
  have Tm := hide ((unhide Tm).bel hb10)
  have Kx0 := hide ((unhide Kx0).bel hb10)
  have Kx1 := hide ((unhide Kx1).bel hb10)
  have Pp := hide ((unhide Pp).bel hb10)
  have Tp := hide ((unhide Tp).bel hb10)
  have Ka2 := hide ((unhide Ka2).bel hb10)
  clear hb10
  go_wp2_with fail
  refine (unhide HB _ (unhide HBw)).mono ?_
  rintro e W11 ⟨⟨b2, rfl, hgb2, hkb2⟩, hb11⟩
  have HBw := hide (bc (unhide HBw) hb11)
  have Pm := hide ((unhide Pm).bel hb11)
  have Tm := hide ((unhide Tm).bel hb11)
  have Kx0 := hide ((unhide Kx0).bel hb11)
  have Kx1 := hide ((unhide Kx1).bel hb11)
  have Pp := hide ((unhide Pp).bel hb11)
  have Tp := hide ((unhide Tp).bel hb11)
  have Kb2 := hide hkb2
  clear hkb2 hgb2
  clear hb11
  go_wp2_with fail
  refine (it_same (some ⟨x1, 0, none⟩) (some ⟨b2, 0, none⟩) x1 0 b2 0 m m m S _ (unhide HS) (by omega) (unhide Kx1).its (unhide Kb2).its).mono ?_
  rintro e W12 ⟨rfl, hb12⟩
  have HBw := hide (bc (unhide HBw) hb12)
  have Pm := hide ((unhide Pm).bel hb12)
  have Tm := hide ((unhide Tm).bel hb12)
  have Kx0 := hide ((unhide Kx0).bel hb12)
  have Kx1 := hide ((unhide Kx1).bel hb12)
  have Pp := hide ((unhide Pp).bel hb12)
  have Tp := hide ((unhide Tp).bel hb12)
  have Kb2 := hide ((unhide Kb2).bel hb12)
  clear hb12
  go_wp2_with fail
  refine (it_markW (some ⟨x0, 0, none⟩) x0 n n H 1 _ (unhide HH) (by omega) (by omega) (by omega) (fun _ => ⟨rfl, unhide Kx0⟩)).mono ?_
  rintro e Wa ⟨rfl, _, _, hba⟩
  have HBw := hide ((unhide HBw).trans (hba.bel (unhide LX0)))
  have Pm := hide ((unhide Pm).but hba (fun h => Nat.ne_of_lt (unhide LM h)))
  have Tm := hide ((unhide Tm).but hba (fun h => Nat.ne_of_lt (unhide LS h)))
  have Pp := hide ((unhide Pp).but hba (fun h => Nat.ne_of_gt (Nat.lt_trans (unhide LX) (unhide LP h))))
  have Tp := hide ((unhide Tp).but hba (fun h => Nat.ne_of_gt (Nat.lt_trans (unhide LX) (unhide LQ h))))
  have Kx1 := hide ((unhide Kx1).but hba (Nat.ne_of_gt (unhide LX)))
  clear hba Kx0
  go_wp2_with fail
  refine (it_markW (some ⟨x1, 0, none⟩) x1 m m S (1 + (n : Int)) _ (unhide HS) (by omega) (by omega) (by omega) (fun _ => ⟨rfl, unhide Kx1⟩)).mono ?_
  rintro e Wb ⟨rfl, _, _, hbb⟩
  have HBw := hide ((unhide HBw).trans (hbb.bel (unhide LX1)))
  have Pm := hide ((unhide Pm).but hbb (fun h => Nat.ne_of_lt (Nat.lt_trans (unhide LM h) (unhide LX))))
  have Tm := hide ((unhide Tm).but hbb (fun h => Nat.ne_of_lt (Nat.lt_trans (unhide LS h) (unhide LX))))
  have Pp := hide ((unhide Pp).but hbb (fun h => Nat.ne_of_gt (unhide LP h)))
  have Tp := hide ((unhide Tp).but hbb (fun h => Nat.ne_of_gt (unhide LQ h)))
  clear hbb Kx1
  have t2 : decide ((1 : Int) + (n : Int) + (m : Int) < 0) = false := decide_eq_false (by omega)
  go_wp2_with fail
  refine (it_same up um qp 0 qm 0 NH cp cm X _ (unhide HX) (by omega) ((unhide Pp).its (unhide HX)) ((unhide Pm).its (unhide HX))).mono ?_
  rintro e W13 ⟨rfl, hb13⟩
  have HBw := hide (bc (unhide HBw) hb13)
  have Pm := hide ((unhide Pm).bel hb13)
  have Tm := hide ((unhide Tm).bel hb13)
  have Pp := hide ((unhide Pp).bel hb13)
  have Tp := hide ((unhide Tp).bel hb13)
  clear hb13
  go_wp2_with fail
  refine (it_same vp vm rp 0 rm 0 NS dp dm Y _ (unhide HY) (by omega) ((unhide Tp).its (unhide HY)) ((unhide Tm).its (unhide HY))).mono ?_
  rintro e W14 ⟨rfl, hb14⟩
  have HBw := hide (bc (unhide HBw) hb14)
  have Pm := hide ((unhide Pm).bel hb14)
  have Tm := hide ((unhide Tm).bel hb14)
  have Pp := hide ((unhide Pp).bel hb14)
  have Tp := hide ((unhide Tp).bel hb14)
  clear hb14
  go_wp2_with fail
  refine (it_markQ up qp NH cp X 1 _ (unhide HX) (by omega) (by omega) (by omega) (unhide Pp)).mono ?_
  rintro e Wc ⟨rfl, hnc, hzc, hbc⟩
  have HBw : Hid (Below w.heap.size w Wc) := hide (by
    by_cases h0 : NH = 0
    · rw [hzc h0]; exact unhide HBw
    · exact (unhide HBw).trans ((hbc h0).bel (Nat.le_trans (unhide LX1) (Nat.le_of_lt (unhide LP h0)))))
  have Pm := hide ((unhide Pm).past hzc hbc (fun h0 h => Nat.ne_of_lt (Nat.lt_trans (unhide LM h) (Nat.lt_trans (unhide LX) (unhide LP h0)))))
  have Tm := hide ((unhide Tm).past hzc hbc (fun h0 h => Nat.ne_of_lt (Nat.lt_trans (unhide LS h) (Nat.lt_trans (unhide LX) (unhide LP h0)))))
  have Tp := hide ((unhide Tp).past hzc hbc (fun h0 h => (unhide LN h0 h).symm))
  have PM := hide hnc
  clear hnc hzc hbc Pp
  go_wp2_with fail
  refine (it_markQ vp rp NS dp Y (1 + (NH : Int)) _ (unhide HY) (by omega) (by omega) (by omega) (unhide Tp)).mono ?_
  rintro e Wd ⟨rfl, hnc, hzc, hbc⟩
  have HBw : Hid (Below w.heap.size w Wd) := hide (by
    by_cases h0 : NS = 0
    · rw [hzc h0]; exact unhide HBw
    · exact (unhide HBw).trans ((hbc h0).bel (Nat.le_trans (unhide LX1) (Nat.le_of_lt (unhide LQ h0)))))
  have Pm := hide ((unhide Pm).past hzc hbc (fun h0 h => Nat.ne_of_lt (Nat.lt_trans (unhide LM h) (Nat.lt_trans (unhide LX) (unhide LQ h0)))))
  have Tm := hide ((unhide Tm).past hzc hbc (fun h0 h => Nat.ne_of_lt (Nat.lt_trans (unhide LS h) (Nat.lt_trans (unhide LX) (unhide LQ h0)))))
  have PM := hide ((unhide PM).past hzc hbc (fun h0 h => unhide LN h h0))
  have TM := hide hnc
  have t3 : decide ((1 : Int) + (NH : Int) < 0) = false := decide_eq_false (by omega)
  have t4 : decide ((1 : Int) + (NH : Int) + (NS : Int) < 0) = false := decide_eq_false (by omega)
  have t5 : ((1 : Int) + (NH : Int) + (NS : Int) != 1 + (NH : Int) + (NS : Int)) = false := by simp
  clear hnc hzc hbc Tp
  go_wp2_with fail
  refine (it_held up qp 0 NH cp 1 _ (by omega) (by omega) (by omega) ((unhide PM).its (marks_n _ _))).mono ?_
  rintro e W15 ⟨rfl, hs15⟩
  have HBw := hide ((unhide HBw).trans hs15.bel)
  have Pm := hide ((unhide Pm).bel hs15.bel)
  have Tm := hide ((unhide Tm).bel hs15.bel)
  have PM := hide ((unhide PM).bel hs15.bel)
  have TM := hide ((unhide TM).bel hs15.bel)
  clear hs15
  go_wp2_with fail
  refine (it_held vp rp 0 NS dp (1 + (NH : Int)) _ (by omega) (by omega) (by omega) ((unhide TM).its (marks_n _ _))).mono ?_
  rintro e W16 ⟨rfl, hs16⟩
  have HBw := hide ((unhide HBw).trans hs16.bel)
  have Pm := hide ((unhide Pm).bel hs16.bel)
  have Tm := hide ((unhide Tm).bel hs16.bel)
  have PM := hide ((unhide PM).bel hs16.bel)
  have TM := hide ((unhide TM).bel hs16.bel)
  clear hs16
  go_wp2_with fail
  refine (unhide HA _ (unhide HBw)).mono ?_
  rintro e W17 ⟨⟨a3, rfl, hga3, hka3⟩, hb17⟩
  have HBw := hide (bc (unhide HBw) hb17)
  have Pm := hide ((unhide Pm).bel hb17)
  have Tm := hide ((unhide Tm).bel hb17)
  have PM := hide ((unhide PM).bel hb17)
  have TM := hide ((unhide TM).bel hb17)
  have Ka3 := hide hka3
  clear hka3 hga3
  clear hb17
  go_wp2_with fail
  refine (unhide HB _ (unhide HBw)).mono ?_
  rintro e W18 ⟨⟨b3, rfl, hgb3, hkb3⟩, hb18⟩
  have HBw := hide (bc (unhide HBw) hb18)
  have Pm := hide ((unhide Pm).bel hb18)
  have Tm := hide ((unhide Tm).bel hb18)
  have PM := hide ((unhide PM).bel hb18)
  have TM := hide ((unhide TM).bel hb18)
  have Ka3 := hide ((unhide Ka3).bel hb18)
  have Kb3 := hide hkb3
  clear hkb3 hgb3
  clear hb18
  go_wp2_with fail
  refine (unhide HP _ _ _ (unhide Ka3) (unhide Kb3)).mono ?_
  rintro e W19 ⟨⟨uh, qh, ch, vh, rh, dh, rfl, hph, hth, hqh, hrh, hnh⟩, hb19⟩
  have HBw := hide (bc (unhide HBw) hb19)
  have Pm := hide ((unhide Pm).bel hb19)
  have Tm := hide ((unhide Tm).bel hb19)
  have PM := hide ((unhide PM).bel hb19)
  have TM := hide ((unhide TM).bel hb19)
  have Ka3 := hide ((unhide Ka3).bel hb19)
  have Kb3 := hide ((unhide Kb3).bel hb19)
  have Ph := hide hph
  have Th := hide hth
  clear hph hth hqh hrh hnh
  clear hb19
  go_wp2_with fail
  refine (it_same uh um qh 0 qm 0 NH ch cm X _ (unhide HX) (by omega) ((unhide Ph).its (unhide HX)) ((unhide Pm).its (unhide HX))).mono ?_
  rintro e W20 ⟨rfl, hb20⟩
  have HBw := hide (bc (unhide HBw) hb20)
  have Pm := hide ((unhide Pm).bel hb20)
  have Tm := hide ((unhide Tm).bel hb20)
  have PM := hide ((unhide PM).bel hb20)
  have TM := hide ((unhide TM).bel hb20)
  have Ph := hide ((unhide Ph).bel hb20)
  have Th := hide ((unhide Th).bel hb20)
  clear hb20
  go_wp2_with fail
  refine (it_same vh vm rh 0 rm 0 NS dh dm Y _ (unhide HY) (by omega) ((unhide Th).its (unhide HY)) ((unhide Tm).its (unhide HY))).mono ?_
  rintro e W21 ⟨rfl, hb21⟩
  have HBw := hide (bc (unhide HBw) hb21)
  have Pm := hide ((unhide Pm).bel hb21)
  have Tm := hide ((unhide Tm).bel hb21)
  have PM := hide ((unhide PM).bel hb21)
  have TM := hide ((unhide TM).bel hb21)
  have Ph := hide ((unhide Ph).bel hb21)
  have Th := hide ((unhide Th).bel hb21)
  clear hb21
  go_wp2_with fail
  refine (it_held up qp 0 NH cp 1 _ (by omega) (by omega) (by omega) ((unhide PM).its (marks_n _ _))).mono ?_
  rintro e W22 ⟨rfl, hs22⟩
  have HBw := hide ((unhide HBw).trans hs22.bel)
  have Pm := hide ((unhide Pm).bel hs22.bel)
  have Tm := hide ((unhide Tm).bel hs22.bel)
  have PM := hide ((unhide PM).bel hs22.bel)
  have TM := hide ((unhide TM).bel hs22.bel)
  have Ph := hide ((unhide Ph).bel hs22.bel)
  have Th := hide ((unhide Th).bel hs22.bel)
  clear hs22
  go_wp2_with fail
  refine (it_held vp rp 0 NS dp (1 + (NH : Int)) _ (by omega) (by omega) (by omega) ((unhide TM).its (marks_n _ _))).mono ?_
  rintro e W23 ⟨rfl, hs23⟩
  have HBw := hide ((unhide HBw).trans hs23.bel)
  have Pm := hide ((unhide Pm).bel hs23.bel)
  have Tm := hide ((unhide Tm).bel hs23.bel)
  have PM := hide ((unhide PM).bel hs23.bel)
  have TM := hide ((unhide TM).bel hs23.bel)
  have Ph := hide ((unhide Ph).bel hs23.bel)
  have Th := hide ((unhide Th).bel hs23.bel)
  clear hs23
  go_wp2_with fail
  go_ret
  exact ⟨rfl, unhide HBw⟩


theorem those_len (P : Int → Prop) (n : Nat) : (those P n).length ≤ n := by
  unfold those
  rw [List.length_map]
  exact Nat.le_trans (List.length_filter_le _ _) (by simp)
theorem bk_len (H S : List Int) (lo hi : Int) : (bkH H S lo hi).length ≤ 400 ∧ (bkS H S lo hi).length ≤ 400 := by
  unfold bkH bkS
  split
  · rename_i h
    have h1 := mtC_ok h
    have h2 := those_len (TH H S lo hi) H.length
    have h3 := those_len (TS H S lo hi) S.length
    omega
  · simp
/-- numbers that came in -/
def IsRow (k : IntKind) (w : World) (a : Option Addr) (len cap : Nat) (zs : List Int) : Prop :=
  (a = none ∧ len = 0 ∧ cap = 0 ∧ zs = []) ∨
  ∃ x, a = some x ∧ len ≤ cap ∧ cap ≤ maxLen ∧ zs.length = cap ∧ (∀ i, i < zs.length → w.cell? (x.add i) = some (.int k (zs.getD i 0))) ∧ ∀ n ∈ zs, (Lit.int k n).wf = true
theorem row_its {w : World} {a : Option Addr} {len cap : Nat} {zs : List Int} (h : IsRow .i64 w a len cap zs) : ∃ p po L, L.length = len ∧ len ≤ maxLen ∧ Its w a p po L := by
  rcases h with ⟨rfl, rfl, rfl, rfl⟩ | ⟨x, rfl, hl, hm, hz, hcell, hwz⟩
  · exact ⟨0, 0, [], rfl, by unfold maxLen; omega, fun h => absurd rfl h⟩
  · by_cases h0 : len = 0
    · exact ⟨0, 0, [], h0.symm, by unfold maxLen; omega, fun h => absurd rfl h⟩
    · obtain ⟨b, off, spot⟩ := x
      have hc := hcell 0 (by omega)
      have hspot : spot = none := by simpa [Addr.add] using World.cell?_spot hc
      subst hspot
      have hc0 : w.cell? ⟨b, off, none⟩ = some (.int .i64 (zs.getD 0 0)) := by simpa [Addr.add] using hc
      refine ⟨b, off, zs.take len, by rw [List.length_take]; omega, by omega, fun _ => ⟨rfl, cell_lt hc0, ?_⟩⟩
      intro j y hj
      rw [List.getElem?_take] at hj
      split at hj
      · have hjl : j < zs.length := (List.getElem?_eq_some_iff.1 hj).1
        have hci := hcell j hjl
        rw [add_none] at hci
        rw [hci]
        have : zs.getD j 0 = y := by rw [List.getD_eq_getElem?_getD, hj]; rfl
        rw [this]
      · cases hj

set_option maxHeartbeats 400000 in
set_option maxRecDepth 100000 in
theorem fnExactBlocked_walk (u : Option Addr) (n cu : Nat) (zs : List Int) (v : Option Addr) (m cv : Nat) (zs2 : List Int) (lo hi : Int) (w : World) (h : IsRow .i64 w u n cu zs) (h2 : IsRow .i64 w v m cv zs2) :
    Calls Try.prog 5 #[.slice u n cu, .slice v m cv, .int .i64 lo, .int .i64 hi] w fun e w' => e = .returned (.bool true) ∧ Below w.heap.size w w' := by
  obtain ⟨p, po, H, hH, hn0, hu⟩ := row_its h
  obtain ⟨q, qo, S, hS, hm0, hv⟩ := row_its h2
  unfold maxLen at hn0 hm0
  clear h h2
  by_cases hn : n ≤ 1048576
  · by_cases hm : m ≤ 1048576
    · refine fnExactBlocked_core u v n cu m cv (bkH H S lo hi).length (bkS H S lo hi).length H S lo hi (bkH H S lo hi) (bkS H S lo hi) (mtC H S lo hi) w (bk_len H S lo hi).1 (bk_len H S lo hi).2 (hide rfl) (hide rfl) hn hm (hide hH) (hide hS)
        (hide fun W hW => it_to u p po n cu H W hH hn (hu.bel hW)) (hide fun W hW => it_to v q qo m cv S W hS hm (hv.bel hW)) (hide fun g g' W hg hg' => ?_) (hide fun g g' W hg hg' => ?_)
      · refine (bkM_any (some ⟨g, 0, none⟩) (some ⟨g', 0, none⟩) g 0 n n g' 0 m m H S lo hi W hH hS hn hm hg.its hg'.its).mono ?_
        rintro e w' ⟨⟨g1, c1, g2, c2, rfl, hr1, hr2⟩, hb⟩
        obtain ⟨a, b, c, e1, h1, h2⟩ := hr1.nat
        obtain ⟨a', b', c', e2, h1', h2'⟩ := hr2.nat
        cases e1
        cases e2
        exact ⟨⟨_, b, _, _, b', _, rfl, h1, h1', fun h => (h2 h).1, fun h => (h2' h).1, trivial⟩, hb⟩
      · refine (bkP_any (some ⟨g, 0, none⟩) (some ⟨g', 0, none⟩) g 0 n n g' 0 m m H S lo hi W hH hS hn hm hg.its hg'.its).mono ?_
        rintro e w' ⟨⟨va, vs, rfl, hr1, hr2, hne⟩, hb⟩
        obtain ⟨a, b, c, rfl, h1, h2⟩ := hr1.nat
        obtain ⟨a', b', c', rfl, h1', h2'⟩ := hr2.nat
        exact ⟨⟨a, b, c, a', b', c', rfl, h1, h1', fun h => (h2 h).1, fun h => (h2' h).1, fun hh hs e => hne b (h2 hh).2 (by rw [e]; exact (h2' hs).2)⟩, hb⟩
    · have z1 : decide ((1048576 : Int) < (n : Int)) = false := decide_eq_false (by omega)
      have z2 : decide ((1048576 : Int) < (m : Int)) = true := decide_eq_true (by omega)
      clear hu hv
      go_enter Try.func5, Try.ntmps5
      go_wp2
      go_ret
      exact ⟨rfl, Below.refl _ _⟩
  · have z1 : decide ((1048576 : Int) < (n : Int)) = true := decide_eq_true (by omega)
    clear hu hv
    go_enter Try.func5, Try.ntmps5
    go_wp2
    go_ret
    exact ⟨rfl, Below.refl _ _⟩

theorem fnExactBlocked_own : ownKnob Try.prog.godebug = none := by kernel_rfl
theorem fnExactBlocked_laidOut : laidOutB Try.prog = true := by kernel_rfl

set_option maxRecDepth 100000 in
theorem fnExactBlocked_lifted (os : Os) (started : os.Started) (H : Type) (enc : TypeId × Value → H) :
    ReturnsInHanded {} Try.checked os 5 .any (Rows.fnExactBlockedSpec.pre6 enc Try.prog Try.f5 Rows.fnExactBlockedRow.domain false) (Rows.fnExactBlockedSpec.post enc Try.prog Try.f5 false true false false) := by
  refine returnsInHanded_of_change (C := Try.checked) fnExactBlocked_own started (by kernel_rfl) Try.func5
    (ChangeSpec.witness6 (enc := enc) (C := Try.checked) false ⟨#[], #[.slice none 0 0, .slice none 0 0, .int .i64 0, .int .i64 0], []⟩ 8 (by kernel_rfl) (by kernel_rfl) (by kernel_rfl) (by kernel_rfl)) ?_
  intro W base args ds gs before hval0 hW hcnd _
  have hval : ∀ (j : Nat) t v, Try.f5.params[j]? = some t → args[j]? = some v → Value.okWide Try.prog W .any base t v := hval0
  have hW' := hW
  obtain ⟨p, q, hA0, hV, rfl, hfz, hnd⟩ := hW
  have hA : DataW.TrodAll enc Try.prog W 0 (fun _ => true) true Try.f5.params.toList args.toList ds p := hA0
  rw [Try.params5] at hA hval
  obtain ⟨v0, vs0, d0, ds0, p0, q0, hargs, rfl, rfl, h0, r0⟩ := trodAll_cons hA
  obtain ⟨v1, vs1, d1, ds1, p1, q1, rfl, rfl, rfl, h1, r1⟩ := trodAll_cons r0
  obtain ⟨v2, vs2, d2, ds2, p2, q2, rfl, rfl, rfl, h2, r2⟩ := trodAll_cons r1
  obtain ⟨v3, vs3, d3, ds3, p3, q3, rfl, rfl, rfl, h3, r3⟩ := trodAll_cons r2
  obtain ⟨rfl, rfl, rfl⟩ := trodAll_nil r3
  obtain rfl : args = #[v0, v1, v2, v3] := by cases args; simp_all
  obtain ⟨rfl, rfl⟩ := trodVars_none hV
  obtain ⟨a0, len0, cap0, rfl⟩ := okWide_slice Try.underlying23 (hval 0 23 v0 rfl rfl)
  have k0 := h0
  have lt0 : ∀ x ∈ p0, x.block < W.heap.size := by obtain ⟨m, hm⟩ := k0; exact DataW.trod_lt m _ _ _ hm
  obtain ⟨z0, w0⟩ : ∃ zs, IsRow .i64 W a0 len0 cap0 zs := by
    obtain ⟨fuel, hf⟩ := h0
    rcases open_ints Try.underlying23 Try.underlying3 (by kernel_rfl) hf with ⟨hcs, _⟩ | ⟨x, l, c, zs, hcs, _, hl, hm, hz, _, hcell, hwz⟩
    · simp [Value.cells] at hcs
      obtain ⟨rfl, rfl, rfl⟩ := hcs
      exact ⟨[], .inl ⟨rfl, rfl, rfl, rfl⟩⟩
    · simp [Value.cells] at hcs
      obtain ⟨rfl, rfl, rfl⟩ := hcs
      exact ⟨zs, .inr ⟨_, rfl, hl, hm, by simpa using hz, hcell, hwz⟩⟩
  obtain ⟨a1, len1, cap1, rfl⟩ := okWide_slice Try.underlying23 (hval 1 23 v1 rfl rfl)
  have k1 := h1
  have lt1 : ∀ x ∈ p1, x.block < W.heap.size := by obtain ⟨m, hm⟩ := k1; exact DataW.trod_lt m _ _ _ hm
  obtain ⟨z1, w1⟩ : ∃ zs, IsRow .i64 W a1 len1 cap1 zs := by
    obtain ⟨fuel, hf⟩ := h1
    rcases open_ints Try.underlying23 Try.underlying3 (by kernel_rfl) hf with ⟨hcs, _⟩ | ⟨x, l, c, zs, hcs, _, hl, hm, hz, _, hcell, hwz⟩
    · simp [Value.cells] at hcs
      obtain ⟨rfl, rfl, rfl⟩ := hcs
      exact ⟨[], .inl ⟨rfl, rfl, rfl, rfl⟩⟩
    · simp [Value.cells] at hcs
      obtain ⟨rfl, rfl, rfl⟩ := hcs
      exact ⟨zs, .inr ⟨_, rfl, hl, hm, by simpa using hz, hcell, hwz⟩⟩
  obtain ⟨i2, rfl, rfl, rfl, w2⟩ := open_int Try.underlying3 (hval 2 3 v2 rfl rfl) h2
  obtain ⟨i3, rfl, rfl, rfl, w3⟩ := open_int Try.underlying3 (hval 3 3 v3 rfl rfl) h3
  clear hA0 hval0
  refine (fnExactBlocked_walk a0 len0 cap0 z0 a1 len1 cap1 z1 i2 i3 W w0 w1).mono fun e W' ⟨he, bel⟩ => ?_
  subst he
  exact ⟨_, rfl, _, _, _, [], _, [], hW', trodAll_mk1 (shut_bool Try.underlying4 _), (trodAll_cons_mk (Below.trod fnExactBlocked_laidOut (by kernel_rfl) (of_decide_eq_true (by kernel_rfl)) k0 bel lt0) (trodAll_cons_mk (Below.trod fnExactBlocked_laidOut (by kernel_rfl) (of_decide_eq_true (by kernel_rfl)) k1 bel lt1) (trodAll_cons_mk (shut_int Try.underlying3 w2) (trodAll_cons_mk (shut_int Try.underlying3 w3) trodAll_mk0)))), rfl, bel.frame _, fun h => by cases h⟩

theorem fnExactBlocked_over : Rows.fnExactBlockedRow.holds Try.pinned (OpenSpec.ofChange Rows.fnExactBlockedSpec) :=
  OpenClaim.holds_of_wide 5 Try.f5 rfl rfl rfl rfl rfl rfl rfl ⟨rfl, rfl, rfl, rfl, rfl⟩ rfl rfl rfl rfl rfl (by kernel_rfl) Try.func5 (by kernel_rfl)
    (of_decide_eq_true (by kernel_rfl)) (by unfold Func.isWrapper; first | (rw [if_pos (by decide +kernel)]; kernel_rfl) | (rw [if_neg (by decide +kernel)]; exact ⟨rfl, rfl⟩))
    (fun os started H enc _ => fnExactBlocked_lifted os started H enc)

/-- The statement, as it was given. -/
theorem fnExactBlocked_holds : Rows.FnExactBlockedSaid := fnExactBlocked_over
#print axioms fnExactBlocked_holds
end Go.Proofs.Ytmoobfbjehgdnaa
