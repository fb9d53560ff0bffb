/-
  The program's Cross answers as the model at every four points, right or not; its spots lie in memory of their own.
-/
import Derived.Test.YtegfghpaldnpeaaCrosses
import Derived.Test.YtegfghpaldnpeaaSpots
import Derived.Test.YtegfghpaldnpeaaRows
import Derived.ChangeOld
import Derived.Lib.SmallJoins
namespace Go.Proofs.Ytegfghpaldnpeaa
open Go.ChangeShapes Go.WideShapes Go.ChangeAt Go.RowKit Go.Joins
set_option linter.unusedVariables false
set_option linter.unusedSimpArgs false

theorem toPt_exact (n d : Int) (w : World) :
    Calls Try.prog 10 #[.agg #[.int .i64 n, .int .i64 d]] w fun e w' => e = .returned (.agg #[.int .i64 n, .int .i64 d]) ∧ w' = ((w.alloc (.cells #[.int .i64 n, .int .i64 d] 23)).alloc (.cells #[.int .i64 n, .int .i64 d] 26)).alloc (.cells #[.int .i64 n, .int .i64 d] 26) := by
  go_enter Try.func10, Try.ntmps10
  go_wp2
  exact bodyPost_ret (v := .agg #[.int .i64 n, .int .i64 d]) (by simp [results, Try.results10, go_sem]) rfl ⟨rfl, by simp [go_sem]⟩

set_option maxHeartbeats 2000000 in
set_option maxRecDepth 100000 in
theorem fnExactCross_core (a1 a2 b1 b2 c1 c2 d1 d2 C : Int) (n : Nat) (F : List Int) (w : World) (hn : n ≤ 2) (hF : Hid (F.length = n * 3))
    (HS : Hid (∀ W, Calls Try.prog 12 #[.agg #[.int .i64 a1, .int .i64 a2], .agg #[.int .i64 b1, .int .i64 b2], .agg #[.int .i64 c1, .int .i64 c2], .agg #[.int .i64 d1, .int .i64 d2]] W fun e w' => (∃ (u : Option Addr) (k cap : Nat), e = .returned (.tuple #[.int .i64 (n : Int), .slice u n cap, .int .i64 C]) ∧ W.heap.size ≤ k ∧ (n ≠ 0 → u = some ⟨k, 0, none⟩ ∧ iblk w' k 57 F)) ∧ Below W.heap.size W w'))
    (HI : Hid (∀ W, Calls Try.prog 13 #[.agg #[.int .i64 a1, .int .i64 a2], .agg #[.int .i64 b1, .int .i64 b2], .agg #[.int .i64 c1, .int .i64 c2], .agg #[.int .i64 d1, .int .i64 d2]] W fun e w' => (∃ (u : Option Addr) (k cap : Nat), e = .returned (.tuple #[.int .i64 (n : Int), .slice u n cap, .int .i64 C]) ∧ W.heap.size ≤ k ∧ (n ≠ 0 → u = some ⟨k, 0, none⟩ ∧ iblk w' k 57 F)) ∧ Below W.heap.size W w')) :
    Calls Try.prog 4 #[.agg #[.int .i64 a1, .int .i64 a2], .agg #[.int .i64 b1, .int .i64 b2], .agg #[.int .i64 c1, .int .i64 c2], .agg #[.int .i64 d1, .int .i64 d2]] w fun e w' => e = .returned (.bool true) ∧ Below w.heap.size w w' := by
  go_enter Try.func4, Try.ntmps4
  go_upto_region 1 with fail
  go_cut [9, 10, 11] (fun s7 s8 s9 wx => ∃ (u : Option Addr) (k cap : Nat), s7 = .int .i64 (n : Int) ∧ s8 = .slice u n cap ∧ s9 = .int .i64 C ∧ (w.heap.size ≤ k ∧ (n ≠ 0 → u = some ⟨k, 0, none⟩ ∧ iblk wx k 57 F)) ∧ k < k + 1 ∧ wx.cell? ⟨w.heap.size, 0, none⟩ = some (.int .i64 a1) ∧ wx.cell? ⟨w.heap.size, 1, none⟩ = some (.int .i64 a2) ∧ wx.cell? ⟨w.heap.size + 1, 0, none⟩ = some (.int .i64 b1) ∧ wx.cell? ⟨w.heap.size + 1, 1, none⟩ = some (.int .i64 b2) ∧ wx.cell? ⟨w.heap.size + 1 + 1, 0, none⟩ = some (.int .i64 c1) ∧ wx.cell? ⟨w.heap.size + 1 + 1, 1, none⟩ = some (.int .i64 c2) ∧ wx.cell? ⟨w.heap.size + 1 + 1 + 1, 0, none⟩ = some (.int .i64 d1) ∧ wx.cell? ⟨w.heap.size + 1 + 1 + 1, 1, none⟩ = some (.int .i64 d2) ∧ Below w.heap.size w wx)
  case first =>
    go_region_held3 (fun wx => wx.cell? ⟨w.heap.size, 0, none⟩ = some (.int .i64 a1) ∧ wx.cell? ⟨w.heap.size, 1, none⟩ = some (.int .i64 a2) ∧ wx.cell? ⟨w.heap.size + 1, 0, none⟩ = some (.int .i64 b1) ∧ wx.cell? ⟨w.heap.size + 1, 1, none⟩ = some (.int .i64 b2) ∧ wx.cell? ⟨w.heap.size + 1 + 1, 0, none⟩ = some (.int .i64 c1) ∧ wx.cell? ⟨w.heap.size + 1 + 1, 1, none⟩ = some (.int .i64 c2) ∧ wx.cell? ⟨w.heap.size + 1 + 1 + 1, 0, none⟩ = some (.int .i64 d1) ∧ wx.cell? ⟨w.heap.size + 1 + 1 + 1, 1, none⟩ = some (.int .i64 d2))
      (simp (maxDischargeDepth := 12) [go_sem, le1, lt1, *])
      (first
      | (go_at_call 10; refine (toPt_exact _ _ _).mono ?_; rintro e w' ⟨rfl, rfl⟩)
      | (go_at_call 12; refine (unhide HS _).mono ?_; rintro e w' ⟨⟨u, k, cap, rfl, hk, hr⟩, hb⟩; have HB := hide hb; have HK := hide hk; have HR := hide hr; have kk0 := keep1 hb (b := w.heap.size) (o := 0) (v := .int .i64 a1) (by simp (maxDischargeDepth := 12) [go_sem, le1, lt1, *]); have kk1 := keep1 hb (b := w.heap.size) (o := 1) (v := .int .i64 a2) (by simp (maxDischargeDepth := 12) [go_sem, le1, lt1, *]); have kk2 := keep1 hb (b := w.heap.size + 1) (o := 0) (v := .int .i64 b1) (by simp (maxDischargeDepth := 12) [go_sem, le1, lt1, *]); have kk3 := keep1 hb (b := w.heap.size + 1) (o := 1) (v := .int .i64 b2) (by simp (maxDischargeDepth := 12) [go_sem, le1, lt1, *]); have kk4 := keep1 hb (b := w.heap.size + 1 + 1) (o := 0) (v := .int .i64 c1) (by simp (maxDischargeDepth := 12) [go_sem, le1, lt1, *]); have kk5 := keep1 hb (b := w.heap.size + 1 + 1) (o := 1) (v := .int .i64 c2) (by simp (maxDischargeDepth := 12) [go_sem, le1, lt1, *]); have kk6 := keep1 hb (b := w.heap.size + 1 + 1 + 1) (o := 0) (v := .int .i64 d1) (by simp (maxDischargeDepth := 12) [go_sem, le1, lt1, *]); have kk7 := keep1 hb (b := w.heap.size + 1 + 1 + 1) (o := 1) (v := .int .i64 d2) (by simp (maxDischargeDepth := 12) [go_sem, le1, lt1, *]); clear hb hk hr))
    all_goals
      go_wp2_with fail
      go_meet
      case rel =>
        refine ⟨_, k, _, rfl, rfl, rfl, ⟨Nat.le_trans (Below.size (B := w.heap.size) (w := w) ?_) (unhide HK), unhide HR⟩, Nat.lt_succ_self _, by simp (maxDischargeDepth := 12) [go_sem, le1, lt1, *], by simp (maxDischargeDepth := 12) [go_sem, le1, lt1, *], by simp (maxDischargeDepth := 12) [go_sem, le1, lt1, *], by simp (maxDischargeDepth := 12) [go_sem, le1, lt1, *], by simp (maxDischargeDepth := 12) [go_sem, le1, lt1, *], by simp (maxDischargeDepth := 12) [go_sem, le1, lt1, *], by simp (maxDischargeDepth := 12) [go_sem, le1, lt1, *], by simp (maxDischargeDepth := 12) [go_sem, le1, lt1, *], ?_⟩
        · repeat (first | exact Below.refl _ _ | refine ba ?_ _ | refine Below.drew ?_)
        · repeat (first | exact Below.refl _ _ | refine ba ?_ _ | refine Below.drew ?_ | refine bc ?_ (unhide HB))
  case rest =>
    obtain ⟨u, k, cap, rfl, rfl, rfl, ⟨hk, hr⟩, _, x0, x1, x2, x3, x4, x5, x6, x7, hw⟩ := hcut
    have HW := hide hw
    have HK := hide hk
    have HR := hide hr
    have la0 := cell_lt x0
    have lb0 := Nat.le_of_lt la0
    have la2 := cell_lt x2
    have lb2 := Nat.le_of_lt la2
    have la4 := cell_lt x4
    have lb4 := Nat.le_of_lt la4
    have la6 := cell_lt x6
    have lb6 := Nat.le_of_lt la6
    clear hw hk hr
    generalize hW1 : wc = W1 at *
    go_upto_region 2 with fail
    go_cut [12, 13, 14] (fun s7 s8 s9 wx => ∃ (u2 : Option Addr) (k2 cap2 : Nat), s7 = .int .i64 (n : Int) ∧ s8 = .slice u2 n cap2 ∧ s9 = .int .i64 C ∧ (W1.heap.size ≤ k2 ∧ (n ≠ 0 → u2 = some ⟨k2, 0, none⟩ ∧ iblk wx k2 57 F)) ∧ wx.cell? ⟨w.heap.size, 0, none⟩ = some (.int .i64 a1) ∧ wx.cell? ⟨w.heap.size, 1, none⟩ = some (.int .i64 a2) ∧ wx.cell? ⟨w.heap.size + 1, 0, none⟩ = some (.int .i64 b1) ∧ wx.cell? ⟨w.heap.size + 1, 1, none⟩ = some (.int .i64 b2) ∧ wx.cell? ⟨w.heap.size + 1 + 1, 0, none⟩ = some (.int .i64 c1) ∧ wx.cell? ⟨w.heap.size + 1 + 1, 1, none⟩ = some (.int .i64 c2) ∧ wx.cell? ⟨w.heap.size + 1 + 1 + 1, 0, none⟩ = some (.int .i64 d1) ∧ wx.cell? ⟨w.heap.size + 1 + 1 + 1, 1, none⟩ = some (.int .i64 d2) ∧ Below W1.heap.size W1 wx)
    case first =>
      go_region_held3 (fun wx => wx.cell? ⟨w.heap.size, 0, none⟩ = some (.int .i64 a1) ∧ wx.cell? ⟨w.heap.size, 1, none⟩ = some (.int .i64 a2) ∧ wx.cell? ⟨w.heap.size + 1, 0, none⟩ = some (.int .i64 b1) ∧ wx.cell? ⟨w.heap.size + 1, 1, none⟩ = some (.int .i64 b2) ∧ wx.cell? ⟨w.heap.size + 1 + 1, 0, none⟩ = some (.int .i64 c1) ∧ wx.cell? ⟨w.heap.size + 1 + 1, 1, none⟩ = some (.int .i64 c2) ∧ wx.cell? ⟨w.heap.size + 1 + 1 + 1, 0, none⟩ = some (.int .i64 d1) ∧ wx.cell? ⟨w.heap.size + 1 + 1 + 1, 1, none⟩ = some (.int .i64 d2))
        (simp (maxDischargeDepth := 12) [go_sem, le1, lt1, *])
        (first
        | (go_at_call 10; refine (toPt_exact _ _ _).mono ?_; rintro e w' ⟨rfl, rfl⟩)
        | (go_at_call 13; refine (unhide HI _).mono ?_; rintro e w' ⟨⟨u2, k2, cap2, rfl, hk, hr⟩, hb⟩; have HB := hide hb; have HK2 := hide hk; have HR2 := hide hr; have kk0 := keep1 hb (b := w.heap.size) (o := 0) (v := .int .i64 a1) (by simp (maxDischargeDepth := 12) [go_sem, le1, lt1, *]); have kk1 := keep1 hb (b := w.heap.size) (o := 1) (v := .int .i64 a2) (by simp (maxDischargeDepth := 12) [go_sem, le1, lt1, *]); have kk2 := keep1 hb (b := w.heap.size + 1) (o := 0) (v := .int .i64 b1) (by simp (maxDischargeDepth := 12) [go_sem, le1, lt1, *]); have kk3 := keep1 hb (b := w.heap.size + 1) (o := 1) (v := .int .i64 b2) (by simp (maxDischargeDepth := 12) [go_sem, le1, lt1, *]); have kk4 := keep1 hb (b := w.heap.size + 1 + 1) (o := 0) (v := .int .i64 c1) (by simp (maxDischargeDepth := 12) [go_sem, le1, lt1, *]); have kk5 := keep1 hb (b := w.heap.size + 1 + 1) (o := 1) (v := .int .i64 c2) (by simp (maxDischargeDepth := 12) [go_sem, le1, lt1, *]); have kk6 := keep1 hb (b := w.heap.size + 1 + 1 + 1) (o := 0) (v := .int .i64 d1) (by simp (maxDischargeDepth := 12) [go_sem, le1, lt1, *]); have kk7 := keep1 hb (b := w.heap.size + 1 + 1 + 1) (o := 1) (v := .int .i64 d2) (by simp (maxDischargeDepth := 12) [go_sem, le1, lt1, *]); clear hb hk hr))
      all_goals
        go_wp2_with fail
        go_meet
        case rel =>
          refine ⟨_, k2, _, rfl, rfl, rfl, ⟨Nat.le_trans (Below.size (B := W1.heap.size) (w := W1) ?_) (unhide HK2), unhide HR2⟩, by simp (maxDischargeDepth := 12) [go_sem, le1, lt1, *], by simp (maxDischargeDepth := 12) [go_sem, le1, lt1, *], by simp (maxDischargeDepth := 12) [go_sem, le1, lt1, *], by simp (maxDischargeDepth := 12) [go_sem, le1, lt1, *], by simp (maxDischargeDepth := 12) [go_sem, le1, lt1, *], by simp (maxDischargeDepth := 12) [go_sem, le1, lt1, *], by simp (maxDischargeDepth := 12) [go_sem, le1, lt1, *], by simp (maxDischargeDepth := 12) [go_sem, le1, lt1, *], ?_⟩
          · repeat (first | exact Below.refl _ _ | refine ba ?_ _ | refine Below.drew ?_)
          · repeat (first | exact Below.refl _ _ | refine ba ?_ _ | refine Below.drew ?_ | refine bc ?_ (unhide HB))
    case rest =>
      obtain ⟨u2, k2, cap2, rfl, rfl, rfl, ⟨hk2, hr2⟩, y0, y1, y2, y3, y4, y5, y6, y7, hw2⟩ := hcut
      generalize hW2 : wc = W2 at *
      have HW2 := hide hw2
      have HK2 := hide hk2
      have HR2 := hide hr2
      have HR1 : Hid (n ≠ 0 → u = some ⟨k, 0, none⟩ ∧ iblk W2 k 57 F) := fun h => ⟨(unhide HR h).1, (unhide HR h).2.bel hw2⟩
      have HL8 : Hid (w.heap.size + 1 + 1 + 1 < k2) := Nat.lt_of_lt_of_le (cell_lt x6) hk2
      have HLT : Hid (n ≠ 0 → k < k2) := fun h => Nat.lt_of_lt_of_le (unhide HR h).2.lt hk2
      clear hw2 hk2 hr2 HR x0 x1 x2 x3 x4 x5 x6 x7 la0 lb0 la2 lb2 la4 lb4 la6 lb6
      go_wp2_with fail
      refine (spot_same u2 u k2 0 k 0 n cap2 cap F _ (unhide hF) (by omega) (fun h => ⟨(unhide HR2 h).1, (unhide HR2 h).2.lt, (unhide HR2 h).2.ints⟩) (fun h => ⟨(unhide HR1 h).1, (unhide HR1 h).2.lt, (unhide HR1 h).2.ints⟩)).mono ?_
      rintro e W3 ⟨rfl, hb⟩
      have HR1b : Hid (n ≠ 0 → u = some ⟨k, 0, none⟩ ∧ iblk W3 k 57 F) := fun h => ⟨(unhide HR1 h).1, (unhide HR1 h).2.bel hb⟩
      have HR2b : Hid (n ≠ 0 → u2 = some ⟨k2, 0, none⟩ ∧ iblk W3 k2 57 F) := fun h => ⟨(unhide HR2 h).1, (unhide HR2 h).2.bel hb⟩
      have z0 := keep1 hb y0
      have z1 := keep1 hb y1
      have z2 := keep1 hb y2
      have z3 := keep1 hb y3
      have z4 := keep1 hb y4
      have z5 := keep1 hb y5
      have z6 := keep1 hb y6
      have z7 := keep1 hb y7
      have HW3 := hide (hb)
      clear hb HR1 HR2 y0 y1 y2 y3 y4 y5 y6 y7
      go_wp2_with fail
      refine (spot_mark u2 k2 n cap2 F 1 _ (unhide hF) (by omega) (by omega) (by omega) (unhide HR2b)).mono ?_
      rintro e W4 ⟨rfl, hm, hbut⟩
      have l8 := unhide HL8
      have q0 := cell_but hbut (by omega) z0
      have q1 := cell_but hbut (by omega) z1
      have q2 := cell_but hbut (by omega) z2
      have q3 := cell_but hbut (by omega) z3
      have q4 := cell_but hbut (by omega) z4
      have q5 := cell_but hbut (by omega) z5
      have q6 := cell_but hbut (by omega) z6
      have q7 := cell_but hbut (by omega) z7
      have HR1c : Hid (n ≠ 0 → u = some ⟨k, 0, none⟩ ∧ iblk W4 k 57 F) := fun h => ⟨(unhide HR1b h).1, (unhide HR1b h).2.but hbut (Nat.ne_of_lt (unhide HLT h))⟩
      have HR2c : Hid (n ≠ 0 → u2 = some ⟨k2, 0, none⟩ ∧ iblk W4 k2 57 (marks 1 (n * 3))) := fun h => ⟨(unhide HR2b h).1, hm h⟩
      have HW4 := hide (bc (bc (unhide HW) (unhide HW2)) (unhide HW3) |>.trans (hbut.bel (B := w.heap.size) (by omega)))
      clear hm hbut l8 HR1b HR2b HW HW2 HW3 z0 z1 z2 z3 z4 z5 z6 z7
      go_wp2_with fail
      refine (spot_held u2 k2 n cap2 1 _ (by omega) (by omega) (by omega) (fun h => ⟨(unhide HR2c h).1, (unhide HR2c h).2.ints⟩)).mono ?_
      rintro e W5 ⟨rfl, hs⟩
      have p0 := keep1 hs.bel q0
      have p1 := keep1 hs.bel q1
      have p2 := keep1 hs.bel q2
      have p3 := keep1 hs.bel q3
      have p4 := keep1 hs.bel q4
      have p5 := keep1 hs.bel q5
      have p6 := keep1 hs.bel q6
      have p7 := keep1 hs.bel q7
      have HR1d : Hid (n ≠ 0 → u = some ⟨k, 0, none⟩ ∧ iblk W5 k 57 F) := fun h => ⟨(unhide HR1c h).1, hs.iblk (unhide HR1c h).2⟩
      have HR2d : Hid (n ≠ 0 → u2 = some ⟨k2, 0, none⟩ ∧ iblk W5 k2 57 (marks 1 (n * 3))) := fun h => ⟨(unhide HR2c h).1, hs.iblk (unhide HR2c h).2⟩
      have HW5 := hide ((unhide HW4).trans hs.bel)
      clear hs HR1c HR2c HW4 q0 q1 q2 q3 q4 q5 q6 q7
      have la0 := cell_lt p0
      have lb0 := Nat.le_of_lt la0
      have la2 := cell_lt p2
      have lb2 := Nat.le_of_lt la2
      have la4 := cell_lt p4
      have lb4 := Nat.le_of_lt la4
      have la6 := cell_lt p6
      have lb6 := Nat.le_of_lt la6
      go_upto_region 13 with fail
      go_cut [17, 18, 19] (fun s7 s8 s9 wx => ∃ (u3 : Option Addr) (k3 cap3 : Nat), s7 = .int .i64 (n : Int) ∧ s8 = .slice u3 n cap3 ∧ s9 = .int .i64 C ∧ (n ≠ 0 → u3 = some ⟨k3, 0, none⟩ ∧ iblk wx k3 57 F) ∧ Below W5.heap.size W5 wx)
      case first =>
        go_region_held3 (fun wx => wx.cell? ⟨w.heap.size, 0, none⟩ = some (.int .i64 a1) ∧ wx.cell? ⟨w.heap.size, 1, none⟩ = some (.int .i64 a2) ∧ wx.cell? ⟨w.heap.size + 1, 0, none⟩ = some (.int .i64 b1) ∧ wx.cell? ⟨w.heap.size + 1, 1, none⟩ = some (.int .i64 b2) ∧ wx.cell? ⟨w.heap.size + 1 + 1, 0, none⟩ = some (.int .i64 c1) ∧ wx.cell? ⟨w.heap.size + 1 + 1, 1, none⟩ = some (.int .i64 c2) ∧ wx.cell? ⟨w.heap.size + 1 + 1 + 1, 0, none⟩ = some (.int .i64 d1) ∧ wx.cell? ⟨w.heap.size + 1 + 1 + 1, 1, none⟩ = some (.int .i64 d2))
          (simp (maxDischargeDepth := 12) [go_sem, le1, lt1, *])
          (first
          | (go_at_call 10; refine (toPt_exact _ _ _).mono ?_; rintro e w' ⟨rfl, rfl⟩)
          | (go_at_call 13; refine (unhide HI _).mono ?_; rintro e w' ⟨⟨u3, k3, cap3, rfl, hk, hr⟩, hb⟩; have HB := hide hb; have HR3 := hide hr; have kk0 := keep1 hb (b := w.heap.size) (o := 0) (v := .int .i64 a1) (by simp (maxDischargeDepth := 12) [go_sem, le1, lt1, *]); have kk1 := keep1 hb (b := w.heap.size) (o := 1) (v := .int .i64 a2) (by simp (maxDischargeDepth := 12) [go_sem, le1, lt1, *]); have kk2 := keep1 hb (b := w.heap.size + 1) (o := 0) (v := .int .i64 b1) (by simp (maxDischargeDepth := 12) [go_sem, le1, lt1, *]); have kk3 := keep1 hb (b := w.heap.size + 1) (o := 1) (v := .int .i64 b2) (by simp (maxDischargeDepth := 12) [go_sem, le1, lt1, *]); have kk4 := keep1 hb (b := w.heap.size + 1 + 1) (o := 0) (v := .int .i64 c1) (by simp (maxDischargeDepth := 12) [go_sem, le1, lt1, *]); have kk5 := keep1 hb (b := w.heap.size + 1 + 1) (o := 1) (v := .int .i64 c2) (by simp (maxDischargeDepth := 12) [go_sem, le1, lt1, *]); have kk6 := keep1 hb (b := w.heap.size + 1 + 1 + 1) (o := 0) (v := .int .i64 d1) (by simp (maxDischargeDepth := 12) [go_sem, le1, lt1, *]); have kk7 := keep1 hb (b := w.heap.size + 1 + 1 + 1) (o := 1) (v := .int .i64 d2) (by simp (maxDischargeDepth := 12) [go_sem, le1, lt1, *]); clear hb hk hr))
        all_goals
          go_wp2_with fail
          go_meet
          case rel =>
            refine ⟨_, k3, _, rfl, rfl, rfl, unhide HR3, ?_⟩
            repeat (first | exact Below.refl _ _ | refine ba ?_ _ | refine Below.drew ?_ | refine bc ?_ (unhide HB))
      case rest =>
        obtain ⟨u3, k3, cap3, rfl, rfl, rfl, hr3, hw3⟩ := hcut
        generalize hW6 : wc = W6 at *
        have HR3 := hide hr3
        have HR1e : Hid (n ≠ 0 → u = some ⟨k, 0, none⟩ ∧ iblk W6 k 57 F) := fun h => ⟨(unhide HR1d h).1, (unhide HR1d h).2.bel hw3⟩
        have HR2e : Hid (n ≠ 0 → u2 = some ⟨k2, 0, none⟩ ∧ iblk W6 k2 57 (marks 1 (n * 3))) := fun h => ⟨(unhide HR2d h).1, (unhide HR2d h).2.bel hw3⟩
        have HW6 := hide (bc (unhide HW5) hw3)
        clear hr3 hw3 HR1d HR2d HW5 p0 p1 p2 p3 p4 p5 p6 p7 la0 lb0 la2 lb2 la4 lb4 la6 lb6
        go_wp2_with fail
        refine (spot_same u3 u k3 0 k 0 n cap3 cap F _ (unhide hF) (by omega) (fun h => ⟨(unhide HR3 h).1, (unhide HR3 h).2.lt, (unhide HR3 h).2.ints⟩) (fun h => ⟨(unhide HR1e h).1, (unhide HR1e h).2.lt, (unhide HR1e h).2.ints⟩)).mono ?_
        rintro e W7 ⟨rfl, hb⟩
        have HR2f : Hid (n ≠ 0 → u2 = some ⟨k2, 0, none⟩ ∧ iblk W7 k2 57 (marks 1 (n * 3))) := fun h => ⟨(unhide HR2e h).1, (unhide HR2e h).2.bel hb⟩
        have HW7 := hide (bc (unhide HW6) hb)
        clear hb HR1e HR2e HR3 HW6
        go_wp2_with fail
        refine (spot_held u2 k2 n cap2 1 _ (by omega) (by omega) (by omega) (fun h => ⟨(unhide HR2f h).1, (unhide HR2f h).2.ints⟩)).mono ?_
        rintro e W8 ⟨rfl, hs⟩
        have HW8 := hide ((unhide HW7).trans hs.bel)
        clear hs
        go_wp2_with fail
        go_ret
        exact ⟨rfl, unhide HW8⟩

theorem along_le (a b c d : Pt) : (along a b c d).length ≤ 2 := by
  unfold along meet
  simp only
  repeat' split
  all_goals simp
theorem cross_le (a b c d : Pt) : (cross a b c d).length ≤ 2 := by
  unfold cross
  simp only
  split
  · split
    · simp
    · exact along_le _ _ _ _
  · split <;> simp
theorem crossL_le (a b c d : Pt) : (crossL a b c d).length ≤ 2 := by
  unfold crossL
  split
  · exact cross_le _ _ _ _
  · simp

theorem fnExactCross_walk (a1 a2 b1 b2 c1 c2 d1 d2 : Int) (w : World) (h0 : (Lit.int .i64 a1).wf = true) (h1 : (Lit.int .i64 a2).wf = true) (h2 : (Lit.int .i64 b1).wf = true) (h3 : (Lit.int .i64 b2).wf = true) (h4 : (Lit.int .i64 c1).wf = true) (h5 : (Lit.int .i64 c2).wf = true) (h6 : (Lit.int .i64 d1).wf = true) (h7 : (Lit.int .i64 d2).wf = true) :
    Calls Try.prog 4 #[.agg #[.int .i64 a1, .int .i64 a2], .agg #[.int .i64 b1, .int .i64 b2], .agg #[.int .i64 c1, .int .i64 c2], .agg #[.int .i64 d1, .int .i64 d2]] w fun e w' => e = .returned (.bool true) ∧ Below w.heap.size w w' := by
  refine fnExactCross_core a1 a2 b1 b2 c1 c2 d1 d2 (crossC (a1, a2) (b1, b2) (c1, c2) (d1, d2)) (crossL (a1, a2) (b1, b2) (c1, c2) (d1, d2)).length (flatS (crossL (a1, a2) (b1, b2) (c1, c2) (d1, d2))) w (crossL_le _ _ _ _) (hide (flatS_len _)) (hide fun W => ?_) (hide fun W => ?_)
  · refine (specCross_any (a1, a2) (b1, b2) (c1, c2) (d1, d2) W).mono ?_
    rintro e w' ⟨⟨v, rfl, hv⟩, hb⟩
    obtain ⟨u, k, cap, rfl, h8, h9⟩ := hv.out
    exact ⟨⟨u, k, cap, rfl, h8, h9⟩, hb⟩
  · refine (implCross_any (a1, a2) (b1, b2) (c1, c2) (d1, d2) W).mono ?_
    rintro e w' ⟨⟨v, rfl, hv⟩, hb⟩
    obtain ⟨u, k, cap, rfl, h8, h9⟩ := hv.out
    exact ⟨⟨u, k, cap, rfl, h8, h9⟩, hb⟩

theorem fnExactCross_own : ownKnob Try.prog.godebug = none := by kernel_rfl
theorem cells23 : Try.prog.cellsOf 23 = 2 := by kernel_rfl

set_option maxRecDepth 100000 in
theorem fnExactCross_lifted (os : Os) (started : os.Started) (H : Type) (enc : TypeId × Value → H) :
    ReturnsInHanded {} Try.checked os 4 .any (Rows.fnExactCrossSpec.pre6 enc Try.prog Try.f4 Rows.fnExactCrossRow.domain false) (Rows.fnExactCrossSpec.post enc Try.prog Try.f4 false true false false) := by
  refine returnsInHanded_of_change (C := Try.checked) fnExactCross_own started (by kernel_rfl) Try.func4
    (ChangeSpec.witness6 (enc := enc) (C := Try.checked) false ⟨#[], #[.agg #[.int .i64 0, .int .i64 0], .agg #[.int .i64 0, .int .i64 0], .agg #[.int .i64 0, .int .i64 0], .agg #[.int .i64 0, .int .i64 0]], []⟩ 8 (by kernel_rfl) (by kernel_rfl) (by kernel_rfl) (by kernel_rfl)) ?_
  intro W base args ds gs before hval0 hW hcnd _
  have hval : ∀ (j : Nat) t v, Try.f4.params[j]? = some t → args[j]? = some v → Value.okWide Try.prog W .any base t v := hval0
  have hW' := hW
  obtain ⟨p, q, hA0, hV, rfl, hfz, hnd⟩ := hW
  have hA : DataW.TrodAll enc Try.prog W 0 (fun _ => true) true Try.f4.params.toList args.toList ds p := hA0
  rw [Try.params4] at hA hval
  obtain ⟨v0, vs0, d0, ds0, p0, q0, hargs, rfl, rfl, h0, r0⟩ := trodAll_cons hA
  obtain ⟨v1, vs1, d1, ds1, p1, q1, rfl, rfl, rfl, h1, r1⟩ := trodAll_cons r0
  obtain ⟨v2, vs2, d2, ds2, p2, q2, rfl, rfl, rfl, h2, r2⟩ := trodAll_cons r1
  obtain ⟨v3, vs3, d3, ds3, p3, q3, rfl, rfl, rfl, h3, r3⟩ := trodAll_cons r2
  obtain ⟨rfl, rfl, rfl⟩ := trodAll_nil r3
  obtain rfl : args = #[v0, v1, v2, v3] := by cases args; simp_all
  obtain ⟨rfl, rfl⟩ := trodVars_none hV
  obtain ⟨c0, k0, y0, z0, m0, rfl, rfl, rfl, hy0, hz0⟩ := open_agg2 Try.underlying23 (by kernel_rfl) cells23 (hval 0 23 v0 rfl rfl) h0
  obtain ⟨n0, en0, rfl, wn0⟩ := DataW.trod_int Try.underlying3 hy0
  obtain ⟨d0', ed0, rfl, wd0⟩ := DataW.trod_int Try.underlying3 hz0
  simp at en0 ed0
  subst en0 ed0
  obtain ⟨c1, k1, y1, z1, m1, rfl, rfl, rfl, hy1, hz1⟩ := open_agg2 Try.underlying23 (by kernel_rfl) cells23 (hval 1 23 v1 rfl rfl) h1
  obtain ⟨n1, en1, rfl, wn1⟩ := DataW.trod_int Try.underlying3 hy1
  obtain ⟨d1', ed1, rfl, wd1⟩ := DataW.trod_int Try.underlying3 hz1
  simp at en1 ed1
  subst en1 ed1
  obtain ⟨c2, k2, y2, z2, m2, rfl, rfl, rfl, hy2, hz2⟩ := open_agg2 Try.underlying23 (by kernel_rfl) cells23 (hval 2 23 v2 rfl rfl) h2
  obtain ⟨n2, en2, rfl, wn2⟩ := DataW.trod_int Try.underlying3 hy2
  obtain ⟨d2', ed2, rfl, wd2⟩ := DataW.trod_int Try.underlying3 hz2
  simp at en2 ed2
  subst en2 ed2
  obtain ⟨c3, k3, y3, z3, m3, rfl, rfl, rfl, hy3, hz3⟩ := open_agg2 Try.underlying23 (by kernel_rfl) cells23 (hval 3 23 v3 rfl rfl) h3
  obtain ⟨n3, en3, rfl, wn3⟩ := DataW.trod_int Try.underlying3 hy3
  obtain ⟨d3', ed3, rfl, wd3⟩ := DataW.trod_int Try.underlying3 hz3
  simp at en3 ed3
  subst en3 ed3
  clear hA0 hval0
  simp only [List.append_nil] at hW'
  refine (fnExactCross_walk n0 d0' n1 d1' n2 d2' n3 d3' W wn0 wd0 wn1 wd1 wn2 wd2 wn3 wd3).mono fun e W' ⟨he, bel⟩ => ?_
  subst he
  exact ⟨_, rfl, _, _, _, [], [], [], hW', trodAll_mk1 (shut_bool Try.underlying4 _), (trodAll_cons_mk (shut_agg2 (y0 := (.lit (.int .i64 n0), [])) (y1 := (.lit (.int .i64 d0'), [])) Try.underlying23 (by kernel_rfl) cells23 ⟨1, by simp [DataW.trod, Try.underlying3, wn0]⟩ ⟨1, by simp [DataW.trod, Try.underlying3, wd0]⟩) (trodAll_cons_mk (shut_agg2 (y0 := (.lit (.int .i64 n1), [])) (y1 := (.lit (.int .i64 d1'), [])) Try.underlying23 (by kernel_rfl) cells23 ⟨1, by simp [DataW.trod, Try.underlying3, wn1]⟩ ⟨1, by simp [DataW.trod, Try.underlying3, wd1]⟩) (trodAll_cons_mk (shut_agg2 (y0 := (.lit (.int .i64 n2), [])) (y1 := (.lit (.int .i64 d2'), [])) Try.underlying23 (by kernel_rfl) cells23 ⟨1, by simp [DataW.trod, Try.underlying3, wn2]⟩ ⟨1, by simp [DataW.trod, Try.underlying3, wd2]⟩) (trodAll_cons_mk (shut_agg2 (y0 := (.lit (.int .i64 n3), [])) (y1 := (.lit (.int .i64 d3'), [])) Try.underlying23 (by kernel_rfl) cells23 ⟨1, by simp [DataW.trod, Try.underlying3, wn3]⟩ ⟨1, by simp [DataW.trod, Try.underlying3, wd3]⟩) trodAll_mk0)))), rfl, bel.frame _, fun h => by cases h⟩

theorem fnExactCross_over : Rows.fnExactCrossRow.holds Try.pinned (OpenSpec.ofChange Rows.fnExactCrossSpec) :=
  OpenClaim.holds_of_wide 4 Try.f4 rfl rfl rfl rfl rfl rfl rfl ⟨rfl, rfl, rfl, rfl, rfl⟩ rfl rfl rfl rfl rfl (by kernel_rfl) Try.func4 (by kernel_rfl)
    (of_decide_eq_true (by kernel_rfl)) (by unfold Func.isWrapper; first | (rw [if_pos (by decide +kernel)]; kernel_rfl) | (rw [if_neg (by decide +kernel)]; exact ⟨rfl, rfl⟩))
    (fun os started H enc _ => fnExactCross_lifted os started H enc)

/-- The statement, as it was given. -/
theorem fnExactCross_holds : Rows.FnExactCrossSaid := fnExactCross_over
#print axioms fnExactCross_holds
end Go.Proofs.Ytegfghpaldnpeaa
