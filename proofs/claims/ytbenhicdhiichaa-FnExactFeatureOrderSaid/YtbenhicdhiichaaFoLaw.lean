/-
  The program's FeatureOrder answers as the model at every list of features, right or not; it changes none; its names lie in memory of their own.
-/
import Derived.Test.YtbenhicdhiichaaFoM
import Derived.Test.YtbenhicdhiichaaFoP
import Derived.Test.YtbenhicdhiichaaFtRows
import Derived.Test.YtbenhicdhiichaaFtTo
import Derived.Test.YtbenhicdhiichaaFtSz
import Derived.Test.YtbenhicdhiichaaFtMark
import Derived.Test.YtbenhicdhiichaaStRows
import Derived.Test.YtbenhicdhiichaaFtOpen
import Derived.Test.YtbenhicdhiichaaChecked
import Derived.Test.YtbenhicdhiichaaRows
import Derived.ChangeOld
import Derived.Lib.SmallJoins
namespace Go.Proofs.Ytbenhicdhiichaa
open Go.ChangeShapes Go.WideShapes Go.ChangeAt Go.RowKit Go.Joins
set_option linter.unusedVariables false
set_option linter.unusedSimpArgs false

theorem SRow.keep {w w' : World} {B M : Nat} {v : Value} {l : List ByteArray} (h : SRow w B v l) (hM : w.heap.size ≤ M) (hb : Below M w w') : SRow w' B v l := own_kept h (fun g hg => hb.block g (Nat.lt_of_lt_of_le (own_ge h g hg).2 hM))
theorem SRow.mw {w w' : World} {B g : Nat} {v : Value} {l : List ByteArray} (h : SRow w B v l) (hm : Mw g w w') (hg : g < B) : SRow w' B v l := own_kept h (fun k hk => hm.block k (own_ge h k hk).2 (by have := (own_ge h k hk).1; omega))
theorem StAt.nil (w : World) (u : Option Addr) : StAt w u [] := fun h => absurd rfl h
theorem mkS_zero (c : Nat) : mkS c 0 = [] := rfl

set_option maxHeartbeats 8000000 in
set_option maxRecDepth 100000 in
theorem fnExactFeatureOrder_core (u : Option Addr) (n cap p po m1 m2 : Nat) (fs : List Ft) (X Y : List ByteArray) (C : Int) (w : World) (hX : X.length = m1) (hY : Y.length = m2) (hm1 : m1 ≤ 4096) (hm2 : m2 ≤ 4096) (hone : m1 = 0 ∨ m2 = 0) (hnn : n ≤ 1048576) (HL : Hid (fs.length = n))
    (HSZ : Hid (Calls Try.prog 5 #[.slice u n cap, .int .i64 1048576] w fun e w' => (∃ r : Int, e = .returned (.int .i64 r)) ∧ Below w.heap.size w w'))
    (HT : Hid (∀ (W : World), Below w.heap.size w W → Calls Try.prog 7 #[.slice u n cap] W fun e w' => (∃ g, e = .returned (.slice (some ⟨g, 0, none⟩) n n) ∧ W.heap.size ≤ g ∧ vb w' g 49 (flatG ftc fs)) ∧ Below W.heap.size W w'))
    (HM : Hid (∀ (g : Nat) (W : World), vb W g 49 (flatG ftc fs) → Calls Try.prog 6 #[.slice (some ⟨g, 0, none⟩) n n] W fun e w' => (∃ a k b j, e = .returned (.tuple #[.slice a m1 k, .int .i64 C, .slice b m2 j]) ∧ SRow w' W.heap.size (.slice a m1 k) X ∧ SRow w' W.heap.size (.slice b m2 j) Y) ∧ Below W.heap.size W w'))
    (HP : Hid (∀ (g : Nat) (W : World), vb W g 49 (flatG ftc fs) → Calls Try.prog 8 #[.slice (some ⟨g, 0, none⟩) n n] W fun e w' => (∃ a k b j, e = .returned (.tuple #[.slice a m1 k, .int .i64 C, .slice b m2 j]) ∧ SRow w' W.heap.size (.slice a m1 k) X ∧ SRow w' W.heap.size (.slice b m2 j) Y) ∧ Below W.heap.size W w')) :
    Calls Try.prog 3 #[.slice u n cap] w fun e w' => e = .returned (.bool true) ∧ Below w.heap.size w w' := by
  have HE := hide (fun (g g' : Nat) (W : World) (hg : vb W g 49 (flatG ftc fs)) (hg' : vb W g' 49 (flatG ftc fs)) => ft_same (some ⟨g, 0, none⟩) (some ⟨g', 0, none⟩) g 0 g' 0 n n n fs W (unhide HL) (by omega) (hg.slG ftc_len) (hg'.slG ftc_len))
  have HX := hide hX
  have HY := hide hY
  have HON := hide hone
  have cc : (C != C) = false := by simp
  have HSX := hide (fun (a b : Option Addr) (k j : Nat) (W : World) (ha : StAt W a X) (hb : StAt W b X) => st_same a b m1 k j X W hX (by omega) ha hb)
  have HSY := hide (fun (a b : Option Addr) (k j : Nat) (W : World) (ha : StAt W a Y) (hb : StAt W b Y) => st_same a b m2 k j Y W hY (by omega) ha hb)
  have HFL := hide (flatG_len ftc_len fs)
  clear hX hY hone
  go_enter Try.func3, Try.ntmps3
  go_wp2_with fail
  refine (unhide HSZ).mono ?_
  rintro e W0 ⟨⟨r, rfl⟩, hb⟩
  have HB0 := hide hb
  clear hb HSZ
  by_cases hz : r < 0
  · have t : decide (r < 0) = true := decide_eq_true hz
    go_wp2_with fail
    go_ret
    exact ⟨rfl, unhide HB0⟩
  have t : decide (r < 0) = false := decide_eq_false hz
  go_wp2_with fail
  refine (unhide HT _ (unhide HB0)).mono ?_
  rintro e W1 ⟨⟨g1, rfl, hg1, hk1⟩, hb1⟩
  have HB1 := hide (bc (unhide HB0) hb1)
  have HK1 := hide hk1
  clear hb1 hk1 hg1
  go_wp2_with fail
  refine (unhide HM _ _ (unhide HK1)).mono ?_
  rintro e W2 ⟨⟨a1, k1, b1, j1, rfl, hs1, hs2⟩, hb2⟩
  have HB2 := hide (bc (unhide HB1) hb2)
  have HM1 := hide hs1
  have HM2 := hide hs2
  clear hb2 hs1 hs2 HM
  have HMX : Hid (∀ W, Below W2.heap.size W2 W → StAt W a1 X) := hide (fun W h => ((unhide HM1).keep (Nat.le_refl _) h).stAt.2)
  have HMY : Hid (∀ W, Below W2.heap.size W2 W → StAt W b1 Y) := hide (fun W h => ((unhide HM2).keep (Nat.le_refl _) h).stAt.2)
  go_wp2_with fail
  refine (unhide HT _ (unhide HB2)).mono ?_
  rintro e W3 ⟨⟨g2, rfl, hg2, hk2⟩, hb3⟩
  have HB3 := hide (bc (unhide HB2) hb3)
  have HD3 := hide hb3
  have HK2 := hide hk2
  have HG2 := hide hg2
  have HG2l := hide hk2.lt
  clear hb3 hk2 hg2
  go_wp2_with fail
  refine (unhide HP _ _ (unhide HK2)).mono ?_
  rintro e W4 ⟨⟨a2, k2, b2, j2, rfl, hs1, hs2⟩, hb4⟩
  have HB4 := hide (bc (unhide HB3) hb4)
  have HD4 := hide (bc (unhide HD3) hb4)
  have HK3 := hide ((unhide HK2).bel hb4)
  have HP1 := hide hs1
  have HP2 := hide hs2
  have HS34 := hide hb4.size
  clear hb4 hs1 hs2
  go_wp2_with fail
  refine (unhide HSX a2 a1 k2 k1 _ (unhide HP1).stAt.2 (unhide HMX _ (unhide HD4))).mono ?_
  rintro e W5 ⟨rfl, hb⟩
  have HQ5 := hide (hb)
  have HB5 := hide (bc (unhide HB4) hb)
  have HD5 := hide ((unhide HD4).trans (hb.mono (unhide HD4).size))
  have HPa5 := hide ((unhide HP1).bel hb)
  have HPb5 := hide ((unhide HP2).bel hb)
  have HK_5 := hide ((unhide HK3).bel hb)
  clear hb
  go_wp2_with fail
  refine (unhide HSY b2 b1 j2 j1 _ (unhide HPb5).stAt.2 (unhide HMY _ (unhide HD5))).mono ?_
  rintro e W6 ⟨rfl, hb⟩
  have HQ6 := hide (bc (unhide HQ5) hb)
  have HB6 := hide (bc (unhide HB5) hb)
  have HD6 := hide ((unhide HD5).trans (hb.mono (unhide HD5).size))
  have HPa6 := hide ((unhide HPa5).bel hb)
  have HPb6 := hide ((unhide HPb5).bel hb)
  have HK_6 := hide ((unhide HK_5).bel hb)
  clear hb
  go_wp2_with fail
  refine (unhide HT _ (unhide HB6)).mono ?_
  rintro e W7 ⟨⟨g3, rfl, hg3, hk3⟩, hb⟩
  have HKq := hide hk3
  clear hk3 hg3
  have HQ7 := hide (bc (unhide HQ6) hb)
  have HB7 := hide (bc (unhide HB6) hb)
  have HD7 := hide ((unhide HD6).trans (hb.mono (unhide HD6).size))
  have HPa7 := hide ((unhide HPa6).bel hb)
  have HPb7 := hide ((unhide HPb6).bel hb)
  have HK_7 := hide ((unhide HK_6).bel hb)
  clear hb
  go_wp2_with fail
  refine (unhide HE _ _ _ (unhide HK_7) (unhide HKq)).mono ?_
  rintro e W8 ⟨rfl, hb⟩
  have HQ8 := hide (bc (unhide HQ7) hb)
  have HB8 := hide (bc (unhide HB7) hb)
  have HD8 := hide ((unhide HD7).trans (hb.mono (unhide HD7).size))
  have HPa8 := hide ((unhide HPa7).bel hb)
  have HPb8 := hide ((unhide HPb7).bel hb)
  have HK_8 := hide ((unhide HK_7).bel hb)
  clear hb
  go_wp2_with fail
  refine (ft_mark (some ⟨g2, 0, none⟩) g2 n n 1 (flatG ftc fs) _ (by rw [unhide HFL, unhide HL]) hnn (by omega) (by omega) rfl (unhide HK_8)).mono ?_
  rintro e W9 ⟨rfl, hmw⟩
  have t2 : decide (((1 : Nat) : Int) + 15 * (n : Int) < 0) = false := decide_eq_false (by omega)
  have t2b : decide ((1 : Int) + 15 * (n : Int) < 0) = false := decide_eq_false (by omega)
  have HQ9 : Hid (Mw g2 W4 W9) := hide (⟨hmw.os.trans (unhide HQ8).os, hmw.tape.trans (unhide HQ8).tape, hmw.output.trans (unhide HQ8).output, Nat.le_trans (unhide HQ8).size hmw.size, fun k hk hg => (hmw.block k (Nat.lt_of_lt_of_le hk (unhide HQ8).size) hg).trans ((unhide HQ8).block k hk)⟩)
  have HB9 : Hid (Below w.heap.size w W9) := hide ((unhide HB8).trans (hmw.below (Nat.le_trans (unhide HB2).size (unhide HG2)) (unhide HB8).size))
  have HD9 : Hid (Below W2.heap.size W2 W9) := hide ((unhide HD8).trans (hmw.below (unhide HG2) (unhide HD8).size))
  have HPa9 := hide ((unhide HPa8).mw hmw (unhide HG2l))
  have HPb9 := hide ((unhide HPb8).mw hmw (unhide HG2l))
  clear hmw
  go_wp2_with fail
  refine (unhide HSX a2 a1 k2 k1 _ (unhide HPa9).stAt.2 (unhide HMX _ (unhide HD9))).mono ?_
  rintro e W10 ⟨rfl, hb⟩
  have HQ10 := hide (hb)
  have HB10 := hide (bc (unhide HB9) hb)
  have HD10 := hide ((unhide HD9).trans (hb.mono (unhide HD9).size))
  have HPa10 := hide ((unhide HPa9).bel hb)
  have HPb10 := hide ((unhide HPb9).bel hb)
  clear hb
  go_wp2_with fail
  refine (unhide HSY b2 b1 j2 j1 _ (unhide HPb10).stAt.2 (unhide HMY _ (unhide HD10))).mono ?_
  rintro e W11 ⟨rfl, hb⟩
  have HQ11 := hide (bc (unhide HQ10) hb)
  have HB11 := hide (bc (unhide HB10) hb)
  have HD11 := hide ((unhide HD10).trans (hb.mono (unhide HD10).size))
  have HPa11 := hide ((unhide HPa10).bel hb)
  have HPb11 := hide ((unhide HPb10).bel hb)
  clear hb
  rcases unhide HON with h0 | h0
  · subst h0
    have HSZ11 : Hid (W3.heap.size ≤ W11.heap.size) := hide (Nat.le_trans (unhide HS34) (Nat.le_trans (unhide HQ9).size (unhide HQ11).size))
    go_wp2_with fail
    refine (st_mark0 a2 k2 _ _).mono ?_
    rintro e Wq ⟨rfl, hww⟩
    rw [hww]
    clear hww Wq
    go_wp2_with fail
    refine (st_mark b2 W3.heap.size m2 j2 1 Y _ (unhide HY) (by omega) (by omega) (by omega) (unhide HPb11)).mono ?_
    rintro e W12 ⟨rfl, hsm, hz0, hz1⟩
    have hb12 : Below W3.heap.size W11 W12 := by
      by_cases h0 : m2 = 0
      · rw [hz0 h0]; exact Below.refl _ _
      · obtain ⟨g, _, hg, hmw⟩ := hz1 h0
        exact hmw.below hg (unhide HSZ11)
    have HB12 := hide ((unhide HB11).trans (hb12.mono (unhide HB3).size))
    have HD12 := hide ((unhide HD11).trans (hb12.mono (unhide HD3).size))
    have HP12 := hide hsm
    clear hsm hz0 hz1 hb12
    have t3 : decide (((1 : Nat) : Int) + (m2 : Int) < 0) = false := decide_eq_false (by omega)
    have t3b : decide ((1 : Int) + (m2 : Int) < 0) = false := decide_eq_false (by omega)
    have t4 : ((1 : Int) + (m2 : Int) != 1 + (m2 : Int)) = false := by simp
    have t5 : decide ((1 : Int) < 0) = false := by decide
    go_wp2_with fail
    refine (st_held0 a2 k2 _ _).mono ?_
    rintro e Wq ⟨rfl, hww⟩
    rw [hww]
    clear hww Wq
    go_wp2_with fail
    refine (st_held b2 m2 j2 1 _ (by omega) (by omega) (by omega) (unhide HP12).stAt.2).mono ?_
    rintro e W13 ⟨rfl, hb⟩
    have HB13 := hide (bc (unhide HB12) hb)
    have HD13 := hide ((unhide HD12).trans (hb.mono (unhide HD12).size))
    have HP13 := hide ((unhide HP12).bel hb)
    clear hb
    go_wp2_with fail
    refine (unhide HT _ (unhide HB13)).mono ?_
    rintro e W14 ⟨⟨g4, rfl, hg4, hk4⟩, hb⟩
    have HKr := hide hk4
    clear hk4 hg4
    have HB14 := hide (bc (unhide HB13) hb)
    have HD14 := hide ((unhide HD13).trans (hb.mono (unhide HD13).size))
    have HP14 := hide ((unhide HP13).bel hb)
    clear hb
    go_wp2_with fail
    refine (unhide HP _ _ (unhide HKr)).mono ?_
    rintro e W15 ⟨⟨a3, k3, b3, j3, rfl, hs1, hs2⟩, hb⟩
    have HR1 := hide hs1
    have HR2 := hide hs2
    clear hs1 hs2
    have HB15 := hide (bc (unhide HB14) hb)
    have HD15 := hide ((unhide HD14).trans (hb.mono (unhide HD14).size))
    have HP15 := hide ((unhide HP14).bel hb)
    clear hb
    go_wp2_with fail
    refine (unhide HSX a3 a1 k3 k1 _ (unhide HR1).stAt.2 (unhide HMX _ (unhide HD15))).mono ?_
    rintro e W16 ⟨rfl, hb⟩
    have HR3 := hide ((unhide HR2).bel hb)
    have HB16 := hide (bc (unhide HB15) hb)
    have HD16 := hide ((unhide HD15).trans (hb.mono (unhide HD15).size))
    have HP16 := hide ((unhide HP15).bel hb)
    clear hb
    go_wp2_with fail
    refine (unhide HSY b3 b1 j3 j1 _ (unhide HR3).stAt.2 (unhide HMY _ (unhide HD16))).mono ?_
    rintro e W17 ⟨rfl, hb⟩
    have HB17 := hide (bc (unhide HB16) hb)
    have HD17 := hide ((unhide HD16).trans (hb.mono (unhide HD16).size))
    have HP17 := hide ((unhide HP16).bel hb)
    clear hb
    go_wp2_with fail
    refine (st_held0 a2 k2 _ _).mono ?_
    rintro e Wq ⟨rfl, hww⟩
    rw [hww]
    clear hww Wq
    go_wp2_with fail
    refine (st_held b2 m2 j2 1 _ (by omega) (by omega) (by omega) (unhide HP17).stAt.2).mono ?_
    rintro e W18 ⟨rfl, hb⟩
    have HB18 := hide (bc (unhide HB17) hb)
    have HD18 := hide ((unhide HD17).trans (hb.mono (unhide HD17).size))
    have HP18 := hide ((unhide HP17).bel hb)
    clear hb
    go_wp2_with fail
    go_ret
    exact ⟨rfl, unhide HB18⟩
  · subst h0
    have HSZ11 : Hid (W3.heap.size ≤ W11.heap.size) := hide (Nat.le_trans (unhide HS34) (Nat.le_trans (unhide HQ9).size (unhide HQ11).size))
    go_wp2_with fail
    refine (st_mark a2 W3.heap.size m1 k2 1 X _ (unhide HX) (by omega) (by omega) (by omega) (unhide HPa11)).mono ?_
    rintro e W12 ⟨rfl, hsm, hz0, hz1⟩
    have hb12 : Below W3.heap.size W11 W12 := by
      by_cases h0 : m1 = 0
      · rw [hz0 h0]; exact Below.refl _ _
      · obtain ⟨g, _, hg, hmw⟩ := hz1 h0
        exact hmw.below hg (unhide HSZ11)
    have HB12 := hide ((unhide HB11).trans (hb12.mono (unhide HB3).size))
    have HD12 := hide ((unhide HD11).trans (hb12.mono (unhide HD3).size))
    have HP12 := hide hsm
    clear hsm hz0 hz1 hb12
    go_wp2_with fail
    refine (st_mark0 b2 j2 _ _).mono ?_
    rintro e Wq ⟨rfl, hww⟩
    rw [hww]
    clear hww Wq
    have t3 : decide (((1 : Nat) : Int) + (m1 : Int) < 0) = false := decide_eq_false (by omega)
    have t3b : decide ((1 : Int) + (m1 : Int) < 0) = false := decide_eq_false (by omega)
    have t4 : ((1 : Int) + (m1 : Int) != 1 + (m1 : Int)) = false := by simp
    have t5 : decide ((1 : Int) < 0) = false := by decide
    go_wp2_with fail
    refine (st_held a2 m1 k2 1 _ (by omega) (by omega) (by omega) (unhide HP12).stAt.2).mono ?_
    rintro e W13 ⟨rfl, hb⟩
    have HB13 := hide (bc (unhide HB12) hb)
    have HD13 := hide ((unhide HD12).trans (hb.mono (unhide HD12).size))
    have HP13 := hide ((unhide HP12).bel hb)
    clear hb
    go_wp2_with fail
    refine (st_held0 b2 j2 _ _).mono ?_
    rintro e Wq ⟨rfl, hww⟩
    rw [hww]
    clear hww Wq
    go_wp2_with fail
    refine (unhide HT _ (unhide HB13)).mono ?_
    rintro e W14 ⟨⟨g4, rfl, hg4, hk4⟩, hb⟩
    have HKr := hide hk4
    clear hk4 hg4
    have HB14 := hide (bc (unhide HB13) hb)
    have HD14 := hide ((unhide HD13).trans (hb.mono (unhide HD13).size))
    have HP14 := hide ((unhide HP13).bel hb)
    clear hb
    go_wp2_with fail
    refine (unhide HP _ _ (unhide HKr)).mono ?_
    rintro e W15 ⟨⟨a3, k3, b3, j3, rfl, hs1, hs2⟩, hb⟩
    have HR1 := hide hs1
    have HR2 := hide hs2
    clear hs1 hs2
    have HB15 := hide (bc (unhide HB14) hb)
    have HD15 := hide ((unhide HD14).trans (hb.mono (unhide HD14).size))
    have HP15 := hide ((unhide HP14).bel hb)
    clear hb
    go_wp2_with fail
    refine (unhide HSX a3 a1 k3 k1 _ (unhide HR1).stAt.2 (unhide HMX _ (unhide HD15))).mono ?_
    rintro e W16 ⟨rfl, hb⟩
    have HR3 := hide ((unhide HR2).bel hb)
    have HB16 := hide (bc (unhide HB15) hb)
    have HD16 := hide ((unhide HD15).trans (hb.mono (unhide HD15).size))
    have HP16 := hide ((unhide HP15).bel hb)
    clear hb
    go_wp2_with fail
    refine (unhide HSY b3 b1 j3 j1 _ (unhide HR3).stAt.2 (unhide HMY _ (unhide HD16))).mono ?_
    rintro e W17 ⟨rfl, hb⟩
    have HB17 := hide (bc (unhide HB16) hb)
    have HD17 := hide ((unhide HD16).trans (hb.mono (unhide HD16).size))
    have HP17 := hide ((unhide HP16).bel hb)
    clear hb
    go_wp2_with fail
    refine (st_held a2 m1 k2 1 _ (by omega) (by omega) (by omega) (unhide HP17).stAt.2).mono ?_
    rintro e W18 ⟨rfl, hb⟩
    have HB18 := hide (bc (unhide HB17) hb)
    have HD18 := hide ((unhide HD17).trans (hb.mono (unhide HD17).size))
    have HP18 := hide ((unhide HP17).bel hb)
    clear hb
    go_wp2_with fail
    refine (st_held0 b2 j2 _ _).mono ?_
    rintro e Wq ⟨rfl, hww⟩
    rw [hww]
    clear hww Wq
    go_wp2_with fail
    go_ret
    exact ⟨rfl, unhide HB18⟩

theorem Chk_ex (fs : List Ft) : ∃ c ab, Chk fs c ab ∧ ab.length ≤ 4096 ∧ (c = 0 → ab = []) := by
  by_cases h1 : 4096 < fs.length
  · exact ⟨2, [], chk_long h1, by simp, fun _ => rfl⟩
  by_cases h2 : 30 < fs.length
  · exact ⟨10, [], chk_many h1 h2, by simp, fun _ => rfl⟩
  cases h3 : fs.find? fun f => !ftr f with
  | some f => exact ⟨1, _, chk_bad h2 h3, by simp, fun h => by cases h⟩
  | none =>
    cases h4 : twi fs with
    | some f => exact ⟨7, _, chk_twice h2 h3 h4, by simp, fun h => by cases h⟩
    | none =>
      cases h5 : fs.find? fun f => (wrg fs f).isSome with
      | some f => exact ⟨6, _, chk_name h2 h3 h4 h5, by simp, fun h => by cases h⟩
      | none =>
        obtain ⟨b, hb⟩ := Bst_ex (sc (nms fs)) fs.length
        have hone := nms_one (fun f hf => by have := find_not h3 hf; simpa using this) (fun f hf => by have := find_not h5 hf; simpa using this)
        refine ⟨_, _, chk_end h2 h3 h4 h5 hb, ?_, ?_⟩
        · rw [List.length_map]
          have := hb.len hone (by rw [nms_len]; exact Nat.le_refl _)
          rw [nms_len] at this
          omega
        · intro h
          by_cases e : b = []
          · rw [e]; rfl
          · rw [if_neg e] at h; cases h
theorem odN_len (fs : List Ft) (c : Int) (ab : List ByteArray) (h : Chk fs c ab) : (odN fs c).length ≤ 4096 := by
  unfold odN
  split
  · rename_i e
    subst e
    have hf := h.zero.1
    rw [List.length_map, hf.all]
    have := hf.len
    omega
  · simp
theorem srow_form {w : World} {B : Nat} {v : Value} {l : List ByteArray} (h : SRow w B v l) : ∃ a k, v = .slice a l.length k := by
  obtain ⟨u, c, e, _⟩ := own_form h
  exact ⟨u, c, e⟩
set_option maxHeartbeats 1000000 in
theorem fnExactFeatureOrder_walk (u : Option Addr) (n cap p po : Nat) (fs : List Ft) (w : World) (hn : n ≤ 9223372036854775807) (hl : fs.length = n) (hs : ∀ f ∈ fs, f.nm.size ≤ maxLen ∧ f.on.size ≤ maxLen ∧ f.ov.size ≤ maxLen) (hu : SlG ftc 15 w u p po fs) :
    Calls Try.prog 3 #[.slice u n cap] w fun e w' => e = .returned (.bool true) ∧ Below w.heap.size w w' := by
  by_cases hb : n ≤ 1048576
  · obtain ⟨C, Y, hck, hY, h0⟩ := Chk_ex fs
    refine fnExactFeatureOrder_core u n cap p po (odN fs C).length Y.length fs (odN fs C) Y C w rfl rfl (odN_len fs C Y hck) hY ?_ hb (hide hl) (hide ((ft_sz u p po n cap fs w hl hn hs hu).mono ?_)) (hide fun W h => ft_to u p po n cap fs W hl hb (hu.bel h)) (hide fun g W h => (orderOfM_any _ g 0 n n fs W hl hb (Nat.le_refl _) hs (h.slG ftc_len)).mono ?_) (hide fun g W h => (orderOfP_any _ g 0 n n fs W hl hb hs (h.slG ftc_len)).mono ?_)
    · by_cases e : C = 0
      · right; rw [h0 e]; rfl
      · left; rw [show odN fs C = [] from if_neg e]; rfl
    · rintro e w' ⟨⟨r, he, _⟩, hb⟩
      exact ⟨⟨r, he⟩, hb⟩
    · rintro e w' ⟨⟨v1, c, v3, ab, rfl, hc, hs1, hs2⟩, hb⟩
      obtain ⟨rfl, rfl⟩ := hc.uniq hck
      obtain ⟨a, k, rfl⟩ := srow_form hs1
      obtain ⟨b, j, rfl⟩ := srow_form hs2
      exact ⟨⟨a, k, b, j, rfl, hs1, hs2⟩, hb⟩
    · rintro e w' ⟨⟨v1, c, v3, ab, rfl, hc, hs1, hs2⟩, hb⟩
      obtain ⟨rfl, rfl⟩ := hc.uniq hck
      obtain ⟨a, k, rfl⟩ := srow_form hs1
      obtain ⟨b, j, rfl⟩ := srow_form hs2
      exact ⟨⟨a, k, b, j, rfl, hs1, hs2⟩, hb⟩
  · have HSZ := hide (ft_sz u p po n cap fs w hl hn hs hu)
    clear hu hs hl
    go_enter Try.func3, Try.ntmps3
    go_wp2_with fail
    refine (unhide HSZ).mono ?_
    rintro e W0 ⟨⟨r, rfl, hr⟩, hb0⟩
    have HB0 := hide hb0
    have hz : r < 0 := by
      rcases Int.lt_or_le r 0 with h | h
      · exact h
      · exact absurd (hr h).1 hb
    have t : decide (r < 0) = true := decide_eq_true hz
    clear hr hb0
    go_wp2_with fail
    go_ret
    exact ⟨rfl, unhide HB0⟩
theorem fnExactFeatureOrder_own : ownKnob Try.prog.godebug = none := by kernel_rfl
theorem fnExactFeatureOrder_laidOut : laidOutB Try.prog = true := by kernel_rfl

set_option maxRecDepth 100000 in
theorem fnExactFeatureOrder_lifted (os : Os) (started : os.Started) (H : Type) (enc : TypeId × Value → H) :
    ReturnsInHanded {} Try.checked os 3 .any (Rows.fnExactFeatureOrderSpec.pre6 enc Try.prog Try.f3 Rows.fnExactFeatureOrderRow.domain false) (Rows.fnExactFeatureOrderSpec.post enc Try.prog Try.f3 false true false false) := by
  refine returnsInHanded_of_change (C := Try.checked) fnExactFeatureOrder_own started (by kernel_rfl) Try.func3
    (ChangeSpec.witness6 (enc := enc) (C := Try.checked) false ⟨#[], #[.slice none 0 0], []⟩ 8 (by kernel_rfl) (by kernel_rfl) (by kernel_rfl) (by kernel_rfl)) ?_
  intro W base args ds gs before hval0 hW hcnd _
  have hval : ∀ (j : Nat) t v, Try.f3.params[j]? = some t → args[j]? = some v → Value.okWide Try.prog W .any base t v := hval0
  have hW' := hW
  obtain ⟨p, q, hA0, hV, rfl, hfz, hnd⟩ := hW
  have hA : DataW.TrodAll enc Try.prog W 0 (fun _ => true) true Try.f3.params.toList args.toList ds p := hA0
  rw [Try.params3] at hA hval
  obtain ⟨v0, vs0, d0, ds0, p0, q0, hargs0, rfl, rfl, h0, r0⟩ := trodAll_cons hA
  obtain ⟨rfl, rfl, rfl⟩ := trodAll_nil r0
  obtain rfl : args = #[v0] := by cases args; simp_all
  obtain ⟨rfl, rfl⟩ := trodVars_none hV
  obtain ⟨a0, len0, cap0, rfl⟩ := okWide_slice Try.underlying22 (hval 0 22 v0 rfl rfl)
  have k0 := h0
  have lt0 : ∀ x ∈ p0, x.block < W.heap.size := by obtain ⟨m, hm⟩ := k0; exact DataW.trod_lt m _ _ _ hm
  obtain ⟨pp, po, ls, b0, l0, s0, w0⟩ : ∃ (pp po : Nat) (ls : List Ft), len0 ≤ 9223372036854775807 ∧ ls.length = len0 ∧ (∀ f ∈ ls, f.nm.size ≤ maxLen ∧ f.on.size ≤ maxLen ∧ f.ov.size ≤ maxLen) ∧ SlG ftc 15 W a0 pp po ls := by
    obtain ⟨fuel, hf⟩ := h0
    obtain ⟨u, n, cap, pp, po, ls, hcs, hn, hl, hs, hx⟩ := open_fts hf
    simp [Value.cells] at hcs
    obtain ⟨rfl, rfl, rfl⟩ := hcs
    exact ⟨pp, po, ls, hn, hl, hs, hx⟩
  clear hA0 hval0
  refine (fnExactFeatureOrder_walk a0 len0 cap0 pp po ls W b0 l0 s0 w0).mono fun e W' ⟨he, bel⟩ => ?_
  subst he
  exact ⟨_, rfl, _, _, _, [], _, [], hW', trodAll_mk1 (shut_bool Try.underlying4 _), (trodAll_cons_mk (Below.trod fnExactFeatureOrder_laidOut (by kernel_rfl) (of_decide_eq_true (by kernel_rfl)) k0 bel lt0) trodAll_mk0), rfl, bel.frame _, fun h => by cases h⟩

theorem fnExactFeatureOrder_over : Rows.fnExactFeatureOrderRow.holds Try.pinned (OpenSpec.ofChange Rows.fnExactFeatureOrderSpec) :=
  OpenClaim.holds_of_wide 3 Try.f3 rfl rfl rfl rfl rfl rfl rfl ⟨rfl, rfl, rfl, rfl, rfl⟩ rfl rfl rfl rfl rfl (by kernel_rfl) Try.func3 (by kernel_rfl)
    (of_decide_eq_true (by kernel_rfl)) (by unfold Func.isWrapper; first | (rw [if_pos (by decide +kernel)]; kernel_rfl) | (rw [if_neg (by decide +kernel)]; exact ⟨rfl, rfl⟩))
    (fun os started H enc _ => fnExactFeatureOrder_lifted os started H enc)

/-- The statement, as it was given. -/
theorem fnExactFeatureOrder_holds : Rows.FnExactFeatureOrderSaid := fnExactFeatureOrder_over
#print axioms fnExactFeatureOrder_holds
end Go.Proofs.Ytbenhicdhiichaa
