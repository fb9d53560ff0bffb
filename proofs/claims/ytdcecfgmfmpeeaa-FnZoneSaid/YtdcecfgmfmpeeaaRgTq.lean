/-
  l09Triple: the circle through three points, where no angle is above a right one.
-/
import Derived.Test.YtdcecfgmfmpeeaaRgMathq
namespace Go.Proofs.Ytdcecfgmfmpeeaa
open Go.ChangeShapes Go.WideShapes Go.ChangeAt Go.RowKit
set_option linter.unusedVariables false
set_option linter.unusedSimpArgs false
set_option maxHeartbeats 4000000 in
set_option maxRecDepth 100000 in
theorem triM_flat (a1 a2 b1 b2 d1 d2 S : Int) (w : World) (hS : IntKind.i64.wrap (2 * S) = 2 * S) (HS : Hid (∀ W : World, Calls Try.prog 31 #[.agg #[.int .i64 a1, .int .i64 a2], .agg #[.int .i64 b1, .int .i64 b2], .agg #[.int .i64 d1, .int .i64 d2]] W fun e w' => e = .returned (.int .i64 S) ∧ Below W.heap.size W w'))
  (h0 : 2 * S = 0) :
  Calls Try.prog 45 #[.agg #[.int .i64 a1, .int .i64 a2], .agg #[.int .i64 b1, .int .i64 b2], .agg #[.int .i64 d1, .int .i64 d2]] w fun e w' => e = .returned (.tuple #[.agg #[.int .i64 0, .int .i64 0, .int .i64 0, .int .i64 0, .int .i64 0, .int .i64 0, .int .i64 0, .int .i64 0], .bool false]) ∧ Below w.heap.size w w' := by
 have JB : Hid (Below w.heap.size w ((((w.alloc (.cells #[.int .i64 a1, .int .i64 a2] 30)).alloc (.cells #[.int .i64 b1, .int .i64 b2] 30)).alloc (.cells #[.int .i64 d1, .int .i64 d2] 30)).alloc (.cells #[.int .i64 0, .int .i64 0, .int .i64 0, .int .i64 0, .int .i64 0, .int .i64 0, .int .i64 0, .int .i64 0] 34))) := hide (ba (ba (ba (ba (Below.refl _ _) _) _) _) _)
 have J0 : Hid (iblk ((((w.alloc (.cells #[.int .i64 a1, .int .i64 a2] 30)).alloc (.cells #[.int .i64 b1, .int .i64 b2] 30)).alloc (.cells #[.int .i64 d1, .int .i64 d2] 30)).alloc (.cells #[.int .i64 0, .int .i64 0, .int .i64 0, .int .i64 0, .int .i64 0, .int .i64 0, .int .i64 0, .int .i64 0] 34)) w.heap.size 30 [a1, a2]) := hide ((iblk_new w 30 [a1, a2]).bel (ba (ba (ba (Below.refl _ _) _) _) _))
 have J1 : Hid (iblk ((((w.alloc (.cells #[.int .i64 a1, .int .i64 a2] 30)).alloc (.cells #[.int .i64 b1, .int .i64 b2] 30)).alloc (.cells #[.int .i64 d1, .int .i64 d2] 30)).alloc (.cells #[.int .i64 0, .int .i64 0, .int .i64 0, .int .i64 0, .int .i64 0, .int .i64 0, .int .i64 0, .int .i64 0] 34)) (w.heap.size + 1) 30 [b1, b2]) := hide (by
  have h := (iblk_new (w.alloc (.cells #[.int .i64 a1, .int .i64 a2] 30)) 30 [b1, b2]).bel (ba (ba (Below.refl _ _) (.cells #[.int .i64 d1, .int .i64 d2] 30)) (.cells #[.int .i64 0, .int .i64 0, .int .i64 0, .int .i64 0, .int .i64 0, .int .i64 0, .int .i64 0, .int .i64 0] 34))
  have e : (w.alloc (.cells #[.int .i64 a1, .int .i64 a2] 30)).heap.size = w.heap.size + 1 := by simp
  rw [e] at h
  exact h)
 have J2 : Hid (iblk ((((w.alloc (.cells #[.int .i64 a1, .int .i64 a2] 30)).alloc (.cells #[.int .i64 b1, .int .i64 b2] 30)).alloc (.cells #[.int .i64 d1, .int .i64 d2] 30)).alloc (.cells #[.int .i64 0, .int .i64 0, .int .i64 0, .int .i64 0, .int .i64 0, .int .i64 0, .int .i64 0, .int .i64 0] 34)) (w.heap.size + 1 + 1) 30 [d1, d2]) := hide (by
  have h := (iblk_new ((w.alloc (.cells #[.int .i64 a1, .int .i64 a2] 30)).alloc (.cells #[.int .i64 b1, .int .i64 b2] 30)) 30 [d1, d2]).bel (ba (Below.refl _ _) (.cells #[.int .i64 0, .int .i64 0, .int .i64 0, .int .i64 0, .int .i64 0, .int .i64 0, .int .i64 0, .int .i64 0] 34))
  have e : ((w.alloc (.cells #[.int .i64 a1, .int .i64 a2] 30)).alloc (.cells #[.int .i64 b1, .int .i64 b2] 30)).heap.size = w.heap.size + 1 + 1 := by simp
  rw [e] at h
  exact h)
 have J3 : Hid (iblk ((((w.alloc (.cells #[.int .i64 a1, .int .i64 a2] 30)).alloc (.cells #[.int .i64 b1, .int .i64 b2] 30)).alloc (.cells #[.int .i64 d1, .int .i64 d2] 30)).alloc (.cells #[.int .i64 0, .int .i64 0, .int .i64 0, .int .i64 0, .int .i64 0, .int .i64 0, .int .i64 0, .int .i64 0] 34)) (w.heap.size + 1 + 1 + 1) 34 [0, 0, 0, 0, 0, 0, 0, 0]) := hide (by
  have h := iblk_new (((w.alloc (.cells #[.int .i64 a1, .int .i64 a2] 30)).alloc (.cells #[.int .i64 b1, .int .i64 b2] 30)).alloc (.cells #[.int .i64 d1, .int .i64 d2] 30)) 34 [0, 0, 0, 0, 0, 0, 0, 0]
  have e : (((w.alloc (.cells #[.int .i64 a1, .int .i64 a2] 30)).alloc (.cells #[.int .i64 b1, .int .i64 b2] 30)).alloc (.cells #[.int .i64 d1, .int .i64 d2] 30)).heap.size = w.heap.size + 1 + 1 + 1 := by simp
  rw [e] at h
  exact h)
 have kp : ∀ {X : World} (V : World), Below X.heap.size X V → iblk X w.heap.size 30 [a1, a2] → iblk X (w.heap.size + 1) 30 [b1, b2] → iblk X (w.heap.size + 1 + 1) 30 [d1, d2] → iblk X (w.heap.size + 1 + 1 + 1) 34 [0, 0, 0, 0, 0, 0, 0, 0] → Below w.heap.size w X → iblk V w.heap.size 30 [a1, a2] ∧ iblk V (w.heap.size + 1) 30 [b1, b2] ∧ iblk V (w.heap.size + 1 + 1) 30 [d1, d2] ∧ iblk V (w.heap.size + 1 + 1 + 1) 34 [0, 0, 0, 0, 0, 0, 0, 0] ∧ Below w.heap.size w V :=
   fun V h h0 h1 h2 h3 h4 => ⟨h0.bel h, h1.bel h, h2.bel h, h3.bel h, bc h4 h⟩
 go_enter Try.func45, Try.ntmps45
 go_wp2_with fail
 generalize ((((w.alloc (.cells #[.int .i64 a1, .int .i64 a2] 30)).alloc (.cells #[.int .i64 b1, .int .i64 b2] 30)).alloc (.cells #[.int .i64 d1, .int .i64 d2] 30)).alloc (.cells #[.int .i64 0, .int .i64 0, .int .i64 0, .int .i64 0, .int .i64 0, .int .i64 0, .int .i64 0, .int .i64 0] 34)) = W0 at *
 have e0 : ((2 * S == 0) : Bool) = true := by simp [h0]
 have e1 : decide (2 * S = 0) = true := decide_eq_true h0
 refine (zu HS _).mono ?_
 rintro e W1 ⟨rfl, hb1⟩
 obtain ⟨K0, K1, K2, K3, KB⟩ := kp _ hb1 (zu J0) (zu J1) (zu J2) (zu J3) (zu JB)
 clear J0 J1 J2 J3 JB hb1
 have J0 := hide K0
 have J1 := hide K1
 have J2 := hide K2
 have J3 := hide K3
 have JB := hide KB
 have x0 := K0.cell (m := 0) rfl
 have x1 := K0.cell (m := 1) rfl
 have y0 := K1.cell (m := 0) rfl
 have y1 := K1.cell (m := 1) rfl
 have z0 := K2.cell (m := 0) rfl
 have z1 := K2.cell (m := 1) rfl
 have o0 := K3.cell (m := 0) rfl
 have o1 := K3.cell (m := 1) rfl
 have o2 := K3.cell (m := 2) rfl
 have o3 := K3.cell (m := 3) rfl
 have o4 := K3.cell (m := 4) rfl
 have o5 := K3.cell (m := 5) rfl
 have o6 := K3.cell (m := 6) rfl
 have o7 := K3.cell (m := 7) rfl
 have f8 := K3.frozen
 clear K0 K1 K2 K3 KB
 go_wp2_with fail
 have V := ((((((((zu J3).set 0 0).set 1 0).set 2 0).set 3 0).set 4 0).set 5 0).set 6 0).set 7 0
 have h2n : w.heap.size ≤ w.heap.size + 1 + 1 + 1 := by omega
 have hBV : Below w.heap.size w ((((((((W1.setCell ⟨w.heap.size + 1 + 1 + 1, 0, none⟩ (.int .i64 0)).setCell ⟨w.heap.size + 1 + 1 + 1, 1, none⟩ (.int .i64 0)).setCell ⟨w.heap.size + 1 + 1 + 1, 2, none⟩ (.int .i64 0)).setCell ⟨w.heap.size + 1 + 1 + 1, 3, none⟩ (.int .i64 0)).setCell ⟨w.heap.size + 1 + 1 + 1, 4, none⟩ (.int .i64 0)).setCell ⟨w.heap.size + 1 + 1 + 1, 5, none⟩ (.int .i64 0)).setCell ⟨w.heap.size + 1 + 1 + 1, 6, none⟩ (.int .i64 0)).setCell ⟨w.heap.size + 1 + 1 + 1, 7, none⟩ (.int .i64 0)) :=
  Below.setCell (Below.setCell (Below.setCell (Below.setCell (Below.setCell (Below.setCell (Below.setCell (Below.setCell (zu JB) h2n _) h2n _) h2n _) h2n _) h2n _) h2n _) h2n _) h2n _
 have s0 := V.cell (m := 0) rfl
 have s1 := V.cell (m := 1) rfl
 have s2 := V.cell (m := 2) rfl
 have s3 := V.cell (m := 3) rfl
 have s4 := V.cell (m := 4) rfl
 have s5 := V.cell (m := 5) rfl
 have s6 := V.cell (m := 6) rfl
 have s7 := V.cell (m := 7) rfl
 generalize ((((((((W1.setCell ⟨w.heap.size + 1 + 1 + 1, 0, none⟩ (.int .i64 0)).setCell ⟨w.heap.size + 1 + 1 + 1, 1, none⟩ (.int .i64 0)).setCell ⟨w.heap.size + 1 + 1 + 1, 2, none⟩ (.int .i64 0)).setCell ⟨w.heap.size + 1 + 1 + 1, 3, none⟩ (.int .i64 0)).setCell ⟨w.heap.size + 1 + 1 + 1, 4, none⟩ (.int .i64 0)).setCell ⟨w.heap.size + 1 + 1 + 1, 5, none⟩ (.int .i64 0)).setCell ⟨w.heap.size + 1 + 1 + 1, 6, none⟩ (.int .i64 0)).setCell ⟨w.heap.size + 1 + 1 + 1, 7, none⟩ (.int .i64 0)) = W9 at *
 refine bodyPost_ret (v := .tuple #[.agg #[.int .i64 0, .int .i64 0, .int .i64 0, .int .i64 0, .int .i64 0, .int .i64 0, .int .i64 0, .int .i64 0], .bool false]) (by simp [results, Try.results45, go_sem, s0, s1, s2, s3, s4, s5, s6, s7]) rfl ⟨rfl, ?_⟩
 exact hBV
set_option maxHeartbeats 4000000 in
set_option maxRecDepth 100000 in
theorem triM_o1 (a1 a2 b1 b2 d1 d2 S : Int) (w : World) (hS : IntKind.i64.wrap (2 * S) = 2 * S) (HS : Hid (∀ W : World, Calls Try.prog 31 #[.agg #[.int .i64 a1, .int .i64 a2], .agg #[.int .i64 b1, .int .i64 b2], .agg #[.int .i64 d1, .int .i64 d2]] W fun e w' => e = .returned (.int .i64 S) ∧ Below W.heap.size W w'))
  (h0 : ¬ 2 * S = 0)
  (H1 : Hid (∀ W : World, Calls Try.prog 71 #[.agg #[.int .i64 a1, .int .i64 a2], .agg #[.int .i64 b1, .int .i64 b2], .agg #[.int .i64 d1, .int .i64 d2]] W fun e w' => e = .returned (.bool false) ∧ Below W.heap.size W w')) :
  Calls Try.prog 45 #[.agg #[.int .i64 a1, .int .i64 a2], .agg #[.int .i64 b1, .int .i64 b2], .agg #[.int .i64 d1, .int .i64 d2]] w fun e w' => e = .returned (.tuple #[.agg #[.int .i64 0, .int .i64 0, .int .i64 0, .int .i64 0, .int .i64 0, .int .i64 0, .int .i64 0, .int .i64 0], .bool false]) ∧ Below w.heap.size w w' := by
 have JB : Hid (Below w.heap.size w ((((w.alloc (.cells #[.int .i64 a1, .int .i64 a2] 30)).alloc (.cells #[.int .i64 b1, .int .i64 b2] 30)).alloc (.cells #[.int .i64 d1, .int .i64 d2] 30)).alloc (.cells #[.int .i64 0, .int .i64 0, .int .i64 0, .int .i64 0, .int .i64 0, .int .i64 0, .int .i64 0, .int .i64 0] 34))) := hide (ba (ba (ba (ba (Below.refl _ _) _) _) _) _)
 have J0 : Hid (iblk ((((w.alloc (.cells #[.int .i64 a1, .int .i64 a2] 30)).alloc (.cells #[.int .i64 b1, .int .i64 b2] 30)).alloc (.cells #[.int .i64 d1, .int .i64 d2] 30)).alloc (.cells #[.int .i64 0, .int .i64 0, .int .i64 0, .int .i64 0, .int .i64 0, .int .i64 0, .int .i64 0, .int .i64 0] 34)) w.heap.size 30 [a1, a2]) := hide ((iblk_new w 30 [a1, a2]).bel (ba (ba (ba (Below.refl _ _) _) _) _))
 have J1 : Hid (iblk ((((w.alloc (.cells #[.int .i64 a1, .int .i64 a2] 30)).alloc (.cells #[.int .i64 b1, .int .i64 b2] 30)).alloc (.cells #[.int .i64 d1, .int .i64 d2] 30)).alloc (.cells #[.int .i64 0, .int .i64 0, .int .i64 0, .int .i64 0, .int .i64 0, .int .i64 0, .int .i64 0, .int .i64 0] 34)) (w.heap.size + 1) 30 [b1, b2]) := hide (by
  have h := (iblk_new (w.alloc (.cells #[.int .i64 a1, .int .i64 a2] 30)) 30 [b1, b2]).bel (ba (ba (Below.refl _ _) (.cells #[.int .i64 d1, .int .i64 d2] 30)) (.cells #[.int .i64 0, .int .i64 0, .int .i64 0, .int .i64 0, .int .i64 0, .int .i64 0, .int .i64 0, .int .i64 0] 34))
  have e : (w.alloc (.cells #[.int .i64 a1, .int .i64 a2] 30)).heap.size = w.heap.size + 1 := by simp
  rw [e] at h
  exact h)
 have J2 : Hid (iblk ((((w.alloc (.cells #[.int .i64 a1, .int .i64 a2] 30)).alloc (.cells #[.int .i64 b1, .int .i64 b2] 30)).alloc (.cells #[.int .i64 d1, .int .i64 d2] 30)).alloc (.cells #[.int .i64 0, .int .i64 0, .int .i64 0, .int .i64 0, .int .i64 0, .int .i64 0, .int .i64 0, .int .i64 0] 34)) (w.heap.size + 1 + 1) 30 [d1, d2]) := hide (by
  have h := (iblk_new ((w.alloc (.cells #[.int .i64 a1, .int .i64 a2] 30)).alloc (.cells #[.int .i64 b1, .int .i64 b2] 30)) 30 [d1, d2]).bel (ba (Below.refl _ _) (.cells #[.int .i64 0, .int .i64 0, .int .i64 0, .int .i64 0, .int .i64 0, .int .i64 0, .int .i64 0, .int .i64 0] 34))
  have e : ((w.alloc (.cells #[.int .i64 a1, .int .i64 a2] 30)).alloc (.cells #[.int .i64 b1, .int .i64 b2] 30)).heap.size = w.heap.size + 1 + 1 := by simp
  rw [e] at h
  exact h)
 have J3 : Hid (iblk ((((w.alloc (.cells #[.int .i64 a1, .int .i64 a2] 30)).alloc (.cells #[.int .i64 b1, .int .i64 b2] 30)).alloc (.cells #[.int .i64 d1, .int .i64 d2] 30)).alloc (.cells #[.int .i64 0, .int .i64 0, .int .i64 0, .int .i64 0, .int .i64 0, .int .i64 0, .int .i64 0, .int .i64 0] 34)) (w.heap.size + 1 + 1 + 1) 34 [0, 0, 0, 0, 0, 0, 0, 0]) := hide (by
  have h := iblk_new (((w.alloc (.cells #[.int .i64 a1, .int .i64 a2] 30)).alloc (.cells #[.int .i64 b1, .int .i64 b2] 30)).alloc (.cells #[.int .i64 d1, .int .i64 d2] 30)) 34 [0, 0, 0, 0, 0, 0, 0, 0]
  have e : (((w.alloc (.cells #[.int .i64 a1, .int .i64 a2] 30)).alloc (.cells #[.int .i64 b1, .int .i64 b2] 30)).alloc (.cells #[.int .i64 d1, .int .i64 d2] 30)).heap.size = w.heap.size + 1 + 1 + 1 := by simp
  rw [e] at h
  exact h)
 have kp : ∀ {X : World} (V : World), Below X.heap.size X V → iblk X w.heap.size 30 [a1, a2] → iblk X (w.heap.size + 1) 30 [b1, b2] → iblk X (w.heap.size + 1 + 1) 30 [d1, d2] → iblk X (w.heap.size + 1 + 1 + 1) 34 [0, 0, 0, 0, 0, 0, 0, 0] → Below w.heap.size w X → iblk V w.heap.size 30 [a1, a2] ∧ iblk V (w.heap.size + 1) 30 [b1, b2] ∧ iblk V (w.heap.size + 1 + 1) 30 [d1, d2] ∧ iblk V (w.heap.size + 1 + 1 + 1) 34 [0, 0, 0, 0, 0, 0, 0, 0] ∧ Below w.heap.size w V :=
   fun V h h0 h1 h2 h3 h4 => ⟨h0.bel h, h1.bel h, h2.bel h, h3.bel h, bc h4 h⟩
 go_enter Try.func45, Try.ntmps45
 go_wp2_with fail
 generalize ((((w.alloc (.cells #[.int .i64 a1, .int .i64 a2] 30)).alloc (.cells #[.int .i64 b1, .int .i64 b2] 30)).alloc (.cells #[.int .i64 d1, .int .i64 d2] 30)).alloc (.cells #[.int .i64 0, .int .i64 0, .int .i64 0, .int .i64 0, .int .i64 0, .int .i64 0, .int .i64 0, .int .i64 0] 34)) = W0 at *
 have e0 : ((2 * S == 0) : Bool) = false := by simp [h0]
 have e1 : decide (2 * S = 0) = false := decide_eq_false h0
 refine (zu HS _).mono ?_
 rintro e W1 ⟨rfl, hb1⟩
 obtain ⟨K0, K1, K2, K3, KB⟩ := kp _ hb1 (zu J0) (zu J1) (zu J2) (zu J3) (zu JB)
 clear J0 J1 J2 J3 JB hb1
 have J0 := hide K0
 have J1 := hide K1
 have J2 := hide K2
 have J3 := hide K3
 have JB := hide KB
 have x0 := K0.cell (m := 0) rfl
 have x1 := K0.cell (m := 1) rfl
 have y0 := K1.cell (m := 0) rfl
 have y1 := K1.cell (m := 1) rfl
 have z0 := K2.cell (m := 0) rfl
 have z1 := K2.cell (m := 1) rfl
 have o0 := K3.cell (m := 0) rfl
 have o1 := K3.cell (m := 1) rfl
 have o2 := K3.cell (m := 2) rfl
 have o3 := K3.cell (m := 3) rfl
 have o4 := K3.cell (m := 4) rfl
 have o5 := K3.cell (m := 5) rfl
 have o6 := K3.cell (m := 6) rfl
 have o7 := K3.cell (m := 7) rfl
 have f8 := K3.frozen
 clear K0 K1 K2 K3 KB
 go_wp2_with fail
 refine (zu H1 _).mono ?_
 rintro e W1 ⟨rfl, hb1⟩
 obtain ⟨K0, K1, K2, K3, KB⟩ := kp _ hb1 (zu J0) (zu J1) (zu J2) (zu J3) (zu JB)
 clear J0 J1 J2 J3 JB hb1
 have J0 := hide K0
 have J1 := hide K1
 have J2 := hide K2
 have J3 := hide K3
 have JB := hide KB
 have x0 := K0.cell (m := 0) rfl
 have x1 := K0.cell (m := 1) rfl
 have y0 := K1.cell (m := 0) rfl
 have y1 := K1.cell (m := 1) rfl
 have z0 := K2.cell (m := 0) rfl
 have z1 := K2.cell (m := 1) rfl
 have o0 := K3.cell (m := 0) rfl
 have o1 := K3.cell (m := 1) rfl
 have o2 := K3.cell (m := 2) rfl
 have o3 := K3.cell (m := 3) rfl
 have o4 := K3.cell (m := 4) rfl
 have o5 := K3.cell (m := 5) rfl
 have o6 := K3.cell (m := 6) rfl
 have o7 := K3.cell (m := 7) rfl
 have f8 := K3.frozen
 clear K0 K1 K2 K3 KB
 go_wp2_with fail
 have V := ((((((((zu J3).set 0 0).set 1 0).set 2 0).set 3 0).set 4 0).set 5 0).set 6 0).set 7 0
 have h2n : w.heap.size ≤ w.heap.size + 1 + 1 + 1 := by omega
 have hBV : Below w.heap.size w ((((((((W1.setCell ⟨w.heap.size + 1 + 1 + 1, 0, none⟩ (.int .i64 0)).setCell ⟨w.heap.size + 1 + 1 + 1, 1, none⟩ (.int .i64 0)).setCell ⟨w.heap.size + 1 + 1 + 1, 2, none⟩ (.int .i64 0)).setCell ⟨w.heap.size + 1 + 1 + 1, 3, none⟩ (.int .i64 0)).setCell ⟨w.heap.size + 1 + 1 + 1, 4, none⟩ (.int .i64 0)).setCell ⟨w.heap.size + 1 + 1 + 1, 5, none⟩ (.int .i64 0)).setCell ⟨w.heap.size + 1 + 1 + 1, 6, none⟩ (.int .i64 0)).setCell ⟨w.heap.size + 1 + 1 + 1, 7, none⟩ (.int .i64 0)) :=
  Below.setCell (Below.setCell (Below.setCell (Below.setCell (Below.setCell (Below.setCell (Below.setCell (Below.setCell (zu JB) h2n _) h2n _) h2n _) h2n _) h2n _) h2n _) h2n _) h2n _
 have s0 := V.cell (m := 0) rfl
 have s1 := V.cell (m := 1) rfl
 have s2 := V.cell (m := 2) rfl
 have s3 := V.cell (m := 3) rfl
 have s4 := V.cell (m := 4) rfl
 have s5 := V.cell (m := 5) rfl
 have s6 := V.cell (m := 6) rfl
 have s7 := V.cell (m := 7) rfl
 generalize ((((((((W1.setCell ⟨w.heap.size + 1 + 1 + 1, 0, none⟩ (.int .i64 0)).setCell ⟨w.heap.size + 1 + 1 + 1, 1, none⟩ (.int .i64 0)).setCell ⟨w.heap.size + 1 + 1 + 1, 2, none⟩ (.int .i64 0)).setCell ⟨w.heap.size + 1 + 1 + 1, 3, none⟩ (.int .i64 0)).setCell ⟨w.heap.size + 1 + 1 + 1, 4, none⟩ (.int .i64 0)).setCell ⟨w.heap.size + 1 + 1 + 1, 5, none⟩ (.int .i64 0)).setCell ⟨w.heap.size + 1 + 1 + 1, 6, none⟩ (.int .i64 0)).setCell ⟨w.heap.size + 1 + 1 + 1, 7, none⟩ (.int .i64 0)) = W9 at *
 refine bodyPost_ret (v := .tuple #[.agg #[.int .i64 0, .int .i64 0, .int .i64 0, .int .i64 0, .int .i64 0, .int .i64 0, .int .i64 0, .int .i64 0], .bool false]) (by simp [results, Try.results45, go_sem, s0, s1, s2, s3, s4, s5, s6, s7]) rfl ⟨rfl, ?_⟩
 exact hBV
set_option maxHeartbeats 4000000 in
set_option maxRecDepth 100000 in
theorem triM_o2 (a1 a2 b1 b2 d1 d2 S : Int) (w : World) (hS : IntKind.i64.wrap (2 * S) = 2 * S) (HS : Hid (∀ W : World, Calls Try.prog 31 #[.agg #[.int .i64 a1, .int .i64 a2], .agg #[.int .i64 b1, .int .i64 b2], .agg #[.int .i64 d1, .int .i64 d2]] W fun e w' => e = .returned (.int .i64 S) ∧ Below W.heap.size W w'))
  (h0 : ¬ 2 * S = 0)
  (H1 : Hid (∀ W : World, Calls Try.prog 71 #[.agg #[.int .i64 a1, .int .i64 a2], .agg #[.int .i64 b1, .int .i64 b2], .agg #[.int .i64 d1, .int .i64 d2]] W fun e w' => e = .returned (.bool true) ∧ Below W.heap.size W w'))
  (H2 : Hid (∀ W : World, Calls Try.prog 71 #[.agg #[.int .i64 b1, .int .i64 b2], .agg #[.int .i64 d1, .int .i64 d2], .agg #[.int .i64 a1, .int .i64 a2]] W fun e w' => e = .returned (.bool false) ∧ Below W.heap.size W w')) :
  Calls Try.prog 45 #[.agg #[.int .i64 a1, .int .i64 a2], .agg #[.int .i64 b1, .int .i64 b2], .agg #[.int .i64 d1, .int .i64 d2]] w fun e w' => e = .returned (.tuple #[.agg #[.int .i64 0, .int .i64 0, .int .i64 0, .int .i64 0, .int .i64 0, .int .i64 0, .int .i64 0, .int .i64 0], .bool false]) ∧ Below w.heap.size w w' := by
 have JB : Hid (Below w.heap.size w ((((w.alloc (.cells #[.int .i64 a1, .int .i64 a2] 30)).alloc (.cells #[.int .i64 b1, .int .i64 b2] 30)).alloc (.cells #[.int .i64 d1, .int .i64 d2] 30)).alloc (.cells #[.int .i64 0, .int .i64 0, .int .i64 0, .int .i64 0, .int .i64 0, .int .i64 0, .int .i64 0, .int .i64 0] 34))) := hide (ba (ba (ba (ba (Below.refl _ _) _) _) _) _)
 have J0 : Hid (iblk ((((w.alloc (.cells #[.int .i64 a1, .int .i64 a2] 30)).alloc (.cells #[.int .i64 b1, .int .i64 b2] 30)).alloc (.cells #[.int .i64 d1, .int .i64 d2] 30)).alloc (.cells #[.int .i64 0, .int .i64 0, .int .i64 0, .int .i64 0, .int .i64 0, .int .i64 0, .int .i64 0, .int .i64 0] 34)) w.heap.size 30 [a1, a2]) := hide ((iblk_new w 30 [a1, a2]).bel (ba (ba (ba (Below.refl _ _) _) _) _))
 have J1 : Hid (iblk ((((w.alloc (.cells #[.int .i64 a1, .int .i64 a2] 30)).alloc (.cells #[.int .i64 b1, .int .i64 b2] 30)).alloc (.cells #[.int .i64 d1, .int .i64 d2] 30)).alloc (.cells #[.int .i64 0, .int .i64 0, .int .i64 0, .int .i64 0, .int .i64 0, .int .i64 0, .int .i64 0, .int .i64 0] 34)) (w.heap.size + 1) 30 [b1, b2]) := hide (by
  have h := (iblk_new (w.alloc (.cells #[.int .i64 a1, .int .i64 a2] 30)) 30 [b1, b2]).bel (ba (ba (Below.refl _ _) (.cells #[.int .i64 d1, .int .i64 d2] 30)) (.cells #[.int .i64 0, .int .i64 0, .int .i64 0, .int .i64 0, .int .i64 0, .int .i64 0, .int .i64 0, .int .i64 0] 34))
  have e : (w.alloc (.cells #[.int .i64 a1, .int .i64 a2] 30)).heap.size = w.heap.size + 1 := by simp
  rw [e] at h
  exact h)
 have J2 : Hid (iblk ((((w.alloc (.cells #[.int .i64 a1, .int .i64 a2] 30)).alloc (.cells #[.int .i64 b1, .int .i64 b2] 30)).alloc (.cells #[.int .i64 d1, .int .i64 d2] 30)).alloc (.cells #[.int .i64 0, .int .i64 0, .int .i64 0, .int .i64 0, .int .i64 0, .int .i64 0, .int .i64 0, .int .i64 0] 34)) (w.heap.size + 1 + 1) 30 [d1, d2]) := hide (by
  have h := (iblk_new ((w.alloc (.cells #[.int .i64 a1, .int .i64 a2] 30)).alloc (.cells #[.int .i64 b1, .int .i64 b2] 30)) 30 [d1, d2]).bel (ba (Below.refl _ _) (.cells #[.int .i64 0, .int .i64 0, .int .i64 0, .int .i64 0, .int .i64 0, .int .i64 0, .int .i64 0, .int .i64 0] 34))
  have e : ((w.alloc (.cells #[.int .i64 a1, .int .i64 a2] 30)).alloc (.cells #[.int .i64 b1, .int .i64 b2] 30)).heap.size = w.heap.size + 1 + 1 := by simp
  rw [e] at h
  exact h)
 have J3 : Hid (iblk ((((w.alloc (.cells #[.int .i64 a1, .int .i64 a2] 30)).alloc (.cells #[.int .i64 b1, .int .i64 b2] 30)).alloc (.cells #[.int .i64 d1, .int .i64 d2] 30)).alloc (.cells #[.int .i64 0, .int .i64 0, .int .i64 0, .int .i64 0, .int .i64 0, .int .i64 0, .int .i64 0, .int .i64 0] 34)) (w.heap.size + 1 + 1 + 1) 34 [0, 0, 0, 0, 0, 0, 0, 0]) := hide (by
  have h := iblk_new (((w.alloc (.cells #[.int .i64 a1, .int .i64 a2] 30)).alloc (.cells #[.int .i64 b1, .int .i64 b2] 30)).alloc (.cells #[.int .i64 d1, .int .i64 d2] 30)) 34 [0, 0, 0, 0, 0, 0, 0, 0]
  have e : (((w.alloc (.cells #[.int .i64 a1, .int .i64 a2] 30)).alloc (.cells #[.int .i64 b1, .int .i64 b2] 30)).alloc (.cells #[.int .i64 d1, .int .i64 d2] 30)).heap.size = w.heap.size + 1 + 1 + 1 := by simp
  rw [e] at h
  exact h)
 have kp : ∀ {X : World} (V : World), Below X.heap.size X V → iblk X w.heap.size 30 [a1, a2] → iblk X (w.heap.size + 1) 30 [b1, b2] → iblk X (w.heap.size + 1 + 1) 30 [d1, d2] → iblk X (w.heap.size + 1 + 1 + 1) 34 [0, 0, 0, 0, 0, 0, 0, 0] → Below w.heap.size w X → iblk V w.heap.size 30 [a1, a2] ∧ iblk V (w.heap.size + 1) 30 [b1, b2] ∧ iblk V (w.heap.size + 1 + 1) 30 [d1, d2] ∧ iblk V (w.heap.size + 1 + 1 + 1) 34 [0, 0, 0, 0, 0, 0, 0, 0] ∧ Below w.heap.size w V :=
   fun V h h0 h1 h2 h3 h4 => ⟨h0.bel h, h1.bel h, h2.bel h, h3.bel h, bc h4 h⟩
 go_enter Try.func45, Try.ntmps45
 go_wp2_with fail
 generalize ((((w.alloc (.cells #[.int .i64 a1, .int .i64 a2] 30)).alloc (.cells #[.int .i64 b1, .int .i64 b2] 30)).alloc (.cells #[.int .i64 d1, .int .i64 d2] 30)).alloc (.cells #[.int .i64 0, .int .i64 0, .int .i64 0, .int .i64 0, .int .i64 0, .int .i64 0, .int .i64 0, .int .i64 0] 34)) = W0 at *
 have e0 : ((2 * S == 0) : Bool) = false := by simp [h0]
 have e1 : decide (2 * S = 0) = false := decide_eq_false h0
 refine (zu HS _).mono ?_
 rintro e W1 ⟨rfl, hb1⟩
 obtain ⟨K0, K1, K2, K3, KB⟩ := kp _ hb1 (zu J0) (zu J1) (zu J2) (zu J3) (zu JB)
 clear J0 J1 J2 J3 JB hb1
 have J0 := hide K0
 have J1 := hide K1
 have J2 := hide K2
 have J3 := hide K3
 have JB := hide KB
 have x0 := K0.cell (m := 0) rfl
 have x1 := K0.cell (m := 1) rfl
 have y0 := K1.cell (m := 0) rfl
 have y1 := K1.cell (m := 1) rfl
 have z0 := K2.cell (m := 0) rfl
 have z1 := K2.cell (m := 1) rfl
 have o0 := K3.cell (m := 0) rfl
 have o1 := K3.cell (m := 1) rfl
 have o2 := K3.cell (m := 2) rfl
 have o3 := K3.cell (m := 3) rfl
 have o4 := K3.cell (m := 4) rfl
 have o5 := K3.cell (m := 5) rfl
 have o6 := K3.cell (m := 6) rfl
 have o7 := K3.cell (m := 7) rfl
 have f8 := K3.frozen
 clear K0 K1 K2 K3 KB
 go_wp2_with fail
 refine (zu H1 _).mono ?_
 rintro e W1 ⟨rfl, hb1⟩
 obtain ⟨K0, K1, K2, K3, KB⟩ := kp _ hb1 (zu J0) (zu J1) (zu J2) (zu J3) (zu JB)
 clear J0 J1 J2 J3 JB hb1
 have J0 := hide K0
 have J1 := hide K1
 have J2 := hide K2
 have J3 := hide K3
 have JB := hide KB
 have x0 := K0.cell (m := 0) rfl
 have x1 := K0.cell (m := 1) rfl
 have y0 := K1.cell (m := 0) rfl
 have y1 := K1.cell (m := 1) rfl
 have z0 := K2.cell (m := 0) rfl
 have z1 := K2.cell (m := 1) rfl
 have o0 := K3.cell (m := 0) rfl
 have o1 := K3.cell (m := 1) rfl
 have o2 := K3.cell (m := 2) rfl
 have o3 := K3.cell (m := 3) rfl
 have o4 := K3.cell (m := 4) rfl
 have o5 := K3.cell (m := 5) rfl
 have o6 := K3.cell (m := 6) rfl
 have o7 := K3.cell (m := 7) rfl
 have f8 := K3.frozen
 clear K0 K1 K2 K3 KB
 go_wp2_with fail
 refine (zu H2 _).mono ?_
 rintro e W1 ⟨rfl, hb1⟩
 obtain ⟨K0, K1, K2, K3, KB⟩ := kp _ hb1 (zu J0) (zu J1) (zu J2) (zu J3) (zu JB)
 clear J0 J1 J2 J3 JB hb1
 have J0 := hide K0
 have J1 := hide K1
 have J2 := hide K2
 have J3 := hide K3
 have JB := hide KB
 have x0 := K0.cell (m := 0) rfl
 have x1 := K0.cell (m := 1) rfl
 have y0 := K1.cell (m := 0) rfl
 have y1 := K1.cell (m := 1) rfl
 have z0 := K2.cell (m := 0) rfl
 have z1 := K2.cell (m := 1) rfl
 have o0 := K3.cell (m := 0) rfl
 have o1 := K3.cell (m := 1) rfl
 have o2 := K3.cell (m := 2) rfl
 have o3 := K3.cell (m := 3) rfl
 have o4 := K3.cell (m := 4) rfl
 have o5 := K3.cell (m := 5) rfl
 have o6 := K3.cell (m := 6) rfl
 have o7 := K3.cell (m := 7) rfl
 have f8 := K3.frozen
 clear K0 K1 K2 K3 KB
 go_wp2_with fail
 have V := ((((((((zu J3).set 0 0).set 1 0).set 2 0).set 3 0).set 4 0).set 5 0).set 6 0).set 7 0
 have h2n : w.heap.size ≤ w.heap.size + 1 + 1 + 1 := by omega
 have hBV : Below w.heap.size w ((((((((W1.setCell ⟨w.heap.size + 1 + 1 + 1, 0, none⟩ (.int .i64 0)).setCell ⟨w.heap.size + 1 + 1 + 1, 1, none⟩ (.int .i64 0)).setCell ⟨w.heap.size + 1 + 1 + 1, 2, none⟩ (.int .i64 0)).setCell ⟨w.heap.size + 1 + 1 + 1, 3, none⟩ (.int .i64 0)).setCell ⟨w.heap.size + 1 + 1 + 1, 4, none⟩ (.int .i64 0)).setCell ⟨w.heap.size + 1 + 1 + 1, 5, none⟩ (.int .i64 0)).setCell ⟨w.heap.size + 1 + 1 + 1, 6, none⟩ (.int .i64 0)).setCell ⟨w.heap.size + 1 + 1 + 1, 7, none⟩ (.int .i64 0)) :=
  Below.setCell (Below.setCell (Below.setCell (Below.setCell (Below.setCell (Below.setCell (Below.setCell (Below.setCell (zu JB) h2n _) h2n _) h2n _) h2n _) h2n _) h2n _) h2n _) h2n _
 have s0 := V.cell (m := 0) rfl
 have s1 := V.cell (m := 1) rfl
 have s2 := V.cell (m := 2) rfl
 have s3 := V.cell (m := 3) rfl
 have s4 := V.cell (m := 4) rfl
 have s5 := V.cell (m := 5) rfl
 have s6 := V.cell (m := 6) rfl
 have s7 := V.cell (m := 7) rfl
 generalize ((((((((W1.setCell ⟨w.heap.size + 1 + 1 + 1, 0, none⟩ (.int .i64 0)).setCell ⟨w.heap.size + 1 + 1 + 1, 1, none⟩ (.int .i64 0)).setCell ⟨w.heap.size + 1 + 1 + 1, 2, none⟩ (.int .i64 0)).setCell ⟨w.heap.size + 1 + 1 + 1, 3, none⟩ (.int .i64 0)).setCell ⟨w.heap.size + 1 + 1 + 1, 4, none⟩ (.int .i64 0)).setCell ⟨w.heap.size + 1 + 1 + 1, 5, none⟩ (.int .i64 0)).setCell ⟨w.heap.size + 1 + 1 + 1, 6, none⟩ (.int .i64 0)).setCell ⟨w.heap.size + 1 + 1 + 1, 7, none⟩ (.int .i64 0)) = W9 at *
 refine bodyPost_ret (v := .tuple #[.agg #[.int .i64 0, .int .i64 0, .int .i64 0, .int .i64 0, .int .i64 0, .int .i64 0, .int .i64 0, .int .i64 0], .bool false]) (by simp [results, Try.results45, go_sem, s0, s1, s2, s3, s4, s5, s6, s7]) rfl ⟨rfl, ?_⟩
 exact hBV
set_option maxHeartbeats 4000000 in
set_option maxRecDepth 100000 in
theorem triM_o3 (a1 a2 b1 b2 d1 d2 S : Int) (w : World) (hS : IntKind.i64.wrap (2 * S) = 2 * S) (HS : Hid (∀ W : World, Calls Try.prog 31 #[.agg #[.int .i64 a1, .int .i64 a2], .agg #[.int .i64 b1, .int .i64 b2], .agg #[.int .i64 d1, .int .i64 d2]] W fun e w' => e = .returned (.int .i64 S) ∧ Below W.heap.size W w'))
  (h0 : ¬ 2 * S = 0)
  (H1 : Hid (∀ W : World, Calls Try.prog 71 #[.agg #[.int .i64 a1, .int .i64 a2], .agg #[.int .i64 b1, .int .i64 b2], .agg #[.int .i64 d1, .int .i64 d2]] W fun e w' => e = .returned (.bool true) ∧ Below W.heap.size W w'))
  (H2 : Hid (∀ W : World, Calls Try.prog 71 #[.agg #[.int .i64 b1, .int .i64 b2], .agg #[.int .i64 d1, .int .i64 d2], .agg #[.int .i64 a1, .int .i64 a2]] W fun e w' => e = .returned (.bool true) ∧ Below W.heap.size W w'))
  (H3 : Hid (∀ W : World, Calls Try.prog 71 #[.agg #[.int .i64 d1, .int .i64 d2], .agg #[.int .i64 a1, .int .i64 a2], .agg #[.int .i64 b1, .int .i64 b2]] W fun e w' => e = .returned (.bool false) ∧ Below W.heap.size W w')) :
  Calls Try.prog 45 #[.agg #[.int .i64 a1, .int .i64 a2], .agg #[.int .i64 b1, .int .i64 b2], .agg #[.int .i64 d1, .int .i64 d2]] w fun e w' => e = .returned (.tuple #[.agg #[.int .i64 0, .int .i64 0, .int .i64 0, .int .i64 0, .int .i64 0, .int .i64 0, .int .i64 0, .int .i64 0], .bool false]) ∧ Below w.heap.size w w' := by
 have JB : Hid (Below w.heap.size w ((((w.alloc (.cells #[.int .i64 a1, .int .i64 a2] 30)).alloc (.cells #[.int .i64 b1, .int .i64 b2] 30)).alloc (.cells #[.int .i64 d1, .int .i64 d2] 30)).alloc (.cells #[.int .i64 0, .int .i64 0, .int .i64 0, .int .i64 0, .int .i64 0, .int .i64 0, .int .i64 0, .int .i64 0] 34))) := hide (ba (ba (ba (ba (Below.refl _ _) _) _) _) _)
 have J0 : Hid (iblk ((((w.alloc (.cells #[.int .i64 a1, .int .i64 a2] 30)).alloc (.cells #[.int .i64 b1, .int .i64 b2] 30)).alloc (.cells #[.int .i64 d1, .int .i64 d2] 30)).alloc (.cells #[.int .i64 0, .int .i64 0, .int .i64 0, .int .i64 0, .int .i64 0, .int .i64 0, .int .i64 0, .int .i64 0] 34)) w.heap.size 30 [a1, a2]) := hide ((iblk_new w 30 [a1, a2]).bel (ba (ba (ba (Below.refl _ _) _) _) _))
 have J1 : Hid (iblk ((((w.alloc (.cells #[.int .i64 a1, .int .i64 a2] 30)).alloc (.cells #[.int .i64 b1, .int .i64 b2] 30)).alloc (.cells #[.int .i64 d1, .int .i64 d2] 30)).alloc (.cells #[.int .i64 0, .int .i64 0, .int .i64 0, .int .i64 0, .int .i64 0, .int .i64 0, .int .i64 0, .int .i64 0] 34)) (w.heap.size + 1) 30 [b1, b2]) := hide (by
  have h := (iblk_new (w.alloc (.cells #[.int .i64 a1, .int .i64 a2] 30)) 30 [b1, b2]).bel (ba (ba (Below.refl _ _) (.cells #[.int .i64 d1, .int .i64 d2] 30)) (.cells #[.int .i64 0, .int .i64 0, .int .i64 0, .int .i64 0, .int .i64 0, .int .i64 0, .int .i64 0, .int .i64 0] 34))
  have e : (w.alloc (.cells #[.int .i64 a1, .int .i64 a2] 30)).heap.size = w.heap.size + 1 := by simp
  rw [e] at h
  exact h)
 have J2 : Hid (iblk ((((w.alloc (.cells #[.int .i64 a1, .int .i64 a2] 30)).alloc (.cells #[.int .i64 b1, .int .i64 b2] 30)).alloc (.cells #[.int .i64 d1, .int .i64 d2] 30)).alloc (.cells #[.int .i64 0, .int .i64 0, .int .i64 0, .int .i64 0, .int .i64 0, .int .i64 0, .int .i64 0, .int .i64 0] 34)) (w.heap.size + 1 + 1) 30 [d1, d2]) := hide (by
  have h := (iblk_new ((w.alloc (.cells #[.int .i64 a1, .int .i64 a2] 30)).alloc (.cells #[.int .i64 b1, .int .i64 b2] 30)) 30 [d1, d2]).bel (ba (Below.refl _ _) (.cells #[.int .i64 0, .int .i64 0, .int .i64 0, .int .i64 0, .int .i64 0, .int .i64 0, .int .i64 0, .int .i64 0] 34))
  have e : ((w.alloc (.cells #[.int .i64 a1, .int .i64 a2] 30)).alloc (.cells #[.int .i64 b1, .int .i64 b2] 30)).heap.size = w.heap.size + 1 + 1 := by simp
  rw [e] at h
  exact h)
 have J3 : Hid (iblk ((((w.alloc (.cells #[.int .i64 a1, .int .i64 a2] 30)).alloc (.cells #[.int .i64 b1, .int .i64 b2] 30)).alloc (.cells #[.int .i64 d1, .int .i64 d2] 30)).alloc (.cells #[.int .i64 0, .int .i64 0, .int .i64 0, .int .i64 0, .int .i64 0, .int .i64 0, .int .i64 0, .int .i64 0] 34)) (w.heap.size + 1 + 1 + 1) 34 [0, 0, 0, 0, 0, 0, 0, 0]) := hide (by
  have h := iblk_new (((w.alloc (.cells #[.int .i64 a1, .int .i64 a2] 30)).alloc (.cells #[.int .i64 b1, .int .i64 b2] 30)).alloc (.cells #[.int .i64 d1, .int .i64 d2] 30)) 34 [0, 0, 0, 0, 0, 0, 0, 0]
  have e : (((w.alloc (.cells #[.int .i64 a1, .int .i64 a2] 30)).alloc (.cells #[.int .i64 b1, .int .i64 b2] 30)).alloc (.cells #[.int .i64 d1, .int .i64 d2] 30)).heap.size = w.heap.size + 1 + 1 + 1 := by simp
  rw [e] at h
  exact h)
 have kp : ∀ {X : World} (V : World), Below X.heap.size X V → iblk X w.heap.size 30 [a1, a2] → iblk X (w.heap.size + 1) 30 [b1, b2] → iblk X (w.heap.size + 1 + 1) 30 [d1, d2] → iblk X (w.heap.size + 1 + 1 + 1) 34 [0, 0, 0, 0, 0, 0, 0, 0] → Below w.heap.size w X → iblk V w.heap.size 30 [a1, a2] ∧ iblk V (w.heap.size + 1) 30 [b1, b2] ∧ iblk V (w.heap.size + 1 + 1) 30 [d1, d2] ∧ iblk V (w.heap.size + 1 + 1 + 1) 34 [0, 0, 0, 0, 0, 0, 0, 0] ∧ Below w.heap.size w V :=
   fun V h h0 h1 h2 h3 h4 => ⟨h0.bel h, h1.bel h, h2.bel h, h3.bel h, bc h4 h⟩
 go_enter Try.func45, Try.ntmps45
 go_wp2_with fail
 generalize ((((w.alloc (.cells #[.int .i64 a1, .int .i64 a2] 30)).alloc (.cells #[.int .i64 b1, .int .i64 b2] 30)).alloc (.cells #[.int .i64 d1, .int .i64 d2] 30)).alloc (.cells #[.int .i64 0, .int .i64 0, .int .i64 0, .int .i64 0, .int .i64 0, .int .i64 0, .int .i64 0, .int .i64 0] 34)) = W0 at *
 have e0 : ((2 * S == 0) : Bool) = false := by simp [h0]
 have e1 : decide (2 * S = 0) = false := decide_eq_false h0
 refine (zu HS _).mono ?_
 rintro e W1 ⟨rfl, hb1⟩
 obtain ⟨K0, K1, K2, K3, KB⟩ := kp _ hb1 (zu J0) (zu J1) (zu J2) (zu J3) (zu JB)
 clear J0 J1 J2 J3 JB hb1
 have J0 := hide K0
 have J1 := hide K1
 have J2 := hide K2
 have J3 := hide K3
 have JB := hide KB
 have x0 := K0.cell (m := 0) rfl
 have x1 := K0.cell (m := 1) rfl
 have y0 := K1.cell (m := 0) rfl
 have y1 := K1.cell (m := 1) rfl
 have z0 := K2.cell (m := 0) rfl
 have z1 := K2.cell (m := 1) rfl
 have o0 := K3.cell (m := 0) rfl
 have o1 := K3.cell (m := 1) rfl
 have o2 := K3.cell (m := 2) rfl
 have o3 := K3.cell (m := 3) rfl
 have o4 := K3.cell (m := 4) rfl
 have o5 := K3.cell (m := 5) rfl
 have o6 := K3.cell (m := 6) rfl
 have o7 := K3.cell (m := 7) rfl
 have f8 := K3.frozen
 clear K0 K1 K2 K3 KB
 go_wp2_with fail
 refine (zu H1 _).mono ?_
 rintro e W1 ⟨rfl, hb1⟩
 obtain ⟨K0, K1, K2, K3, KB⟩ := kp _ hb1 (zu J0) (zu J1) (zu J2) (zu J3) (zu JB)
 clear J0 J1 J2 J3 JB hb1
 have J0 := hide K0
 have J1 := hide K1
 have J2 := hide K2
 have J3 := hide K3
 have JB := hide KB
 have x0 := K0.cell (m := 0) rfl
 have x1 := K0.cell (m := 1) rfl
 have y0 := K1.cell (m := 0) rfl
 have y1 := K1.cell (m := 1) rfl
 have z0 := K2.cell (m := 0) rfl
 have z1 := K2.cell (m := 1) rfl
 have o0 := K3.cell (m := 0) rfl
 have o1 := K3.cell (m := 1) rfl
 have o2 := K3.cell (m := 2) rfl
 have o3 := K3.cell (m := 3) rfl
 have o4 := K3.cell (m := 4) rfl
 have o5 := K3.cell (m := 5) rfl
 have o6 := K3.cell (m := 6) rfl
 have o7 := K3.cell (m := 7) rfl
 have f8 := K3.frozen
 clear K0 K1 K2 K3 KB
 go_wp2_with fail
 refine (zu H2 _).mono ?_
 rintro e W1 ⟨rfl, hb1⟩
 obtain ⟨K0, K1, K2, K3, KB⟩ := kp _ hb1 (zu J0) (zu J1) (zu J2) (zu J3) (zu JB)
 clear J0 J1 J2 J3 JB hb1
 have J0 := hide K0
 have J1 := hide K1
 have J2 := hide K2
 have J3 := hide K3
 have JB := hide KB
 have x0 := K0.cell (m := 0) rfl
 have x1 := K0.cell (m := 1) rfl
 have y0 := K1.cell (m := 0) rfl
 have y1 := K1.cell (m := 1) rfl
 have z0 := K2.cell (m := 0) rfl
 have z1 := K2.cell (m := 1) rfl
 have o0 := K3.cell (m := 0) rfl
 have o1 := K3.cell (m := 1) rfl
 have o2 := K3.cell (m := 2) rfl
 have o3 := K3.cell (m := 3) rfl
 have o4 := K3.cell (m := 4) rfl
 have o5 := K3.cell (m := 5) rfl
 have o6 := K3.cell (m := 6) rfl
 have o7 := K3.cell (m := 7) rfl
 have f8 := K3.frozen
 clear K0 K1 K2 K3 KB
 go_wp2_with fail
 refine (zu H3 _).mono ?_
 rintro e W1 ⟨rfl, hb1⟩
 obtain ⟨K0, K1, K2, K3, KB⟩ := kp _ hb1 (zu J0) (zu J1) (zu J2) (zu J3) (zu JB)
 clear J0 J1 J2 J3 JB hb1
 have J0 := hide K0
 have J1 := hide K1
 have J2 := hide K2
 have J3 := hide K3
 have JB := hide KB
 have x0 := K0.cell (m := 0) rfl
 have x1 := K0.cell (m := 1) rfl
 have y0 := K1.cell (m := 0) rfl
 have y1 := K1.cell (m := 1) rfl
 have z0 := K2.cell (m := 0) rfl
 have z1 := K2.cell (m := 1) rfl
 have o0 := K3.cell (m := 0) rfl
 have o1 := K3.cell (m := 1) rfl
 have o2 := K3.cell (m := 2) rfl
 have o3 := K3.cell (m := 3) rfl
 have o4 := K3.cell (m := 4) rfl
 have o5 := K3.cell (m := 5) rfl
 have o6 := K3.cell (m := 6) rfl
 have o7 := K3.cell (m := 7) rfl
 have f8 := K3.frozen
 clear K0 K1 K2 K3 KB
 go_wp2_with fail
 have V := ((((((((zu J3).set 0 0).set 1 0).set 2 0).set 3 0).set 4 0).set 5 0).set 6 0).set 7 0
 have h2n : w.heap.size ≤ w.heap.size + 1 + 1 + 1 := by omega
 have hBV : Below w.heap.size w ((((((((W1.setCell ⟨w.heap.size + 1 + 1 + 1, 0, none⟩ (.int .i64 0)).setCell ⟨w.heap.size + 1 + 1 + 1, 1, none⟩ (.int .i64 0)).setCell ⟨w.heap.size + 1 + 1 + 1, 2, none⟩ (.int .i64 0)).setCell ⟨w.heap.size + 1 + 1 + 1, 3, none⟩ (.int .i64 0)).setCell ⟨w.heap.size + 1 + 1 + 1, 4, none⟩ (.int .i64 0)).setCell ⟨w.heap.size + 1 + 1 + 1, 5, none⟩ (.int .i64 0)).setCell ⟨w.heap.size + 1 + 1 + 1, 6, none⟩ (.int .i64 0)).setCell ⟨w.heap.size + 1 + 1 + 1, 7, none⟩ (.int .i64 0)) :=
  Below.setCell (Below.setCell (Below.setCell (Below.setCell (Below.setCell (Below.setCell (Below.setCell (Below.setCell (zu JB) h2n _) h2n _) h2n _) h2n _) h2n _) h2n _) h2n _) h2n _
 have s0 := V.cell (m := 0) rfl
 have s1 := V.cell (m := 1) rfl
 have s2 := V.cell (m := 2) rfl
 have s3 := V.cell (m := 3) rfl
 have s4 := V.cell (m := 4) rfl
 have s5 := V.cell (m := 5) rfl
 have s6 := V.cell (m := 6) rfl
 have s7 := V.cell (m := 7) rfl
 generalize ((((((((W1.setCell ⟨w.heap.size + 1 + 1 + 1, 0, none⟩ (.int .i64 0)).setCell ⟨w.heap.size + 1 + 1 + 1, 1, none⟩ (.int .i64 0)).setCell ⟨w.heap.size + 1 + 1 + 1, 2, none⟩ (.int .i64 0)).setCell ⟨w.heap.size + 1 + 1 + 1, 3, none⟩ (.int .i64 0)).setCell ⟨w.heap.size + 1 + 1 + 1, 4, none⟩ (.int .i64 0)).setCell ⟨w.heap.size + 1 + 1 + 1, 5, none⟩ (.int .i64 0)).setCell ⟨w.heap.size + 1 + 1 + 1, 6, none⟩ (.int .i64 0)).setCell ⟨w.heap.size + 1 + 1 + 1, 7, none⟩ (.int .i64 0)) = W9 at *
 refine bodyPost_ret (v := .tuple #[.agg #[.int .i64 0, .int .i64 0, .int .i64 0, .int .i64 0, .int .i64 0, .int .i64 0, .int .i64 0, .int .i64 0], .bool false]) (by simp [results, Try.results45, go_sem, s0, s1, s2, s3, s4, s5, s6, s7]) rfl ⟨rfl, ?_⟩
 exact hBV
set_option maxHeartbeats 4000000 in
set_option maxRecDepth 100000 in
theorem triM_ok (a1 a2 b1 b2 d1 d2 S : Int) (w : World) (hS : IntKind.i64.wrap (2 * S) = 2 * S) (HS : Hid (∀ W : World, Calls Try.prog 31 #[.agg #[.int .i64 a1, .int .i64 a2], .agg #[.int .i64 b1, .int .i64 b2], .agg #[.int .i64 d1, .int .i64 d2]] W fun e w' => e = .returned (.int .i64 S) ∧ Below W.heap.size W w'))
  (h0 : ¬ 2 * S = 0)
  (H1 : Hid (∀ W : World, Calls Try.prog 71 #[.agg #[.int .i64 a1, .int .i64 a2], .agg #[.int .i64 b1, .int .i64 b2], .agg #[.int .i64 d1, .int .i64 d2]] W fun e w' => e = .returned (.bool true) ∧ Below W.heap.size W w'))
  (H2 : Hid (∀ W : World, Calls Try.prog 71 #[.agg #[.int .i64 b1, .int .i64 b2], .agg #[.int .i64 d1, .int .i64 d2], .agg #[.int .i64 a1, .int .i64 a2]] W fun e w' => e = .returned (.bool true) ∧ Below W.heap.size W w'))
  (H3 : Hid (∀ W : World, Calls Try.prog 71 #[.agg #[.int .i64 d1, .int .i64 d2], .agg #[.int .i64 a1, .int .i64 a2], .agg #[.int .i64 b1, .int .i64 b2]] W fun e w' => e = .returned (.bool true) ∧ Below W.heap.size W w'))
  (xa xb xd X Y Dd n : Int)
  (k0 : IntKind.i64.wrap (a1 * a1) = a1 * a1) (k1 : IntKind.i64.wrap (a2 * a2) = a2 * a2) (k2 : IntKind.i64.wrap (a1 * a1 + a2 * a2) = xa) (k3 : IntKind.i64.wrap (b1 * b1) = b1 * b1) (k4 : IntKind.i64.wrap (b2 * b2) = b2 * b2) (k5 : IntKind.i64.wrap (b1 * b1 + b2 * b2) = xb) (k6 : IntKind.i64.wrap (d1 * d1) = d1 * d1) (k7 : IntKind.i64.wrap (d2 * d2) = d2 * d2) (k8 : IntKind.i64.wrap (d1 * d1 + d2 * d2) = xd) (k9 : IntKind.i64.wrap (b2 - d2) = b2 - d2) (k10 : IntKind.i64.wrap (d2 - a2) = d2 - a2) (k11 : IntKind.i64.wrap (a2 - b2) = a2 - b2) (k12 : IntKind.i64.wrap (d1 - b1) = d1 - b1) (k13 : IntKind.i64.wrap (a1 - d1) = a1 - d1) (k14 : IntKind.i64.wrap (b1 - a1) = b1 - a1) (k15 : IntKind.i64.wrap (xa * (b2 - d2)) = xa * (b2 - d2)) (k16 : IntKind.i64.wrap (xb * (d2 - a2)) = xb * (d2 - a2)) (k17 : IntKind.i64.wrap (xd * (a2 - b2)) = xd * (a2 - b2)) (k18 : IntKind.i64.wrap (xa * (b2 - d2) + xb * (d2 - a2)) = xa * (b2 - d2) + xb * (d2 - a2)) (k19 : IntKind.i64.wrap (xa * (b2 - d2) + xb * (d2 - a2) + xd * (a2 - b2)) = xa * (b2 - d2) + xb * (d2 - a2) + xd * (a2 - b2)) (k20 : IntKind.i64.wrap (xa * (d1 - b1)) = xa * (d1 - b1)) (k21 : IntKind.i64.wrap (xb * (a1 - d1)) = xb * (a1 - d1)) (k22 : IntKind.i64.wrap (xd * (b1 - a1)) = xd * (b1 - a1)) (k23 : IntKind.i64.wrap (xa * (d1 - b1) + xb * (a1 - d1)) = xa * (d1 - b1) + xb * (a1 - d1)) (k24 : IntKind.i64.wrap (xa * (d1 - b1) + xb * (a1 - d1) + xd * (b1 - a1)) = xa * (d1 - b1) + xb * (a1 - d1) + xd * (b1 - a1))
  (H4 : Hid (∀ W : World, Calls Try.prog 42 #[.int .i64 (xa * (b2 - d2) + xb * (d2 - a2) + xd * (a2 - b2)), .int .i64 (xa * (d1 - b1) + xb * (a1 - d1) + xd * (b1 - a1)), .int .i64 (2 * S), .agg #[.int .i64 a1, .int .i64 a2]] W fun e w' => e = .returned (.agg #[.int .i64 0, .int .i64 0, .int .i64 0, .int .i64 0, .int .i64 X, .int .i64 Y, .int .i64 Dd, .int .i64 n]) ∧ Below W.heap.size W w')) :
  Calls Try.prog 45 #[.agg #[.int .i64 a1, .int .i64 a2], .agg #[.int .i64 b1, .int .i64 b2], .agg #[.int .i64 d1, .int .i64 d2]] w fun e w' => e = .returned (.tuple #[.agg #[.int .i64 0, .int .i64 0, .int .i64 0, .int .i64 0, .int .i64 X, .int .i64 Y, .int .i64 Dd, .int .i64 n], .bool true]) ∧ Below w.heap.size w w' := by
 have JB : Hid (Below w.heap.size w ((((w.alloc (.cells #[.int .i64 a1, .int .i64 a2] 30)).alloc (.cells #[.int .i64 b1, .int .i64 b2] 30)).alloc (.cells #[.int .i64 d1, .int .i64 d2] 30)).alloc (.cells #[.int .i64 0, .int .i64 0, .int .i64 0, .int .i64 0, .int .i64 0, .int .i64 0, .int .i64 0, .int .i64 0] 34))) := hide (ba (ba (ba (ba (Below.refl _ _) _) _) _) _)
 have J0 : Hid (iblk ((((w.alloc (.cells #[.int .i64 a1, .int .i64 a2] 30)).alloc (.cells #[.int .i64 b1, .int .i64 b2] 30)).alloc (.cells #[.int .i64 d1, .int .i64 d2] 30)).alloc (.cells #[.int .i64 0, .int .i64 0, .int .i64 0, .int .i64 0, .int .i64 0, .int .i64 0, .int .i64 0, .int .i64 0] 34)) w.heap.size 30 [a1, a2]) := hide ((iblk_new w 30 [a1, a2]).bel (ba (ba (ba (Below.refl _ _) _) _) _))
 have J1 : Hid (iblk ((((w.alloc (.cells #[.int .i64 a1, .int .i64 a2] 30)).alloc (.cells #[.int .i64 b1, .int .i64 b2] 30)).alloc (.cells #[.int .i64 d1, .int .i64 d2] 30)).alloc (.cells #[.int .i64 0, .int .i64 0, .int .i64 0, .int .i64 0, .int .i64 0, .int .i64 0, .int .i64 0, .int .i64 0] 34)) (w.heap.size + 1) 30 [b1, b2]) := hide (by
  have h := (iblk_new (w.alloc (.cells #[.int .i64 a1, .int .i64 a2] 30)) 30 [b1, b2]).bel (ba (ba (Below.refl _ _) (.cells #[.int .i64 d1, .int .i64 d2] 30)) (.cells #[.int .i64 0, .int .i64 0, .int .i64 0, .int .i64 0, .int .i64 0, .int .i64 0, .int .i64 0, .int .i64 0] 34))
  have e : (w.alloc (.cells #[.int .i64 a1, .int .i64 a2] 30)).heap.size = w.heap.size + 1 := by simp
  rw [e] at h
  exact h)
 have J2 : Hid (iblk ((((w.alloc (.cells #[.int .i64 a1, .int .i64 a2] 30)).alloc (.cells #[.int .i64 b1, .int .i64 b2] 30)).alloc (.cells #[.int .i64 d1, .int .i64 d2] 30)).alloc (.cells #[.int .i64 0, .int .i64 0, .int .i64 0, .int .i64 0, .int .i64 0, .int .i64 0, .int .i64 0, .int .i64 0] 34)) (w.heap.size + 1 + 1) 30 [d1, d2]) := hide (by
  have h := (iblk_new ((w.alloc (.cells #[.int .i64 a1, .int .i64 a2] 30)).alloc (.cells #[.int .i64 b1, .int .i64 b2] 30)) 30 [d1, d2]).bel (ba (Below.refl _ _) (.cells #[.int .i64 0, .int .i64 0, .int .i64 0, .int .i64 0, .int .i64 0, .int .i64 0, .int .i64 0, .int .i64 0] 34))
  have e : ((w.alloc (.cells #[.int .i64 a1, .int .i64 a2] 30)).alloc (.cells #[.int .i64 b1, .int .i64 b2] 30)).heap.size = w.heap.size + 1 + 1 := by simp
  rw [e] at h
  exact h)
 have J3 : Hid (iblk ((((w.alloc (.cells #[.int .i64 a1, .int .i64 a2] 30)).alloc (.cells #[.int .i64 b1, .int .i64 b2] 30)).alloc (.cells #[.int .i64 d1, .int .i64 d2] 30)).alloc (.cells #[.int .i64 0, .int .i64 0, .int .i64 0, .int .i64 0, .int .i64 0, .int .i64 0, .int .i64 0, .int .i64 0] 34)) (w.heap.size + 1 + 1 + 1) 34 [0, 0, 0, 0, 0, 0, 0, 0]) := hide (by
  have h := iblk_new (((w.alloc (.cells #[.int .i64 a1, .int .i64 a2] 30)).alloc (.cells #[.int .i64 b1, .int .i64 b2] 30)).alloc (.cells #[.int .i64 d1, .int .i64 d2] 30)) 34 [0, 0, 0, 0, 0, 0, 0, 0]
  have e : (((w.alloc (.cells #[.int .i64 a1, .int .i64 a2] 30)).alloc (.cells #[.int .i64 b1, .int .i64 b2] 30)).alloc (.cells #[.int .i64 d1, .int .i64 d2] 30)).heap.size = w.heap.size + 1 + 1 + 1 := by simp
  rw [e] at h
  exact h)
 have kp : ∀ {X : World} (V : World), Below X.heap.size X V → iblk X w.heap.size 30 [a1, a2] → iblk X (w.heap.size + 1) 30 [b1, b2] → iblk X (w.heap.size + 1 + 1) 30 [d1, d2] → iblk X (w.heap.size + 1 + 1 + 1) 34 [0, 0, 0, 0, 0, 0, 0, 0] → Below w.heap.size w X → iblk V w.heap.size 30 [a1, a2] ∧ iblk V (w.heap.size + 1) 30 [b1, b2] ∧ iblk V (w.heap.size + 1 + 1) 30 [d1, d2] ∧ iblk V (w.heap.size + 1 + 1 + 1) 34 [0, 0, 0, 0, 0, 0, 0, 0] ∧ Below w.heap.size w V :=
   fun V h h0 h1 h2 h3 h4 => ⟨h0.bel h, h1.bel h, h2.bel h, h3.bel h, bc h4 h⟩
 go_enter Try.func45, Try.ntmps45
 go_wp2_with fail
 generalize ((((w.alloc (.cells #[.int .i64 a1, .int .i64 a2] 30)).alloc (.cells #[.int .i64 b1, .int .i64 b2] 30)).alloc (.cells #[.int .i64 d1, .int .i64 d2] 30)).alloc (.cells #[.int .i64 0, .int .i64 0, .int .i64 0, .int .i64 0, .int .i64 0, .int .i64 0, .int .i64 0, .int .i64 0] 34)) = W0 at *
 have e0 : ((2 * S == 0) : Bool) = false := by simp [h0]
 have e1 : decide (2 * S = 0) = false := decide_eq_false h0
 refine (zu HS _).mono ?_
 rintro e W1 ⟨rfl, hb1⟩
 obtain ⟨K0, K1, K2, K3, KB⟩ := kp _ hb1 (zu J0) (zu J1) (zu J2) (zu J3) (zu JB)
 clear J0 J1 J2 J3 JB hb1
 have J0 := hide K0
 have J1 := hide K1
 have J2 := hide K2
 have J3 := hide K3
 have JB := hide KB
 have x0 := K0.cell (m := 0) rfl
 have x1 := K0.cell (m := 1) rfl
 have y0 := K1.cell (m := 0) rfl
 have y1 := K1.cell (m := 1) rfl
 have z0 := K2.cell (m := 0) rfl
 have z1 := K2.cell (m := 1) rfl
 have o0 := K3.cell (m := 0) rfl
 have o1 := K3.cell (m := 1) rfl
 have o2 := K3.cell (m := 2) rfl
 have o3 := K3.cell (m := 3) rfl
 have o4 := K3.cell (m := 4) rfl
 have o5 := K3.cell (m := 5) rfl
 have o6 := K3.cell (m := 6) rfl
 have o7 := K3.cell (m := 7) rfl
 have f8 := K3.frozen
 clear K0 K1 K2 K3 KB
 go_wp2_with fail
 refine (zu H1 _).mono ?_
 rintro e W1 ⟨rfl, hb1⟩
 obtain ⟨K0, K1, K2, K3, KB⟩ := kp _ hb1 (zu J0) (zu J1) (zu J2) (zu J3) (zu JB)
 clear J0 J1 J2 J3 JB hb1
 have J0 := hide K0
 have J1 := hide K1
 have J2 := hide K2
 have J3 := hide K3
 have JB := hide KB
 have x0 := K0.cell (m := 0) rfl
 have x1 := K0.cell (m := 1) rfl
 have y0 := K1.cell (m := 0) rfl
 have y1 := K1.cell (m := 1) rfl
 have z0 := K2.cell (m := 0) rfl
 have z1 := K2.cell (m := 1) rfl
 have o0 := K3.cell (m := 0) rfl
 have o1 := K3.cell (m := 1) rfl
 have o2 := K3.cell (m := 2) rfl
 have o3 := K3.cell (m := 3) rfl
 have o4 := K3.cell (m := 4) rfl
 have o5 := K3.cell (m := 5) rfl
 have o6 := K3.cell (m := 6) rfl
 have o7 := K3.cell (m := 7) rfl
 have f8 := K3.frozen
 clear K0 K1 K2 K3 KB
 go_wp2_with fail
 refine (zu H2 _).mono ?_
 rintro e W1 ⟨rfl, hb1⟩
 obtain ⟨K0, K1, K2, K3, KB⟩ := kp _ hb1 (zu J0) (zu J1) (zu J2) (zu J3) (zu JB)
 clear J0 J1 J2 J3 JB hb1
 have J0 := hide K0
 have J1 := hide K1
 have J2 := hide K2
 have J3 := hide K3
 have JB := hide KB
 have x0 := K0.cell (m := 0) rfl
 have x1 := K0.cell (m := 1) rfl
 have y0 := K1.cell (m := 0) rfl
 have y1 := K1.cell (m := 1) rfl
 have z0 := K2.cell (m := 0) rfl
 have z1 := K2.cell (m := 1) rfl
 have o0 := K3.cell (m := 0) rfl
 have o1 := K3.cell (m := 1) rfl
 have o2 := K3.cell (m := 2) rfl
 have o3 := K3.cell (m := 3) rfl
 have o4 := K3.cell (m := 4) rfl
 have o5 := K3.cell (m := 5) rfl
 have o6 := K3.cell (m := 6) rfl
 have o7 := K3.cell (m := 7) rfl
 have f8 := K3.frozen
 clear K0 K1 K2 K3 KB
 go_wp2_with fail
 refine (zu H3 _).mono ?_
 rintro e W1 ⟨rfl, hb1⟩
 obtain ⟨K0, K1, K2, K3, KB⟩ := kp _ hb1 (zu J0) (zu J1) (zu J2) (zu J3) (zu JB)
 clear J0 J1 J2 J3 JB hb1
 have J0 := hide K0
 have J1 := hide K1
 have J2 := hide K2
 have J3 := hide K3
 have JB := hide KB
 have x0 := K0.cell (m := 0) rfl
 have x1 := K0.cell (m := 1) rfl
 have y0 := K1.cell (m := 0) rfl
 have y1 := K1.cell (m := 1) rfl
 have z0 := K2.cell (m := 0) rfl
 have z1 := K2.cell (m := 1) rfl
 have o0 := K3.cell (m := 0) rfl
 have o1 := K3.cell (m := 1) rfl
 have o2 := K3.cell (m := 2) rfl
 have o3 := K3.cell (m := 3) rfl
 have o4 := K3.cell (m := 4) rfl
 have o5 := K3.cell (m := 5) rfl
 have o6 := K3.cell (m := 6) rfl
 have o7 := K3.cell (m := 7) rfl
 have f8 := K3.frozen
 clear K0 K1 K2 K3 KB
 go_wp2_with fail
 refine (zu H4 _).mono ?_
 rintro e W1 ⟨rfl, hb1⟩
 obtain ⟨K0, K1, K2, K3, KB⟩ := kp _ hb1 (zu J0) (zu J1) (zu J2) (zu J3) (zu JB)
 clear J0 J1 J2 J3 JB hb1
 have J0 := hide K0
 have J1 := hide K1
 have J2 := hide K2
 have J3 := hide K3
 have JB := hide KB
 have x0 := K0.cell (m := 0) rfl
 have x1 := K0.cell (m := 1) rfl
 have y0 := K1.cell (m := 0) rfl
 have y1 := K1.cell (m := 1) rfl
 have z0 := K2.cell (m := 0) rfl
 have z1 := K2.cell (m := 1) rfl
 have o0 := K3.cell (m := 0) rfl
 have o1 := K3.cell (m := 1) rfl
 have o2 := K3.cell (m := 2) rfl
 have o3 := K3.cell (m := 3) rfl
 have o4 := K3.cell (m := 4) rfl
 have o5 := K3.cell (m := 5) rfl
 have o6 := K3.cell (m := 6) rfl
 have o7 := K3.cell (m := 7) rfl
 have f8 := K3.frozen
 clear K0 K1 K2 K3 KB
 go_wp2_with fail
 have V := ((((((((zu J3).set 0 0).set 1 0).set 2 0).set 3 0).set 4 X).set 5 Y).set 6 Dd).set 7 n
 have h2n : w.heap.size ≤ w.heap.size + 1 + 1 + 1 := by omega
 have hBV : Below w.heap.size w ((((((((W1.setCell ⟨w.heap.size + 1 + 1 + 1, 0, none⟩ (.int .i64 0)).setCell ⟨w.heap.size + 1 + 1 + 1, 1, none⟩ (.int .i64 0)).setCell ⟨w.heap.size + 1 + 1 + 1, 2, none⟩ (.int .i64 0)).setCell ⟨w.heap.size + 1 + 1 + 1, 3, none⟩ (.int .i64 0)).setCell ⟨w.heap.size + 1 + 1 + 1, 4, none⟩ (.int .i64 X)).setCell ⟨w.heap.size + 1 + 1 + 1, 5, none⟩ (.int .i64 Y)).setCell ⟨w.heap.size + 1 + 1 + 1, 6, none⟩ (.int .i64 Dd)).setCell ⟨w.heap.size + 1 + 1 + 1, 7, none⟩ (.int .i64 n)) :=
  Below.setCell (Below.setCell (Below.setCell (Below.setCell (Below.setCell (Below.setCell (Below.setCell (Below.setCell (zu JB) h2n _) h2n _) h2n _) h2n _) h2n _) h2n _) h2n _) h2n _
 have s0 := V.cell (m := 0) rfl
 have s1 := V.cell (m := 1) rfl
 have s2 := V.cell (m := 2) rfl
 have s3 := V.cell (m := 3) rfl
 have s4 := V.cell (m := 4) rfl
 have s5 := V.cell (m := 5) rfl
 have s6 := V.cell (m := 6) rfl
 have s7 := V.cell (m := 7) rfl
 generalize ((((((((W1.setCell ⟨w.heap.size + 1 + 1 + 1, 0, none⟩ (.int .i64 0)).setCell ⟨w.heap.size + 1 + 1 + 1, 1, none⟩ (.int .i64 0)).setCell ⟨w.heap.size + 1 + 1 + 1, 2, none⟩ (.int .i64 0)).setCell ⟨w.heap.size + 1 + 1 + 1, 3, none⟩ (.int .i64 0)).setCell ⟨w.heap.size + 1 + 1 + 1, 4, none⟩ (.int .i64 X)).setCell ⟨w.heap.size + 1 + 1 + 1, 5, none⟩ (.int .i64 Y)).setCell ⟨w.heap.size + 1 + 1 + 1, 6, none⟩ (.int .i64 Dd)).setCell ⟨w.heap.size + 1 + 1 + 1, 7, none⟩ (.int .i64 n)) = W9 at *
 refine bodyPost_ret (v := .tuple #[.agg #[.int .i64 0, .int .i64 0, .int .i64 0, .int .i64 0, .int .i64 X, .int .i64 Y, .int .i64 Dd, .int .i64 n], .bool true]) (by simp [results, Try.results45, go_sem, s0, s1, s2, s3, s4, s5, s6, s7]) rfl ⟨rfl, ?_⟩
 exact hBV
end Go.Proofs.Ytdcecfgmfmpeeaa
