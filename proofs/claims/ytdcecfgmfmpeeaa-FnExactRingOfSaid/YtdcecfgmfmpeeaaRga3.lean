/-
  l09Triple: the circle through three points, where no angle is above a right one. l09Triple at any three near points. smallestCircle's steps: what each inner call is handed, and that each circle lies near. circleThrough at none, one, two or three points. copy of up to two points into an array of three; circleThrough at any rim. smallestCircle at every list of near points and every rim that it is called with. Statements of the circle's other methods that draw their order, each walked alone. RingOf: the numbers that the program tells and those that the model tells are one. onRim: the first points on the rim, in their order. diameter: the first two on the rim whose circle this is. obtuse: whether one of three angles is above a right one. notObtuse: the first three on the rim without an angle above a right one. toldBy: the numbers that tell the circle. The program's RingOf at every list. l09First where the point is not there; where it is, or not. The model's RingOf: lists that are none, and one point.
-/
import Derived.Test.YtdcecfgmfmpeeaaRga2
import Derived.Test.YtdcecfgmfmpeeaaRga1
import Derived.Laws.Cover3
import Derived.Laws.CopyRow
import Derived.Laws.CopyOwn
import Derived.Test.YtdcecfgmfmpeeaaZal
import Derived.Test.YtdcecfgmfmpeeaaInv2
namespace Go.Proofs.Ytdcecfgmfmpeeaa
open Go.ChangeShapes Go.WideShapes Go.ChangeAt Go.RowKit
set_option linter.unusedVariables false
set_option linter.unusedSimpArgs false

set_option maxHeartbeats 4000000 in
set_option maxRecDepth 100000 in
theorem triM_flat (a1 a2 b1 b2 d1 d2 S : Int) (w : World) (hS : IntKind.i64.wrap (2 * S) = 2 * S) (HS : Hid (∀ W : World, Calls Try.prog 31 #[.agg #[.int .i64 a1, .int .i64 a2], .agg #[.int .i64 b1, .int .i64 b2], .agg #[.int .i64 d1, .int .i64 d2]] W fun e w' => e = .returned (.int .i64 S) ∧ Below W.heap.size W w'))
    (h0 : 2 * S = 0) :
    Calls Try.prog 45 #[.agg #[.int .i64 a1, .int .i64 a2], .agg #[.int .i64 b1, .int .i64 b2], .agg #[.int .i64 d1, .int .i64 d2]] w fun e w' => e = .returned (.tuple #[.agg #[.int .i64 0, .int .i64 0, .int .i64 0, .int .i64 0, .int .i64 0, .int .i64 0, .int .i64 0, .int .i64 0], .bool false]) ∧ Below w.heap.size w w' := by
  have JB : Hid (Below w.heap.size w ((((w.alloc (.cells #[.int .i64 a1, .int .i64 a2] 30)).alloc (.cells #[.int .i64 b1, .int .i64 b2] 30)).alloc (.cells #[.int .i64 d1, .int .i64 d2] 30)).alloc (.cells #[.int .i64 0, .int .i64 0, .int .i64 0, .int .i64 0, .int .i64 0, .int .i64 0, .int .i64 0, .int .i64 0] 34))) := hide (ba (ba (ba (ba (Below.refl _ _) _) _) _) _)
  have J0 : Hid (iblk ((((w.alloc (.cells #[.int .i64 a1, .int .i64 a2] 30)).alloc (.cells #[.int .i64 b1, .int .i64 b2] 30)).alloc (.cells #[.int .i64 d1, .int .i64 d2] 30)).alloc (.cells #[.int .i64 0, .int .i64 0, .int .i64 0, .int .i64 0, .int .i64 0, .int .i64 0, .int .i64 0, .int .i64 0] 34)) w.heap.size 30 [a1, a2]) := hide ((iblk_new w 30 [a1, a2]).bel (ba (ba (ba (Below.refl _ _) _) _) _))
  have J1 : Hid (iblk ((((w.alloc (.cells #[.int .i64 a1, .int .i64 a2] 30)).alloc (.cells #[.int .i64 b1, .int .i64 b2] 30)).alloc (.cells #[.int .i64 d1, .int .i64 d2] 30)).alloc (.cells #[.int .i64 0, .int .i64 0, .int .i64 0, .int .i64 0, .int .i64 0, .int .i64 0, .int .i64 0, .int .i64 0] 34)) (w.heap.size + 1) 30 [b1, b2]) := hide (by
    have h := (iblk_new (w.alloc (.cells #[.int .i64 a1, .int .i64 a2] 30)) 30 [b1, b2]).bel (ba (ba (Below.refl _ _) (.cells #[.int .i64 d1, .int .i64 d2] 30)) (.cells #[.int .i64 0, .int .i64 0, .int .i64 0, .int .i64 0, .int .i64 0, .int .i64 0, .int .i64 0, .int .i64 0] 34))
    have e : (w.alloc (.cells #[.int .i64 a1, .int .i64 a2] 30)).heap.size = w.heap.size + 1 := by simp
    rw [e] at h
    exact h)
  have J2 : Hid (iblk ((((w.alloc (.cells #[.int .i64 a1, .int .i64 a2] 30)).alloc (.cells #[.int .i64 b1, .int .i64 b2] 30)).alloc (.cells #[.int .i64 d1, .int .i64 d2] 30)).alloc (.cells #[.int .i64 0, .int .i64 0, .int .i64 0, .int .i64 0, .int .i64 0, .int .i64 0, .int .i64 0, .int .i64 0] 34)) (w.heap.size + 1 + 1) 30 [d1, d2]) := hide (by
    have h := (iblk_new ((w.alloc (.cells #[.int .i64 a1, .int .i64 a2] 30)).alloc (.cells #[.int .i64 b1, .int .i64 b2] 30)) 30 [d1, d2]).bel (ba (Below.refl _ _) (.cells #[.int .i64 0, .int .i64 0, .int .i64 0, .int .i64 0, .int .i64 0, .int .i64 0, .int .i64 0, .int .i64 0] 34))
    have e : ((w.alloc (.cells #[.int .i64 a1, .int .i64 a2] 30)).alloc (.cells #[.int .i64 b1, .int .i64 b2] 30)).heap.size = w.heap.size + 1 + 1 := by simp
    rw [e] at h
    exact h)
  have J3 : Hid (iblk ((((w.alloc (.cells #[.int .i64 a1, .int .i64 a2] 30)).alloc (.cells #[.int .i64 b1, .int .i64 b2] 30)).alloc (.cells #[.int .i64 d1, .int .i64 d2] 30)).alloc (.cells #[.int .i64 0, .int .i64 0, .int .i64 0, .int .i64 0, .int .i64 0, .int .i64 0, .int .i64 0, .int .i64 0] 34)) (w.heap.size + 1 + 1 + 1) 34 [0, 0, 0, 0, 0, 0, 0, 0]) := hide (by
    have h := iblk_new (((w.alloc (.cells #[.int .i64 a1, .int .i64 a2] 30)).alloc (.cells #[.int .i64 b1, .int .i64 b2] 30)).alloc (.cells #[.int .i64 d1, .int .i64 d2] 30)) 34 [0, 0, 0, 0, 0, 0, 0, 0]
    have e : (((w.alloc (.cells #[.int .i64 a1, .int .i64 a2] 30)).alloc (.cells #[.int .i64 b1, .int .i64 b2] 30)).alloc (.cells #[.int .i64 d1, .int .i64 d2] 30)).heap.size = w.heap.size + 1 + 1 + 1 := by simp
    rw [e] at h
    exact h)
  have kp : ∀ {X : World} (V : World), Below X.heap.size X V → iblk X w.heap.size 30 [a1, a2] → iblk X (w.heap.size + 1) 30 [b1, b2] → iblk X (w.heap.size + 1 + 1) 30 [d1, d2] → iblk X (w.heap.size + 1 + 1 + 1) 34 [0, 0, 0, 0, 0, 0, 0, 0] → Below w.heap.size w X → iblk V w.heap.size 30 [a1, a2] ∧ iblk V (w.heap.size + 1) 30 [b1, b2] ∧ iblk V (w.heap.size + 1 + 1) 30 [d1, d2] ∧ iblk V (w.heap.size + 1 + 1 + 1) 34 [0, 0, 0, 0, 0, 0, 0, 0] ∧ Below w.heap.size w V :=
    fun V h h0 h1 h2 h3 h4 => ⟨h0.bel h, h1.bel h, h2.bel h, h3.bel h, bc h4 h⟩
  go_enter Try.func45, Try.ntmps45
  go_wp2_with fail
  generalize ((((w.alloc (.cells #[.int .i64 a1, .int .i64 a2] 30)).alloc (.cells #[.int .i64 b1, .int .i64 b2] 30)).alloc (.cells #[.int .i64 d1, .int .i64 d2] 30)).alloc (.cells #[.int .i64 0, .int .i64 0, .int .i64 0, .int .i64 0, .int .i64 0, .int .i64 0, .int .i64 0, .int .i64 0] 34)) = W0 at *
  have e0 : ((2 * S == 0) : Bool) = true := by simp [h0]
  have e1 : decide (2 * S = 0) = true := decide_eq_true h0
  refine (unhide HS _).mono ?_
  rintro e W1 ⟨rfl, hb1⟩
  obtain ⟨K0, K1, K2, K3, KB⟩ := kp _ hb1 (unhide J0) (unhide J1) (unhide J2) (unhide J3) (unhide JB)
  clear J0 J1 J2 J3 JB hb1
  have J0 := hide K0
  have J1 := hide K1
  have J2 := hide K2
  have J3 := hide K3
  have JB := hide KB
  have x0 := K0.cell (m := 0) rfl
  have x1 := K0.cell (m := 1) rfl
  have y0 := K1.cell (m := 0) rfl
  have y1 := K1.cell (m := 1) rfl
  have z0 := K2.cell (m := 0) rfl
  have z1 := K2.cell (m := 1) rfl
  have o0 := K3.cell (m := 0) rfl
  have o1 := K3.cell (m := 1) rfl
  have o2 := K3.cell (m := 2) rfl
  have o3 := K3.cell (m := 3) rfl
  have o4 := K3.cell (m := 4) rfl
  have o5 := K3.cell (m := 5) rfl
  have o6 := K3.cell (m := 6) rfl
  have o7 := K3.cell (m := 7) rfl
  have f8 := K3.frozen
  clear K0 K1 K2 K3 KB
  go_wp2_with fail
  have V := ((((((((unhide J3).set 0 0).set 1 0).set 2 0).set 3 0).set 4 0).set 5 0).set 6 0).set 7 0
  have h2n : w.heap.size ≤ w.heap.size + 1 + 1 + 1 := by omega
  have hBV : Below w.heap.size w ((((((((W1.setCell ⟨w.heap.size + 1 + 1 + 1, 0, none⟩ (.int .i64 0)).setCell ⟨w.heap.size + 1 + 1 + 1, 1, none⟩ (.int .i64 0)).setCell ⟨w.heap.size + 1 + 1 + 1, 2, none⟩ (.int .i64 0)).setCell ⟨w.heap.size + 1 + 1 + 1, 3, none⟩ (.int .i64 0)).setCell ⟨w.heap.size + 1 + 1 + 1, 4, none⟩ (.int .i64 0)).setCell ⟨w.heap.size + 1 + 1 + 1, 5, none⟩ (.int .i64 0)).setCell ⟨w.heap.size + 1 + 1 + 1, 6, none⟩ (.int .i64 0)).setCell ⟨w.heap.size + 1 + 1 + 1, 7, none⟩ (.int .i64 0)) :=
    Below.setCell (Below.setCell (Below.setCell (Below.setCell (Below.setCell (Below.setCell (Below.setCell (Below.setCell (unhide JB) h2n _) h2n _) h2n _) h2n _) h2n _) h2n _) h2n _) h2n _
  have s0 := V.cell (m := 0) rfl
  have s1 := V.cell (m := 1) rfl
  have s2 := V.cell (m := 2) rfl
  have s3 := V.cell (m := 3) rfl
  have s4 := V.cell (m := 4) rfl
  have s5 := V.cell (m := 5) rfl
  have s6 := V.cell (m := 6) rfl
  have s7 := V.cell (m := 7) rfl
  generalize ((((((((W1.setCell ⟨w.heap.size + 1 + 1 + 1, 0, none⟩ (.int .i64 0)).setCell ⟨w.heap.size + 1 + 1 + 1, 1, none⟩ (.int .i64 0)).setCell ⟨w.heap.size + 1 + 1 + 1, 2, none⟩ (.int .i64 0)).setCell ⟨w.heap.size + 1 + 1 + 1, 3, none⟩ (.int .i64 0)).setCell ⟨w.heap.size + 1 + 1 + 1, 4, none⟩ (.int .i64 0)).setCell ⟨w.heap.size + 1 + 1 + 1, 5, none⟩ (.int .i64 0)).setCell ⟨w.heap.size + 1 + 1 + 1, 6, none⟩ (.int .i64 0)).setCell ⟨w.heap.size + 1 + 1 + 1, 7, none⟩ (.int .i64 0)) = W9 at *
  refine bodyPost_ret (v := .tuple #[.agg #[.int .i64 0, .int .i64 0, .int .i64 0, .int .i64 0, .int .i64 0, .int .i64 0, .int .i64 0, .int .i64 0], .bool false]) (by simp [results, Try.results45, go_sem, s0, s1, s2, s3, s4, s5, s6, s7]) rfl ⟨rfl, ?_⟩
  exact hBV
set_option maxHeartbeats 4000000 in
set_option maxRecDepth 100000 in
theorem triM_o1 (a1 a2 b1 b2 d1 d2 S : Int) (w : World) (hS : IntKind.i64.wrap (2 * S) = 2 * S) (HS : Hid (∀ W : World, Calls Try.prog 31 #[.agg #[.int .i64 a1, .int .i64 a2], .agg #[.int .i64 b1, .int .i64 b2], .agg #[.int .i64 d1, .int .i64 d2]] W fun e w' => e = .returned (.int .i64 S) ∧ Below W.heap.size W w'))
    (h0 : ¬ 2 * S = 0)
    (H1 : Hid (∀ W : World, Calls Try.prog 71 #[.agg #[.int .i64 a1, .int .i64 a2], .agg #[.int .i64 b1, .int .i64 b2], .agg #[.int .i64 d1, .int .i64 d2]] W fun e w' => e = .returned (.bool false) ∧ Below W.heap.size W w')) :
    Calls Try.prog 45 #[.agg #[.int .i64 a1, .int .i64 a2], .agg #[.int .i64 b1, .int .i64 b2], .agg #[.int .i64 d1, .int .i64 d2]] w fun e w' => e = .returned (.tuple #[.agg #[.int .i64 0, .int .i64 0, .int .i64 0, .int .i64 0, .int .i64 0, .int .i64 0, .int .i64 0, .int .i64 0], .bool false]) ∧ Below w.heap.size w w' := by
  have JB : Hid (Below w.heap.size w ((((w.alloc (.cells #[.int .i64 a1, .int .i64 a2] 30)).alloc (.cells #[.int .i64 b1, .int .i64 b2] 30)).alloc (.cells #[.int .i64 d1, .int .i64 d2] 30)).alloc (.cells #[.int .i64 0, .int .i64 0, .int .i64 0, .int .i64 0, .int .i64 0, .int .i64 0, .int .i64 0, .int .i64 0] 34))) := hide (ba (ba (ba (ba (Below.refl _ _) _) _) _) _)
  have J0 : Hid (iblk ((((w.alloc (.cells #[.int .i64 a1, .int .i64 a2] 30)).alloc (.cells #[.int .i64 b1, .int .i64 b2] 30)).alloc (.cells #[.int .i64 d1, .int .i64 d2] 30)).alloc (.cells #[.int .i64 0, .int .i64 0, .int .i64 0, .int .i64 0, .int .i64 0, .int .i64 0, .int .i64 0, .int .i64 0] 34)) w.heap.size 30 [a1, a2]) := hide ((iblk_new w 30 [a1, a2]).bel (ba (ba (ba (Below.refl _ _) _) _) _))
  have J1 : Hid (iblk ((((w.alloc (.cells #[.int .i64 a1, .int .i64 a2] 30)).alloc (.cells #[.int .i64 b1, .int .i64 b2] 30)).alloc (.cells #[.int .i64 d1, .int .i64 d2] 30)).alloc (.cells #[.int .i64 0, .int .i64 0, .int .i64 0, .int .i64 0, .int .i64 0, .int .i64 0, .int .i64 0, .int .i64 0] 34)) (w.heap.size + 1) 30 [b1, b2]) := hide (by
    have h := (iblk_new (w.alloc (.cells #[.int .i64 a1, .int .i64 a2] 30)) 30 [b1, b2]).bel (ba (ba (Below.refl _ _) (.cells #[.int .i64 d1, .int .i64 d2] 30)) (.cells #[.int .i64 0, .int .i64 0, .int .i64 0, .int .i64 0, .int .i64 0, .int .i64 0, .int .i64 0, .int .i64 0] 34))
    have e : (w.alloc (.cells #[.int .i64 a1, .int .i64 a2] 30)).heap.size = w.heap.size + 1 := by simp
    rw [e] at h
    exact h)
  have J2 : Hid (iblk ((((w.alloc (.cells #[.int .i64 a1, .int .i64 a2] 30)).alloc (.cells #[.int .i64 b1, .int .i64 b2] 30)).alloc (.cells #[.int .i64 d1, .int .i64 d2] 30)).alloc (.cells #[.int .i64 0, .int .i64 0, .int .i64 0, .int .i64 0, .int .i64 0, .int .i64 0, .int .i64 0, .int .i64 0] 34)) (w.heap.size + 1 + 1) 30 [d1, d2]) := hide (by
    have h := (iblk_new ((w.alloc (.cells #[.int .i64 a1, .int .i64 a2] 30)).alloc (.cells #[.int .i64 b1, .int .i64 b2] 30)) 30 [d1, d2]).bel (ba (Below.refl _ _) (.cells #[.int .i64 0, .int .i64 0, .int .i64 0, .int .i64 0, .int .i64 0, .int .i64 0, .int .i64 0, .int .i64 0] 34))
    have e : ((w.alloc (.cells #[.int .i64 a1, .int .i64 a2] 30)).alloc (.cells #[.int .i64 b1, .int .i64 b2] 30)).heap.size = w.heap.size + 1 + 1 := by simp
    rw [e] at h
    exact h)
  have J3 : Hid (iblk ((((w.alloc (.cells #[.int .i64 a1, .int .i64 a2] 30)).alloc (.cells #[.int .i64 b1, .int .i64 b2] 30)).alloc (.cells #[.int .i64 d1, .int .i64 d2] 30)).alloc (.cells #[.int .i64 0, .int .i64 0, .int .i64 0, .int .i64 0, .int .i64 0, .int .i64 0, .int .i64 0, .int .i64 0] 34)) (w.heap.size + 1 + 1 + 1) 34 [0, 0, 0, 0, 0, 0, 0, 0]) := hide (by
    have h := iblk_new (((w.alloc (.cells #[.int .i64 a1, .int .i64 a2] 30)).alloc (.cells #[.int .i64 b1, .int .i64 b2] 30)).alloc (.cells #[.int .i64 d1, .int .i64 d2] 30)) 34 [0, 0, 0, 0, 0, 0, 0, 0]
    have e : (((w.alloc (.cells #[.int .i64 a1, .int .i64 a2] 30)).alloc (.cells #[.int .i64 b1, .int .i64 b2] 30)).alloc (.cells #[.int .i64 d1, .int .i64 d2] 30)).heap.size = w.heap.size + 1 + 1 + 1 := by simp
    rw [e] at h
    exact h)
  have kp : ∀ {X : World} (V : World), Below X.heap.size X V → iblk X w.heap.size 30 [a1, a2] → iblk X (w.heap.size + 1) 30 [b1, b2] → iblk X (w.heap.size + 1 + 1) 30 [d1, d2] → iblk X (w.heap.size + 1 + 1 + 1) 34 [0, 0, 0, 0, 0, 0, 0, 0] → Below w.heap.size w X → iblk V w.heap.size 30 [a1, a2] ∧ iblk V (w.heap.size + 1) 30 [b1, b2] ∧ iblk V (w.heap.size + 1 + 1) 30 [d1, d2] ∧ iblk V (w.heap.size + 1 + 1 + 1) 34 [0, 0, 0, 0, 0, 0, 0, 0] ∧ Below w.heap.size w V :=
    fun V h h0 h1 h2 h3 h4 => ⟨h0.bel h, h1.bel h, h2.bel h, h3.bel h, bc h4 h⟩
  go_enter Try.func45, Try.ntmps45
  go_wp2_with fail
  generalize ((((w.alloc (.cells #[.int .i64 a1, .int .i64 a2] 30)).alloc (.cells #[.int .i64 b1, .int .i64 b2] 30)).alloc (.cells #[.int .i64 d1, .int .i64 d2] 30)).alloc (.cells #[.int .i64 0, .int .i64 0, .int .i64 0, .int .i64 0, .int .i64 0, .int .i64 0, .int .i64 0, .int .i64 0] 34)) = W0 at *
  have e0 : ((2 * S == 0) : Bool) = false := by simp [h0]
  have e1 : decide (2 * S = 0) = false := decide_eq_false h0
  refine (unhide HS _).mono ?_
  rintro e W1 ⟨rfl, hb1⟩
  obtain ⟨K0, K1, K2, K3, KB⟩ := kp _ hb1 (unhide J0) (unhide J1) (unhide J2) (unhide J3) (unhide JB)
  clear J0 J1 J2 J3 JB hb1
  have J0 := hide K0
  have J1 := hide K1
  have J2 := hide K2
  have J3 := hide K3
  have JB := hide KB
  have x0 := K0.cell (m := 0) rfl
  have x1 := K0.cell (m := 1) rfl
  have y0 := K1.cell (m := 0) rfl
  have y1 := K1.cell (m := 1) rfl
  have z0 := K2.cell (m := 0) rfl
  have z1 := K2.cell (m := 1) rfl
  have o0 := K3.cell (m := 0) rfl
  have o1 := K3.cell (m := 1) rfl
  have o2 := K3.cell (m := 2) rfl
  have o3 := K3.cell (m := 3) rfl
  have o4 := K3.cell (m := 4) rfl
  have o5 := K3.cell (m := 5) rfl
  have o6 := K3.cell (m := 6) rfl
  have o7 := K3.cell (m := 7) rfl
  have f8 := K3.frozen
  clear K0 K1 K2 K3 KB
  go_wp2_with fail
  refine (unhide H1 _).mono ?_
  rintro e W1 ⟨rfl, hb1⟩
  obtain ⟨K0, K1, K2, K3, KB⟩ := kp _ hb1 (unhide J0) (unhide J1) (unhide J2) (unhide J3) (unhide JB)
  clear J0 J1 J2 J3 JB hb1
  have J0 := hide K0
  have J1 := hide K1
  have J2 := hide K2
  have J3 := hide K3
  have JB := hide KB
  have x0 := K0.cell (m := 0) rfl
  have x1 := K0.cell (m := 1) rfl
  have y0 := K1.cell (m := 0) rfl
  have y1 := K1.cell (m := 1) rfl
  have z0 := K2.cell (m := 0) rfl
  have z1 := K2.cell (m := 1) rfl
  have o0 := K3.cell (m := 0) rfl
  have o1 := K3.cell (m := 1) rfl
  have o2 := K3.cell (m := 2) rfl
  have o3 := K3.cell (m := 3) rfl
  have o4 := K3.cell (m := 4) rfl
  have o5 := K3.cell (m := 5) rfl
  have o6 := K3.cell (m := 6) rfl
  have o7 := K3.cell (m := 7) rfl
  have f8 := K3.frozen
  clear K0 K1 K2 K3 KB
  go_wp2_with fail
  have V := ((((((((unhide J3).set 0 0).set 1 0).set 2 0).set 3 0).set 4 0).set 5 0).set 6 0).set 7 0
  have h2n : w.heap.size ≤ w.heap.size + 1 + 1 + 1 := by omega
  have hBV : Below w.heap.size w ((((((((W1.setCell ⟨w.heap.size + 1 + 1 + 1, 0, none⟩ (.int .i64 0)).setCell ⟨w.heap.size + 1 + 1 + 1, 1, none⟩ (.int .i64 0)).setCell ⟨w.heap.size + 1 + 1 + 1, 2, none⟩ (.int .i64 0)).setCell ⟨w.heap.size + 1 + 1 + 1, 3, none⟩ (.int .i64 0)).setCell ⟨w.heap.size + 1 + 1 + 1, 4, none⟩ (.int .i64 0)).setCell ⟨w.heap.size + 1 + 1 + 1, 5, none⟩ (.int .i64 0)).setCell ⟨w.heap.size + 1 + 1 + 1, 6, none⟩ (.int .i64 0)).setCell ⟨w.heap.size + 1 + 1 + 1, 7, none⟩ (.int .i64 0)) :=
    Below.setCell (Below.setCell (Below.setCell (Below.setCell (Below.setCell (Below.setCell (Below.setCell (Below.setCell (unhide JB) h2n _) h2n _) h2n _) h2n _) h2n _) h2n _) h2n _) h2n _
  have s0 := V.cell (m := 0) rfl
  have s1 := V.cell (m := 1) rfl
  have s2 := V.cell (m := 2) rfl
  have s3 := V.cell (m := 3) rfl
  have s4 := V.cell (m := 4) rfl
  have s5 := V.cell (m := 5) rfl
  have s6 := V.cell (m := 6) rfl
  have s7 := V.cell (m := 7) rfl
  generalize ((((((((W1.setCell ⟨w.heap.size + 1 + 1 + 1, 0, none⟩ (.int .i64 0)).setCell ⟨w.heap.size + 1 + 1 + 1, 1, none⟩ (.int .i64 0)).setCell ⟨w.heap.size + 1 + 1 + 1, 2, none⟩ (.int .i64 0)).setCell ⟨w.heap.size + 1 + 1 + 1, 3, none⟩ (.int .i64 0)).setCell ⟨w.heap.size + 1 + 1 + 1, 4, none⟩ (.int .i64 0)).setCell ⟨w.heap.size + 1 + 1 + 1, 5, none⟩ (.int .i64 0)).setCell ⟨w.heap.size + 1 + 1 + 1, 6, none⟩ (.int .i64 0)).setCell ⟨w.heap.size + 1 + 1 + 1, 7, none⟩ (.int .i64 0)) = W9 at *
  refine bodyPost_ret (v := .tuple #[.agg #[.int .i64 0, .int .i64 0, .int .i64 0, .int .i64 0, .int .i64 0, .int .i64 0, .int .i64 0, .int .i64 0], .bool false]) (by simp [results, Try.results45, go_sem, s0, s1, s2, s3, s4, s5, s6, s7]) rfl ⟨rfl, ?_⟩
  exact hBV
set_option maxHeartbeats 4000000 in
set_option maxRecDepth 100000 in
theorem triM_o2 (a1 a2 b1 b2 d1 d2 S : Int) (w : World) (hS : IntKind.i64.wrap (2 * S) = 2 * S) (HS : Hid (∀ W : World, Calls Try.prog 31 #[.agg #[.int .i64 a1, .int .i64 a2], .agg #[.int .i64 b1, .int .i64 b2], .agg #[.int .i64 d1, .int .i64 d2]] W fun e w' => e = .returned (.int .i64 S) ∧ Below W.heap.size W w'))
    (h0 : ¬ 2 * S = 0)
    (H1 : Hid (∀ W : World, Calls Try.prog 71 #[.agg #[.int .i64 a1, .int .i64 a2], .agg #[.int .i64 b1, .int .i64 b2], .agg #[.int .i64 d1, .int .i64 d2]] W fun e w' => e = .returned (.bool true) ∧ Below W.heap.size W w'))
    (H2 : Hid (∀ W : World, Calls Try.prog 71 #[.agg #[.int .i64 b1, .int .i64 b2], .agg #[.int .i64 d1, .int .i64 d2], .agg #[.int .i64 a1, .int .i64 a2]] W fun e w' => e = .returned (.bool false) ∧ Below W.heap.size W w')) :
    Calls Try.prog 45 #[.agg #[.int .i64 a1, .int .i64 a2], .agg #[.int .i64 b1, .int .i64 b2], .agg #[.int .i64 d1, .int .i64 d2]] w fun e w' => e = .returned (.tuple #[.agg #[.int .i64 0, .int .i64 0, .int .i64 0, .int .i64 0, .int .i64 0, .int .i64 0, .int .i64 0, .int .i64 0], .bool false]) ∧ Below w.heap.size w w' := by
  have JB : Hid (Below w.heap.size w ((((w.alloc (.cells #[.int .i64 a1, .int .i64 a2] 30)).alloc (.cells #[.int .i64 b1, .int .i64 b2] 30)).alloc (.cells #[.int .i64 d1, .int .i64 d2] 30)).alloc (.cells #[.int .i64 0, .int .i64 0, .int .i64 0, .int .i64 0, .int .i64 0, .int .i64 0, .int .i64 0, .int .i64 0] 34))) := hide (ba (ba (ba (ba (Below.refl _ _) _) _) _) _)
  have J0 : Hid (iblk ((((w.alloc (.cells #[.int .i64 a1, .int .i64 a2] 30)).alloc (.cells #[.int .i64 b1, .int .i64 b2] 30)).alloc (.cells #[.int .i64 d1, .int .i64 d2] 30)).alloc (.cells #[.int .i64 0, .int .i64 0, .int .i64 0, .int .i64 0, .int .i64 0, .int .i64 0, .int .i64 0, .int .i64 0] 34)) w.heap.size 30 [a1, a2]) := hide ((iblk_new w 30 [a1, a2]).bel (ba (ba (ba (Below.refl _ _) _) _) _))
  have J1 : Hid (iblk ((((w.alloc (.cells #[.int .i64 a1, .int .i64 a2] 30)).alloc (.cells #[.int .i64 b1, .int .i64 b2] 30)).alloc (.cells #[.int .i64 d1, .int .i64 d2] 30)).alloc (.cells #[.int .i64 0, .int .i64 0, .int .i64 0, .int .i64 0, .int .i64 0, .int .i64 0, .int .i64 0, .int .i64 0] 34)) (w.heap.size + 1) 30 [b1, b2]) := hide (by
    have h := (iblk_new (w.alloc (.cells #[.int .i64 a1, .int .i64 a2] 30)) 30 [b1, b2]).bel (ba (ba (Below.refl _ _) (.cells #[.int .i64 d1, .int .i64 d2] 30)) (.cells #[.int .i64 0, .int .i64 0, .int .i64 0, .int .i64 0, .int .i64 0, .int .i64 0, .int .i64 0, .int .i64 0] 34))
    have e : (w.alloc (.cells #[.int .i64 a1, .int .i64 a2] 30)).heap.size = w.heap.size + 1 := by simp
    rw [e] at h
    exact h)
  have J2 : Hid (iblk ((((w.alloc (.cells #[.int .i64 a1, .int .i64 a2] 30)).alloc (.cells #[.int .i64 b1, .int .i64 b2] 30)).alloc (.cells #[.int .i64 d1, .int .i64 d2] 30)).alloc (.cells #[.int .i64 0, .int .i64 0, .int .i64 0, .int .i64 0, .int .i64 0, .int .i64 0, .int .i64 0, .int .i64 0] 34)) (w.heap.size + 1 + 1) 30 [d1, d2]) := hide (by
    have h := (iblk_new ((w.alloc (.cells #[.int .i64 a1, .int .i64 a2] 30)).alloc (.cells #[.int .i64 b1, .int .i64 b2] 30)) 30 [d1, d2]).bel (ba (Below.refl _ _) (.cells #[.int .i64 0, .int .i64 0, .int .i64 0, .int .i64 0, .int .i64 0, .int .i64 0, .int .i64 0, .int .i64 0] 34))
    have e : ((w.alloc (.cells #[.int .i64 a1, .int .i64 a2] 30)).alloc (.cells #[.int .i64 b1, .int .i64 b2] 30)).heap.size = w.heap.size + 1 + 1 := by simp
    rw [e] at h
    exact h)
  have J3 : Hid (iblk ((((w.alloc (.cells #[.int .i64 a1, .int .i64 a2] 30)).alloc (.cells #[.int .i64 b1, .int .i64 b2] 30)).alloc (.cells #[.int .i64 d1, .int .i64 d2] 30)).alloc (.cells #[.int .i64 0, .int .i64 0, .int .i64 0, .int .i64 0, .int .i64 0, .int .i64 0, .int .i64 0, .int .i64 0] 34)) (w.heap.size + 1 + 1 + 1) 34 [0, 0, 0, 0, 0, 0, 0, 0]) := hide (by
    have h := iblk_new (((w.alloc (.cells #[.int .i64 a1, .int .i64 a2] 30)).alloc (.cells #[.int .i64 b1, .int .i64 b2] 30)).alloc (.cells #[.int .i64 d1, .int .i64 d2] 30)) 34 [0, 0, 0, 0, 0, 0, 0, 0]
    have e : (((w.alloc (.cells #[.int .i64 a1, .int .i64 a2] 30)).alloc (.cells #[.int .i64 b1, .int .i64 b2] 30)).alloc (.cells #[.int .i64 d1, .int .i64 d2] 30)).heap.size = w.heap.size + 1 + 1 + 1 := by simp
    rw [e] at h
    exact h)
  have kp : ∀ {X : World} (V : World), Below X.heap.size X V → iblk X w.heap.size 30 [a1, a2] → iblk X (w.heap.size + 1) 30 [b1, b2] → iblk X (w.heap.size + 1 + 1) 30 [d1, d2] → iblk X (w.heap.size + 1 + 1 + 1) 34 [0, 0, 0, 0, 0, 0, 0, 0] → Below w.heap.size w X → iblk V w.heap.size 30 [a1, a2] ∧ iblk V (w.heap.size + 1) 30 [b1, b2] ∧ iblk V (w.heap.size + 1 + 1) 30 [d1, d2] ∧ iblk V (w.heap.size + 1 + 1 + 1) 34 [0, 0, 0, 0, 0, 0, 0, 0] ∧ Below w.heap.size w V :=
    fun V h h0 h1 h2 h3 h4 => ⟨h0.bel h, h1.bel h, h2.bel h, h3.bel h, bc h4 h⟩
  go_enter Try.func45, Try.ntmps45
  go_wp2_with fail
  generalize ((((w.alloc (.cells #[.int .i64 a1, .int .i64 a2] 30)).alloc (.cells #[.int .i64 b1, .int .i64 b2] 30)).alloc (.cells #[.int .i64 d1, .int .i64 d2] 30)).alloc (.cells #[.int .i64 0, .int .i64 0, .int .i64 0, .int .i64 0, .int .i64 0, .int .i64 0, .int .i64 0, .int .i64 0] 34)) = W0 at *
  have e0 : ((2 * S == 0) : Bool) = false := by simp [h0]
  have e1 : decide (2 * S = 0) = false := decide_eq_false h0
  refine (unhide HS _).mono ?_
  rintro e W1 ⟨rfl, hb1⟩
  obtain ⟨K0, K1, K2, K3, KB⟩ := kp _ hb1 (unhide J0) (unhide J1) (unhide J2) (unhide J3) (unhide JB)
  clear J0 J1 J2 J3 JB hb1
  have J0 := hide K0
  have J1 := hide K1
  have J2 := hide K2
  have J3 := hide K3
  have JB := hide KB
  have x0 := K0.cell (m := 0) rfl
  have x1 := K0.cell (m := 1) rfl
  have y0 := K1.cell (m := 0) rfl
  have y1 := K1.cell (m := 1) rfl
  have z0 := K2.cell (m := 0) rfl
  have z1 := K2.cell (m := 1) rfl
  have o0 := K3.cell (m := 0) rfl
  have o1 := K3.cell (m := 1) rfl
  have o2 := K3.cell (m := 2) rfl
  have o3 := K3.cell (m := 3) rfl
  have o4 := K3.cell (m := 4) rfl
  have o5 := K3.cell (m := 5) rfl
  have o6 := K3.cell (m := 6) rfl
  have o7 := K3.cell (m := 7) rfl
  have f8 := K3.frozen
  clear K0 K1 K2 K3 KB
  go_wp2_with fail
  refine (unhide H1 _).mono ?_
  rintro e W1 ⟨rfl, hb1⟩
  obtain ⟨K0, K1, K2, K3, KB⟩ := kp _ hb1 (unhide J0) (unhide J1) (unhide J2) (unhide J3) (unhide JB)
  clear J0 J1 J2 J3 JB hb1
  have J0 := hide K0
  have J1 := hide K1
  have J2 := hide K2
  have J3 := hide K3
  have JB := hide KB
  have x0 := K0.cell (m := 0) rfl
  have x1 := K0.cell (m := 1) rfl
  have y0 := K1.cell (m := 0) rfl
  have y1 := K1.cell (m := 1) rfl
  have z0 := K2.cell (m := 0) rfl
  have z1 := K2.cell (m := 1) rfl
  have o0 := K3.cell (m := 0) rfl
  have o1 := K3.cell (m := 1) rfl
  have o2 := K3.cell (m := 2) rfl
  have o3 := K3.cell (m := 3) rfl
  have o4 := K3.cell (m := 4) rfl
  have o5 := K3.cell (m := 5) rfl
  have o6 := K3.cell (m := 6) rfl
  have o7 := K3.cell (m := 7) rfl
  have f8 := K3.frozen
  clear K0 K1 K2 K3 KB
  go_wp2_with fail
  refine (unhide H2 _).mono ?_
  rintro e W1 ⟨rfl, hb1⟩
  obtain ⟨K0, K1, K2, K3, KB⟩ := kp _ hb1 (unhide J0) (unhide J1) (unhide J2) (unhide J3) (unhide JB)
  clear J0 J1 J2 J3 JB hb1
  have J0 := hide K0
  have J1 := hide K1
  have J2 := hide K2
  have J3 := hide K3
  have JB := hide KB
  have x0 := K0.cell (m := 0) rfl
  have x1 := K0.cell (m := 1) rfl
  have y0 := K1.cell (m := 0) rfl
  have y1 := K1.cell (m := 1) rfl
  have z0 := K2.cell (m := 0) rfl
  have z1 := K2.cell (m := 1) rfl
  have o0 := K3.cell (m := 0) rfl
  have o1 := K3.cell (m := 1) rfl
  have o2 := K3.cell (m := 2) rfl
  have o3 := K3.cell (m := 3) rfl
  have o4 := K3.cell (m := 4) rfl
  have o5 := K3.cell (m := 5) rfl
  have o6 := K3.cell (m := 6) rfl
  have o7 := K3.cell (m := 7) rfl
  have f8 := K3.frozen
  clear K0 K1 K2 K3 KB
  go_wp2_with fail
  have V := ((((((((unhide J3).set 0 0).set 1 0).set 2 0).set 3 0).set 4 0).set 5 0).set 6 0).set 7 0
  have h2n : w.heap.size ≤ w.heap.size + 1 + 1 + 1 := by omega
  have hBV : Below w.heap.size w ((((((((W1.setCell ⟨w.heap.size + 1 + 1 + 1, 0, none⟩ (.int .i64 0)).setCell ⟨w.heap.size + 1 + 1 + 1, 1, none⟩ (.int .i64 0)).setCell ⟨w.heap.size + 1 + 1 + 1, 2, none⟩ (.int .i64 0)).setCell ⟨w.heap.size + 1 + 1 + 1, 3, none⟩ (.int .i64 0)).setCell ⟨w.heap.size + 1 + 1 + 1, 4, none⟩ (.int .i64 0)).setCell ⟨w.heap.size + 1 + 1 + 1, 5, none⟩ (.int .i64 0)).setCell ⟨w.heap.size + 1 + 1 + 1, 6, none⟩ (.int .i64 0)).setCell ⟨w.heap.size + 1 + 1 + 1, 7, none⟩ (.int .i64 0)) :=
    Below.setCell (Below.setCell (Below.setCell (Below.setCell (Below.setCell (Below.setCell (Below.setCell (Below.setCell (unhide JB) h2n _) h2n _) h2n _) h2n _) h2n _) h2n _) h2n _) h2n _
  have s0 := V.cell (m := 0) rfl
  have s1 := V.cell (m := 1) rfl
  have s2 := V.cell (m := 2) rfl
  have s3 := V.cell (m := 3) rfl
  have s4 := V.cell (m := 4) rfl
  have s5 := V.cell (m := 5) rfl
  have s6 := V.cell (m := 6) rfl
  have s7 := V.cell (m := 7) rfl
  generalize ((((((((W1.setCell ⟨w.heap.size + 1 + 1 + 1, 0, none⟩ (.int .i64 0)).setCell ⟨w.heap.size + 1 + 1 + 1, 1, none⟩ (.int .i64 0)).setCell ⟨w.heap.size + 1 + 1 + 1, 2, none⟩ (.int .i64 0)).setCell ⟨w.heap.size + 1 + 1 + 1, 3, none⟩ (.int .i64 0)).setCell ⟨w.heap.size + 1 + 1 + 1, 4, none⟩ (.int .i64 0)).setCell ⟨w.heap.size + 1 + 1 + 1, 5, none⟩ (.int .i64 0)).setCell ⟨w.heap.size + 1 + 1 + 1, 6, none⟩ (.int .i64 0)).setCell ⟨w.heap.size + 1 + 1 + 1, 7, none⟩ (.int .i64 0)) = W9 at *
  refine bodyPost_ret (v := .tuple #[.agg #[.int .i64 0, .int .i64 0, .int .i64 0, .int .i64 0, .int .i64 0, .int .i64 0, .int .i64 0, .int .i64 0], .bool false]) (by simp [results, Try.results45, go_sem, s0, s1, s2, s3, s4, s5, s6, s7]) rfl ⟨rfl, ?_⟩
  exact hBV
set_option maxHeartbeats 4000000 in
set_option maxRecDepth 100000 in
theorem triM_o3 (a1 a2 b1 b2 d1 d2 S : Int) (w : World) (hS : IntKind.i64.wrap (2 * S) = 2 * S) (HS : Hid (∀ W : World, Calls Try.prog 31 #[.agg #[.int .i64 a1, .int .i64 a2], .agg #[.int .i64 b1, .int .i64 b2], .agg #[.int .i64 d1, .int .i64 d2]] W fun e w' => e = .returned (.int .i64 S) ∧ Below W.heap.size W w'))
    (h0 : ¬ 2 * S = 0)
    (H1 : Hid (∀ W : World, Calls Try.prog 71 #[.agg #[.int .i64 a1, .int .i64 a2], .agg #[.int .i64 b1, .int .i64 b2], .agg #[.int .i64 d1, .int .i64 d2]] W fun e w' => e = .returned (.bool true) ∧ Below W.heap.size W w'))
    (H2 : Hid (∀ W : World, Calls Try.prog 71 #[.agg #[.int .i64 b1, .int .i64 b2], .agg #[.int .i64 d1, .int .i64 d2], .agg #[.int .i64 a1, .int .i64 a2]] W fun e w' => e = .returned (.bool true) ∧ Below W.heap.size W w'))
    (H3 : Hid (∀ W : World, Calls Try.prog 71 #[.agg #[.int .i64 d1, .int .i64 d2], .agg #[.int .i64 a1, .int .i64 a2], .agg #[.int .i64 b1, .int .i64 b2]] W fun e w' => e = .returned (.bool false) ∧ Below W.heap.size W w')) :
    Calls Try.prog 45 #[.agg #[.int .i64 a1, .int .i64 a2], .agg #[.int .i64 b1, .int .i64 b2], .agg #[.int .i64 d1, .int .i64 d2]] w fun e w' => e = .returned (.tuple #[.agg #[.int .i64 0, .int .i64 0, .int .i64 0, .int .i64 0, .int .i64 0, .int .i64 0, .int .i64 0, .int .i64 0], .bool false]) ∧ Below w.heap.size w w' := by
  have JB : Hid (Below w.heap.size w ((((w.alloc (.cells #[.int .i64 a1, .int .i64 a2] 30)).alloc (.cells #[.int .i64 b1, .int .i64 b2] 30)).alloc (.cells #[.int .i64 d1, .int .i64 d2] 30)).alloc (.cells #[.int .i64 0, .int .i64 0, .int .i64 0, .int .i64 0, .int .i64 0, .int .i64 0, .int .i64 0, .int .i64 0] 34))) := hide (ba (ba (ba (ba (Below.refl _ _) _) _) _) _)
  have J0 : Hid (iblk ((((w.alloc (.cells #[.int .i64 a1, .int .i64 a2] 30)).alloc (.cells #[.int .i64 b1, .int .i64 b2] 30)).alloc (.cells #[.int .i64 d1, .int .i64 d2] 30)).alloc (.cells #[.int .i64 0, .int .i64 0, .int .i64 0, .int .i64 0, .int .i64 0, .int .i64 0, .int .i64 0, .int .i64 0] 34)) w.heap.size 30 [a1, a2]) := hide ((iblk_new w 30 [a1, a2]).bel (ba (ba (ba (Below.refl _ _) _) _) _))
  have J1 : Hid (iblk ((((w.alloc (.cells #[.int .i64 a1, .int .i64 a2] 30)).alloc (.cells #[.int .i64 b1, .int .i64 b2] 30)).alloc (.cells #[.int .i64 d1, .int .i64 d2] 30)).alloc (.cells #[.int .i64 0, .int .i64 0, .int .i64 0, .int .i64 0, .int .i64 0, .int .i64 0, .int .i64 0, .int .i64 0] 34)) (w.heap.size + 1) 30 [b1, b2]) := hide (by
    have h := (iblk_new (w.alloc (.cells #[.int .i64 a1, .int .i64 a2] 30)) 30 [b1, b2]).bel (ba (ba (Below.refl _ _) (.cells #[.int .i64 d1, .int .i64 d2] 30)) (.cells #[.int .i64 0, .int .i64 0, .int .i64 0, .int .i64 0, .int .i64 0, .int .i64 0, .int .i64 0, .int .i64 0] 34))
    have e : (w.alloc (.cells #[.int .i64 a1, .int .i64 a2] 30)).heap.size = w.heap.size + 1 := by simp
    rw [e] at h
    exact h)
  have J2 : Hid (iblk ((((w.alloc (.cells #[.int .i64 a1, .int .i64 a2] 30)).alloc (.cells #[.int .i64 b1, .int .i64 b2] 30)).alloc (.cells #[.int .i64 d1, .int .i64 d2] 30)).alloc (.cells #[.int .i64 0, .int .i64 0, .int .i64 0, .int .i64 0, .int .i64 0, .int .i64 0, .int .i64 0, .int .i64 0] 34)) (w.heap.size + 1 + 1) 30 [d1, d2]) := hide (by
    have h := (iblk_new ((w.alloc (.cells #[.int .i64 a1, .int .i64 a2] 30)).alloc (.cells #[.int .i64 b1, .int .i64 b2] 30)) 30 [d1, d2]).bel (ba (Below.refl _ _) (.cells #[.int .i64 0, .int .i64 0, .int .i64 0, .int .i64 0, .int .i64 0, .int .i64 0, .int .i64 0, .int .i64 0] 34))
    have e : ((w.alloc (.cells #[.int .i64 a1, .int .i64 a2] 30)).alloc (.cells #[.int .i64 b1, .int .i64 b2] 30)).heap.size = w.heap.size + 1 + 1 := by simp
    rw [e] at h
    exact h)
  have J3 : Hid (iblk ((((w.alloc (.cells #[.int .i64 a1, .int .i64 a2] 30)).alloc (.cells #[.int .i64 b1, .int .i64 b2] 30)).alloc (.cells #[.int .i64 d1, .int .i64 d2] 30)).alloc (.cells #[.int .i64 0, .int .i64 0, .int .i64 0, .int .i64 0, .int .i64 0, .int .i64 0, .int .i64 0, .int .i64 0] 34)) (w.heap.size + 1 + 1 + 1) 34 [0, 0, 0, 0, 0, 0, 0, 0]) := hide (by
    have h := iblk_new (((w.alloc (.cells #[.int .i64 a1, .int .i64 a2] 30)).alloc (.cells #[.int .i64 b1, .int .i64 b2] 30)).alloc (.cells #[.int .i64 d1, .int .i64 d2] 30)) 34 [0, 0, 0, 0, 0, 0, 0, 0]
    have e : (((w.alloc (.cells #[.int .i64 a1, .int .i64 a2] 30)).alloc (.cells #[.int .i64 b1, .int .i64 b2] 30)).alloc (.cells #[.int .i64 d1, .int .i64 d2] 30)).heap.size = w.heap.size + 1 + 1 + 1 := by simp
    rw [e] at h
    exact h)
  have kp : ∀ {X : World} (V : World), Below X.heap.size X V → iblk X w.heap.size 30 [a1, a2] → iblk X (w.heap.size + 1) 30 [b1, b2] → iblk X (w.heap.size + 1 + 1) 30 [d1, d2] → iblk X (w.heap.size + 1 + 1 + 1) 34 [0, 0, 0, 0, 0, 0, 0, 0] → Below w.heap.size w X → iblk V w.heap.size 30 [a1, a2] ∧ iblk V (w.heap.size + 1) 30 [b1, b2] ∧ iblk V (w.heap.size + 1 + 1) 30 [d1, d2] ∧ iblk V (w.heap.size + 1 + 1 + 1) 34 [0, 0, 0, 0, 0, 0, 0, 0] ∧ Below w.heap.size w V :=
    fun V h h0 h1 h2 h3 h4 => ⟨h0.bel h, h1.bel h, h2.bel h, h3.bel h, bc h4 h⟩
  go_enter Try.func45, Try.ntmps45
  go_wp2_with fail
  generalize ((((w.alloc (.cells #[.int .i64 a1, .int .i64 a2] 30)).alloc (.cells #[.int .i64 b1, .int .i64 b2] 30)).alloc (.cells #[.int .i64 d1, .int .i64 d2] 30)).alloc (.cells #[.int .i64 0, .int .i64 0, .int .i64 0, .int .i64 0, .int .i64 0, .int .i64 0, .int .i64 0, .int .i64 0] 34)) = W0 at *
  have e0 : ((2 * S == 0) : Bool) = false := by simp [h0]
  have e1 : decide (2 * S = 0) = false := decide_eq_false h0
  refine (unhide HS _).mono ?_
  rintro e W1 ⟨rfl, hb1⟩
  obtain ⟨K0, K1, K2, K3, KB⟩ := kp _ hb1 (unhide J0) (unhide J1) (unhide J2) (unhide J3) (unhide JB)
  clear J0 J1 J2 J3 JB hb1
  have J0 := hide K0
  have J1 := hide K1
  have J2 := hide K2
  have J3 := hide K3
  have JB := hide KB
  have x0 := K0.cell (m := 0) rfl
  have x1 := K0.cell (m := 1) rfl
  have y0 := K1.cell (m := 0) rfl
  have y1 := K1.cell (m := 1) rfl
  have z0 := K2.cell (m := 0) rfl
  have z1 := K2.cell (m := 1) rfl
  have o0 := K3.cell (m := 0) rfl
  have o1 := K3.cell (m := 1) rfl
  have o2 := K3.cell (m := 2) rfl
  have o3 := K3.cell (m := 3) rfl
  have o4 := K3.cell (m := 4) rfl
  have o5 := K3.cell (m := 5) rfl
  have o6 := K3.cell (m := 6) rfl
  have o7 := K3.cell (m := 7) rfl
  have f8 := K3.frozen
  clear K0 K1 K2 K3 KB
  go_wp2_with fail
  refine (unhide H1 _).mono ?_
  rintro e W1 ⟨rfl, hb1⟩
  obtain ⟨K0, K1, K2, K3, KB⟩ := kp _ hb1 (unhide J0) (unhide J1) (unhide J2) (unhide J3) (unhide JB)
  clear J0 J1 J2 J3 JB hb1
  have J0 := hide K0
  have J1 := hide K1
  have J2 := hide K2
  have J3 := hide K3
  have JB := hide KB
  have x0 := K0.cell (m := 0) rfl
  have x1 := K0.cell (m := 1) rfl
  have y0 := K1.cell (m := 0) rfl
  have y1 := K1.cell (m := 1) rfl
  have z0 := K2.cell (m := 0) rfl
  have z1 := K2.cell (m := 1) rfl
  have o0 := K3.cell (m := 0) rfl
  have o1 := K3.cell (m := 1) rfl
  have o2 := K3.cell (m := 2) rfl
  have o3 := K3.cell (m := 3) rfl
  have o4 := K3.cell (m := 4) rfl
  have o5 := K3.cell (m := 5) rfl
  have o6 := K3.cell (m := 6) rfl
  have o7 := K3.cell (m := 7) rfl
  have f8 := K3.frozen
  clear K0 K1 K2 K3 KB
  go_wp2_with fail
  refine (unhide H2 _).mono ?_
  rintro e W1 ⟨rfl, hb1⟩
  obtain ⟨K0, K1, K2, K3, KB⟩ := kp _ hb1 (unhide J0) (unhide J1) (unhide J2) (unhide J3) (unhide JB)
  clear J0 J1 J2 J3 JB hb1
  have J0 := hide K0
  have J1 := hide K1
  have J2 := hide K2
  have J3 := hide K3
  have JB := hide KB
  have x0 := K0.cell (m := 0) rfl
  have x1 := K0.cell (m := 1) rfl
  have y0 := K1.cell (m := 0) rfl
  have y1 := K1.cell (m := 1) rfl
  have z0 := K2.cell (m := 0) rfl
  have z1 := K2.cell (m := 1) rfl
  have o0 := K3.cell (m := 0) rfl
  have o1 := K3.cell (m := 1) rfl
  have o2 := K3.cell (m := 2) rfl
  have o3 := K3.cell (m := 3) rfl
  have o4 := K3.cell (m := 4) rfl
  have o5 := K3.cell (m := 5) rfl
  have o6 := K3.cell (m := 6) rfl
  have o7 := K3.cell (m := 7) rfl
  have f8 := K3.frozen
  clear K0 K1 K2 K3 KB
  go_wp2_with fail
  refine (unhide H3 _).mono ?_
  rintro e W1 ⟨rfl, hb1⟩
  obtain ⟨K0, K1, K2, K3, KB⟩ := kp _ hb1 (unhide J0) (unhide J1) (unhide J2) (unhide J3) (unhide JB)
  clear J0 J1 J2 J3 JB hb1
  have J0 := hide K0
  have J1 := hide K1
  have J2 := hide K2
  have J3 := hide K3
  have JB := hide KB
  have x0 := K0.cell (m := 0) rfl
  have x1 := K0.cell (m := 1) rfl
  have y0 := K1.cell (m := 0) rfl
  have y1 := K1.cell (m := 1) rfl
  have z0 := K2.cell (m := 0) rfl
  have z1 := K2.cell (m := 1) rfl
  have o0 := K3.cell (m := 0) rfl
  have o1 := K3.cell (m := 1) rfl
  have o2 := K3.cell (m := 2) rfl
  have o3 := K3.cell (m := 3) rfl
  have o4 := K3.cell (m := 4) rfl
  have o5 := K3.cell (m := 5) rfl
  have o6 := K3.cell (m := 6) rfl
  have o7 := K3.cell (m := 7) rfl
  have f8 := K3.frozen
  clear K0 K1 K2 K3 KB
  go_wp2_with fail
  have V := ((((((((unhide J3).set 0 0).set 1 0).set 2 0).set 3 0).set 4 0).set 5 0).set 6 0).set 7 0
  have h2n : w.heap.size ≤ w.heap.size + 1 + 1 + 1 := by omega
  have hBV : Below w.heap.size w ((((((((W1.setCell ⟨w.heap.size + 1 + 1 + 1, 0, none⟩ (.int .i64 0)).setCell ⟨w.heap.size + 1 + 1 + 1, 1, none⟩ (.int .i64 0)).setCell ⟨w.heap.size + 1 + 1 + 1, 2, none⟩ (.int .i64 0)).setCell ⟨w.heap.size + 1 + 1 + 1, 3, none⟩ (.int .i64 0)).setCell ⟨w.heap.size + 1 + 1 + 1, 4, none⟩ (.int .i64 0)).setCell ⟨w.heap.size + 1 + 1 + 1, 5, none⟩ (.int .i64 0)).setCell ⟨w.heap.size + 1 + 1 + 1, 6, none⟩ (.int .i64 0)).setCell ⟨w.heap.size + 1 + 1 + 1, 7, none⟩ (.int .i64 0)) :=
    Below.setCell (Below.setCell (Below.setCell (Below.setCell (Below.setCell (Below.setCell (Below.setCell (Below.setCell (unhide JB) h2n _) h2n _) h2n _) h2n _) h2n _) h2n _) h2n _) h2n _
  have s0 := V.cell (m := 0) rfl
  have s1 := V.cell (m := 1) rfl
  have s2 := V.cell (m := 2) rfl
  have s3 := V.cell (m := 3) rfl
  have s4 := V.cell (m := 4) rfl
  have s5 := V.cell (m := 5) rfl
  have s6 := V.cell (m := 6) rfl
  have s7 := V.cell (m := 7) rfl
  generalize ((((((((W1.setCell ⟨w.heap.size + 1 + 1 + 1, 0, none⟩ (.int .i64 0)).setCell ⟨w.heap.size + 1 + 1 + 1, 1, none⟩ (.int .i64 0)).setCell ⟨w.heap.size + 1 + 1 + 1, 2, none⟩ (.int .i64 0)).setCell ⟨w.heap.size + 1 + 1 + 1, 3, none⟩ (.int .i64 0)).setCell ⟨w.heap.size + 1 + 1 + 1, 4, none⟩ (.int .i64 0)).setCell ⟨w.heap.size + 1 + 1 + 1, 5, none⟩ (.int .i64 0)).setCell ⟨w.heap.size + 1 + 1 + 1, 6, none⟩ (.int .i64 0)).setCell ⟨w.heap.size + 1 + 1 + 1, 7, none⟩ (.int .i64 0)) = W9 at *
  refine bodyPost_ret (v := .tuple #[.agg #[.int .i64 0, .int .i64 0, .int .i64 0, .int .i64 0, .int .i64 0, .int .i64 0, .int .i64 0, .int .i64 0], .bool false]) (by simp [results, Try.results45, go_sem, s0, s1, s2, s3, s4, s5, s6, s7]) rfl ⟨rfl, ?_⟩
  exact hBV
set_option maxHeartbeats 4000000 in
set_option maxRecDepth 100000 in
theorem triM_ok (a1 a2 b1 b2 d1 d2 S : Int) (w : World) (hS : IntKind.i64.wrap (2 * S) = 2 * S) (HS : Hid (∀ W : World, Calls Try.prog 31 #[.agg #[.int .i64 a1, .int .i64 a2], .agg #[.int .i64 b1, .int .i64 b2], .agg #[.int .i64 d1, .int .i64 d2]] W fun e w' => e = .returned (.int .i64 S) ∧ Below W.heap.size W w'))
    (h0 : ¬ 2 * S = 0)
    (H1 : Hid (∀ W : World, Calls Try.prog 71 #[.agg #[.int .i64 a1, .int .i64 a2], .agg #[.int .i64 b1, .int .i64 b2], .agg #[.int .i64 d1, .int .i64 d2]] W fun e w' => e = .returned (.bool true) ∧ Below W.heap.size W w'))
    (H2 : Hid (∀ W : World, Calls Try.prog 71 #[.agg #[.int .i64 b1, .int .i64 b2], .agg #[.int .i64 d1, .int .i64 d2], .agg #[.int .i64 a1, .int .i64 a2]] W fun e w' => e = .returned (.bool true) ∧ Below W.heap.size W w'))
    (H3 : Hid (∀ W : World, Calls Try.prog 71 #[.agg #[.int .i64 d1, .int .i64 d2], .agg #[.int .i64 a1, .int .i64 a2], .agg #[.int .i64 b1, .int .i64 b2]] W fun e w' => e = .returned (.bool true) ∧ Below W.heap.size W w'))
    (xa xb xd X Y Dd n : Int)
    (k0 : IntKind.i64.wrap (a1 * a1) = a1 * a1) (k1 : IntKind.i64.wrap (a2 * a2) = a2 * a2) (k2 : IntKind.i64.wrap (a1 * a1 + a2 * a2) = xa) (k3 : IntKind.i64.wrap (b1 * b1) = b1 * b1) (k4 : IntKind.i64.wrap (b2 * b2) = b2 * b2) (k5 : IntKind.i64.wrap (b1 * b1 + b2 * b2) = xb) (k6 : IntKind.i64.wrap (d1 * d1) = d1 * d1) (k7 : IntKind.i64.wrap (d2 * d2) = d2 * d2) (k8 : IntKind.i64.wrap (d1 * d1 + d2 * d2) = xd) (k9 : IntKind.i64.wrap (b2 - d2) = b2 - d2) (k10 : IntKind.i64.wrap (d2 - a2) = d2 - a2) (k11 : IntKind.i64.wrap (a2 - b2) = a2 - b2) (k12 : IntKind.i64.wrap (d1 - b1) = d1 - b1) (k13 : IntKind.i64.wrap (a1 - d1) = a1 - d1) (k14 : IntKind.i64.wrap (b1 - a1) = b1 - a1) (k15 : IntKind.i64.wrap (xa * (b2 - d2)) = xa * (b2 - d2)) (k16 : IntKind.i64.wrap (xb * (d2 - a2)) = xb * (d2 - a2)) (k17 : IntKind.i64.wrap (xd * (a2 - b2)) = xd * (a2 - b2)) (k18 : IntKind.i64.wrap (xa * (b2 - d2) + xb * (d2 - a2)) = xa * (b2 - d2) + xb * (d2 - a2)) (k19 : IntKind.i64.wrap (xa * (b2 - d2) + xb * (d2 - a2) + xd * (a2 - b2)) = xa * (b2 - d2) + xb * (d2 - a2) + xd * (a2 - b2)) (k20 : IntKind.i64.wrap (xa * (d1 - b1)) = xa * (d1 - b1)) (k21 : IntKind.i64.wrap (xb * (a1 - d1)) = xb * (a1 - d1)) (k22 : IntKind.i64.wrap (xd * (b1 - a1)) = xd * (b1 - a1)) (k23 : IntKind.i64.wrap (xa * (d1 - b1) + xb * (a1 - d1)) = xa * (d1 - b1) + xb * (a1 - d1)) (k24 : IntKind.i64.wrap (xa * (d1 - b1) + xb * (a1 - d1) + xd * (b1 - a1)) = xa * (d1 - b1) + xb * (a1 - d1) + xd * (b1 - a1))
    (H4 : Hid (∀ W : World, Calls Try.prog 42 #[.int .i64 (xa * (b2 - d2) + xb * (d2 - a2) + xd * (a2 - b2)), .int .i64 (xa * (d1 - b1) + xb * (a1 - d1) + xd * (b1 - a1)), .int .i64 (2 * S), .agg #[.int .i64 a1, .int .i64 a2]] W fun e w' => e = .returned (.agg #[.int .i64 0, .int .i64 0, .int .i64 0, .int .i64 0, .int .i64 X, .int .i64 Y, .int .i64 Dd, .int .i64 n]) ∧ Below W.heap.size W w')) :
    Calls Try.prog 45 #[.agg #[.int .i64 a1, .int .i64 a2], .agg #[.int .i64 b1, .int .i64 b2], .agg #[.int .i64 d1, .int .i64 d2]] w fun e w' => e = .returned (.tuple #[.agg #[.int .i64 0, .int .i64 0, .int .i64 0, .int .i64 0, .int .i64 X, .int .i64 Y, .int .i64 Dd, .int .i64 n], .bool true]) ∧ Below w.heap.size w w' := by
  have JB : Hid (Below w.heap.size w ((((w.alloc (.cells #[.int .i64 a1, .int .i64 a2] 30)).alloc (.cells #[.int .i64 b1, .int .i64 b2] 30)).alloc (.cells #[.int .i64 d1, .int .i64 d2] 30)).alloc (.cells #[.int .i64 0, .int .i64 0, .int .i64 0, .int .i64 0, .int .i64 0, .int .i64 0, .int .i64 0, .int .i64 0] 34))) := hide (ba (ba (ba (ba (Below.refl _ _) _) _) _) _)
  have J0 : Hid (iblk ((((w.alloc (.cells #[.int .i64 a1, .int .i64 a2] 30)).alloc (.cells #[.int .i64 b1, .int .i64 b2] 30)).alloc (.cells #[.int .i64 d1, .int .i64 d2] 30)).alloc (.cells #[.int .i64 0, .int .i64 0, .int .i64 0, .int .i64 0, .int .i64 0, .int .i64 0, .int .i64 0, .int .i64 0] 34)) w.heap.size 30 [a1, a2]) := hide ((iblk_new w 30 [a1, a2]).bel (ba (ba (ba (Below.refl _ _) _) _) _))
  have J1 : Hid (iblk ((((w.alloc (.cells #[.int .i64 a1, .int .i64 a2] 30)).alloc (.cells #[.int .i64 b1, .int .i64 b2] 30)).alloc (.cells #[.int .i64 d1, .int .i64 d2] 30)).alloc (.cells #[.int .i64 0, .int .i64 0, .int .i64 0, .int .i64 0, .int .i64 0, .int .i64 0, .int .i64 0, .int .i64 0] 34)) (w.heap.size + 1) 30 [b1, b2]) := hide (by
    have h := (iblk_new (w.alloc (.cells #[.int .i64 a1, .int .i64 a2] 30)) 30 [b1, b2]).bel (ba (ba (Below.refl _ _) (.cells #[.int .i64 d1, .int .i64 d2] 30)) (.cells #[.int .i64 0, .int .i64 0, .int .i64 0, .int .i64 0, .int .i64 0, .int .i64 0, .int .i64 0, .int .i64 0] 34))
    have e : (w.alloc (.cells #[.int .i64 a1, .int .i64 a2] 30)).heap.size = w.heap.size + 1 := by simp
    rw [e] at h
    exact h)
  have J2 : Hid (iblk ((((w.alloc (.cells #[.int .i64 a1, .int .i64 a2] 30)).alloc (.cells #[.int .i64 b1, .int .i64 b2] 30)).alloc (.cells #[.int .i64 d1, .int .i64 d2] 30)).alloc (.cells #[.int .i64 0, .int .i64 0, .int .i64 0, .int .i64 0, .int .i64 0, .int .i64 0, .int .i64 0, .int .i64 0] 34)) (w.heap.size + 1 + 1) 30 [d1, d2]) := hide (by
    have h := (iblk_new ((w.alloc (.cells #[.int .i64 a1, .int .i64 a2] 30)).alloc (.cells #[.int .i64 b1, .int .i64 b2] 30)) 30 [d1, d2]).bel (ba (Below.refl _ _) (.cells #[.int .i64 0, .int .i64 0, .int .i64 0, .int .i64 0, .int .i64 0, .int .i64 0, .int .i64 0, .int .i64 0] 34))
    have e : ((w.alloc (.cells #[.int .i64 a1, .int .i64 a2] 30)).alloc (.cells #[.int .i64 b1, .int .i64 b2] 30)).heap.size = w.heap.size + 1 + 1 := by simp
    rw [e] at h
    exact h)
  have J3 : Hid (iblk ((((w.alloc (.cells #[.int .i64 a1, .int .i64 a2] 30)).alloc (.cells #[.int .i64 b1, .int .i64 b2] 30)).alloc (.cells #[.int .i64 d1, .int .i64 d2] 30)).alloc (.cells #[.int .i64 0, .int .i64 0, .int .i64 0, .int .i64 0, .int .i64 0, .int .i64 0, .int .i64 0, .int .i64 0] 34)) (w.heap.size + 1 + 1 + 1) 34 [0, 0, 0, 0, 0, 0, 0, 0]) := hide (by
    have h := iblk_new (((w.alloc (.cells #[.int .i64 a1, .int .i64 a2] 30)).alloc (.cells #[.int .i64 b1, .int .i64 b2] 30)).alloc (.cells #[.int .i64 d1, .int .i64 d2] 30)) 34 [0, 0, 0, 0, 0, 0, 0, 0]
    have e : (((w.alloc (.cells #[.int .i64 a1, .int .i64 a2] 30)).alloc (.cells #[.int .i64 b1, .int .i64 b2] 30)).alloc (.cells #[.int .i64 d1, .int .i64 d2] 30)).heap.size = w.heap.size + 1 + 1 + 1 := by simp
    rw [e] at h
    exact h)
  have kp : ∀ {X : World} (V : World), Below X.heap.size X V → iblk X w.heap.size 30 [a1, a2] → iblk X (w.heap.size + 1) 30 [b1, b2] → iblk X (w.heap.size + 1 + 1) 30 [d1, d2] → iblk X (w.heap.size + 1 + 1 + 1) 34 [0, 0, 0, 0, 0, 0, 0, 0] → Below w.heap.size w X → iblk V w.heap.size 30 [a1, a2] ∧ iblk V (w.heap.size + 1) 30 [b1, b2] ∧ iblk V (w.heap.size + 1 + 1) 30 [d1, d2] ∧ iblk V (w.heap.size + 1 + 1 + 1) 34 [0, 0, 0, 0, 0, 0, 0, 0] ∧ Below w.heap.size w V :=
    fun V h h0 h1 h2 h3 h4 => ⟨h0.bel h, h1.bel h, h2.bel h, h3.bel h, bc h4 h⟩
  go_enter Try.func45, Try.ntmps45
  go_wp2_with fail
  generalize ((((w.alloc (.cells #[.int .i64 a1, .int .i64 a2] 30)).alloc (.cells #[.int .i64 b1, .int .i64 b2] 30)).alloc (.cells #[.int .i64 d1, .int .i64 d2] 30)).alloc (.cells #[.int .i64 0, .int .i64 0, .int .i64 0, .int .i64 0, .int .i64 0, .int .i64 0, .int .i64 0, .int .i64 0] 34)) = W0 at *
  have e0 : ((2 * S == 0) : Bool) = false := by simp [h0]
  have e1 : decide (2 * S = 0) = false := decide_eq_false h0
  refine (unhide HS _).mono ?_
  rintro e W1 ⟨rfl, hb1⟩
  obtain ⟨K0, K1, K2, K3, KB⟩ := kp _ hb1 (unhide J0) (unhide J1) (unhide J2) (unhide J3) (unhide JB)
  clear J0 J1 J2 J3 JB hb1
  have J0 := hide K0
  have J1 := hide K1
  have J2 := hide K2
  have J3 := hide K3
  have JB := hide KB
  have x0 := K0.cell (m := 0) rfl
  have x1 := K0.cell (m := 1) rfl
  have y0 := K1.cell (m := 0) rfl
  have y1 := K1.cell (m := 1) rfl
  have z0 := K2.cell (m := 0) rfl
  have z1 := K2.cell (m := 1) rfl
  have o0 := K3.cell (m := 0) rfl
  have o1 := K3.cell (m := 1) rfl
  have o2 := K3.cell (m := 2) rfl
  have o3 := K3.cell (m := 3) rfl
  have o4 := K3.cell (m := 4) rfl
  have o5 := K3.cell (m := 5) rfl
  have o6 := K3.cell (m := 6) rfl
  have o7 := K3.cell (m := 7) rfl
  have f8 := K3.frozen
  clear K0 K1 K2 K3 KB
  go_wp2_with fail
  refine (unhide H1 _).mono ?_
  rintro e W1 ⟨rfl, hb1⟩
  obtain ⟨K0, K1, K2, K3, KB⟩ := kp _ hb1 (unhide J0) (unhide J1) (unhide J2) (unhide J3) (unhide JB)
  clear J0 J1 J2 J3 JB hb1
  have J0 := hide K0
  have J1 := hide K1
  have J2 := hide K2
  have J3 := hide K3
  have JB := hide KB
  have x0 := K0.cell (m := 0) rfl
  have x1 := K0.cell (m := 1) rfl
  have y0 := K1.cell (m := 0) rfl
  have y1 := K1.cell (m := 1) rfl
  have z0 := K2.cell (m := 0) rfl
  have z1 := K2.cell (m := 1) rfl
  have o0 := K3.cell (m := 0) rfl
  have o1 := K3.cell (m := 1) rfl
  have o2 := K3.cell (m := 2) rfl
  have o3 := K3.cell (m := 3) rfl
  have o4 := K3.cell (m := 4) rfl
  have o5 := K3.cell (m := 5) rfl
  have o6 := K3.cell (m := 6) rfl
  have o7 := K3.cell (m := 7) rfl
  have f8 := K3.frozen
  clear K0 K1 K2 K3 KB
  go_wp2_with fail
  refine (unhide H2 _).mono ?_
  rintro e W1 ⟨rfl, hb1⟩
  obtain ⟨K0, K1, K2, K3, KB⟩ := kp _ hb1 (unhide J0) (unhide J1) (unhide J2) (unhide J3) (unhide JB)
  clear J0 J1 J2 J3 JB hb1
  have J0 := hide K0
  have J1 := hide K1
  have J2 := hide K2
  have J3 := hide K3
  have JB := hide KB
  have x0 := K0.cell (m := 0) rfl
  have x1 := K0.cell (m := 1) rfl
  have y0 := K1.cell (m := 0) rfl
  have y1 := K1.cell (m := 1) rfl
  have z0 := K2.cell (m := 0) rfl
  have z1 := K2.cell (m := 1) rfl
  have o0 := K3.cell (m := 0) rfl
  have o1 := K3.cell (m := 1) rfl
  have o2 := K3.cell (m := 2) rfl
  have o3 := K3.cell (m := 3) rfl
  have o4 := K3.cell (m := 4) rfl
  have o5 := K3.cell (m := 5) rfl
  have o6 := K3.cell (m := 6) rfl
  have o7 := K3.cell (m := 7) rfl
  have f8 := K3.frozen
  clear K0 K1 K2 K3 KB
  go_wp2_with fail
  refine (unhide H3 _).mono ?_
  rintro e W1 ⟨rfl, hb1⟩
  obtain ⟨K0, K1, K2, K3, KB⟩ := kp _ hb1 (unhide J0) (unhide J1) (unhide J2) (unhide J3) (unhide JB)
  clear J0 J1 J2 J3 JB hb1
  have J0 := hide K0
  have J1 := hide K1
  have J2 := hide K2
  have J3 := hide K3
  have JB := hide KB
  have x0 := K0.cell (m := 0) rfl
  have x1 := K0.cell (m := 1) rfl
  have y0 := K1.cell (m := 0) rfl
  have y1 := K1.cell (m := 1) rfl
  have z0 := K2.cell (m := 0) rfl
  have z1 := K2.cell (m := 1) rfl
  have o0 := K3.cell (m := 0) rfl
  have o1 := K3.cell (m := 1) rfl
  have o2 := K3.cell (m := 2) rfl
  have o3 := K3.cell (m := 3) rfl
  have o4 := K3.cell (m := 4) rfl
  have o5 := K3.cell (m := 5) rfl
  have o6 := K3.cell (m := 6) rfl
  have o7 := K3.cell (m := 7) rfl
  have f8 := K3.frozen
  clear K0 K1 K2 K3 KB
  go_wp2_with fail
  refine (unhide H4 _).mono ?_
  rintro e W1 ⟨rfl, hb1⟩
  obtain ⟨K0, K1, K2, K3, KB⟩ := kp _ hb1 (unhide J0) (unhide J1) (unhide J2) (unhide J3) (unhide JB)
  clear J0 J1 J2 J3 JB hb1
  have J0 := hide K0
  have J1 := hide K1
  have J2 := hide K2
  have J3 := hide K3
  have JB := hide KB
  have x0 := K0.cell (m := 0) rfl
  have x1 := K0.cell (m := 1) rfl
  have y0 := K1.cell (m := 0) rfl
  have y1 := K1.cell (m := 1) rfl
  have z0 := K2.cell (m := 0) rfl
  have z1 := K2.cell (m := 1) rfl
  have o0 := K3.cell (m := 0) rfl
  have o1 := K3.cell (m := 1) rfl
  have o2 := K3.cell (m := 2) rfl
  have o3 := K3.cell (m := 3) rfl
  have o4 := K3.cell (m := 4) rfl
  have o5 := K3.cell (m := 5) rfl
  have o6 := K3.cell (m := 6) rfl
  have o7 := K3.cell (m := 7) rfl
  have f8 := K3.frozen
  clear K0 K1 K2 K3 KB
  go_wp2_with fail
  have V := ((((((((unhide J3).set 0 0).set 1 0).set 2 0).set 3 0).set 4 X).set 5 Y).set 6 Dd).set 7 n
  have h2n : w.heap.size ≤ w.heap.size + 1 + 1 + 1 := by omega
  have hBV : Below w.heap.size w ((((((((W1.setCell ⟨w.heap.size + 1 + 1 + 1, 0, none⟩ (.int .i64 0)).setCell ⟨w.heap.size + 1 + 1 + 1, 1, none⟩ (.int .i64 0)).setCell ⟨w.heap.size + 1 + 1 + 1, 2, none⟩ (.int .i64 0)).setCell ⟨w.heap.size + 1 + 1 + 1, 3, none⟩ (.int .i64 0)).setCell ⟨w.heap.size + 1 + 1 + 1, 4, none⟩ (.int .i64 X)).setCell ⟨w.heap.size + 1 + 1 + 1, 5, none⟩ (.int .i64 Y)).setCell ⟨w.heap.size + 1 + 1 + 1, 6, none⟩ (.int .i64 Dd)).setCell ⟨w.heap.size + 1 + 1 + 1, 7, none⟩ (.int .i64 n)) :=
    Below.setCell (Below.setCell (Below.setCell (Below.setCell (Below.setCell (Below.setCell (Below.setCell (Below.setCell (unhide JB) h2n _) h2n _) h2n _) h2n _) h2n _) h2n _) h2n _) h2n _
  have s0 := V.cell (m := 0) rfl
  have s1 := V.cell (m := 1) rfl
  have s2 := V.cell (m := 2) rfl
  have s3 := V.cell (m := 3) rfl
  have s4 := V.cell (m := 4) rfl
  have s5 := V.cell (m := 5) rfl
  have s6 := V.cell (m := 6) rfl
  have s7 := V.cell (m := 7) rfl
  generalize ((((((((W1.setCell ⟨w.heap.size + 1 + 1 + 1, 0, none⟩ (.int .i64 0)).setCell ⟨w.heap.size + 1 + 1 + 1, 1, none⟩ (.int .i64 0)).setCell ⟨w.heap.size + 1 + 1 + 1, 2, none⟩ (.int .i64 0)).setCell ⟨w.heap.size + 1 + 1 + 1, 3, none⟩ (.int .i64 0)).setCell ⟨w.heap.size + 1 + 1 + 1, 4, none⟩ (.int .i64 X)).setCell ⟨w.heap.size + 1 + 1 + 1, 5, none⟩ (.int .i64 Y)).setCell ⟨w.heap.size + 1 + 1 + 1, 6, none⟩ (.int .i64 Dd)).setCell ⟨w.heap.size + 1 + 1 + 1, 7, none⟩ (.int .i64 n)) = W9 at *
  refine bodyPost_ret (v := .tuple #[.agg #[.int .i64 0, .int .i64 0, .int .i64 0, .int .i64 0, .int .i64 X, .int .i64 Y, .int .i64 Dd, .int .i64 n], .bool true]) (by simp [results, Try.results45, go_sem, s0, s1, s2, s3, s4, s5, s6, s7]) rfl ⟨rfl, ?_⟩
  exact hBV
end Go.Proofs.Ytdcecfgmfmpeeaa

namespace Go.Proofs.Ytdcecfgmfmpeeaa
open Go.ChangeShapes Go.WideShapes Go.ChangeAt Go.RowKit
set_option linter.unusedVariables false
set_option linter.unusedSimpArgs false

instance (a b d : Pt) : Decidable (Sharp a b d) := by unfold Sharp; infer_instance
def triOk (a b d : Pt) : Bool := decide (side a b d ≠ 0 ∧ Sharp a b d)
def triC (a b d : Pt) : Ic := if triOk a b d = true then tM a b d else ⟨0, 0, 0, 0⟩
theorem sq_bd {p : Pt} (h : Nr1 p) : 0 ≤ sq p ∧ sq p ≤ 80000 ∧ (0 ≤ p.1 * p.1 ∧ p.1 * p.1 ≤ 40000) ∧ (0 ≤ p.2 * p.2 ∧ p.2 * p.2 ≤ 40000) := by
  obtain ⟨h1, h2, h3, h4⟩ := h
  have a := mulB (x := p.1) (y := p.1) (a := 200) (b := 200) (by omega) (by omega) (by omega) (by omega)
  have b := mulB (x := p.2) (y := p.2) (a := 200) (b := 200) (by omega) (by omega) (by omega) (by omega)
  have c := mul_self_ge p.1
  have d := mul_self_ge p.2
  unfold sq
  omega
theorem side_bd2 {a b d : Pt} (ha : Nr1 a) (hb : Nr1 b) (hd : Nr1 d) : -320000 ≤ side a b d ∧ side a b d ≤ 320000 := by
  obtain ⟨a1, a2, a3, a4⟩ := ha
  obtain ⟨b1, b2, b3, b4⟩ := hb
  obtain ⟨d1, d2, d3, d4⟩ := hd
  have m1 := mulB (x := b.1 - a.1) (y := d.2 - a.2) (a := 400) (b := 400) (by omega) (by omega) (by omega) (by omega)
  have m2 := mulB (x := b.2 - a.2) (y := d.1 - a.1) (a := 400) (b := 400) (by omega) (by omega) (by omega) (by omega)
  unfold side
  omega
theorem nr_ptOk {p : Pt} (h : Nr1 p) : ptOk p = true := near_ok h
theorem trX_bd {s t u p q r : Int} (hs : 0 ≤ s ∧ s ≤ 80000) (ht : 0 ≤ t ∧ t ≤ 80000) (hu : 0 ≤ u ∧ u ≤ 80000) (hp : -400 ≤ p ∧ p ≤ 400) (hq : -400 ≤ q ∧ q ≤ 400) (hr : -400 ≤ r ∧ r ≤ 400) :
    (-32000000 ≤ s * p ∧ s * p ≤ 32000000) ∧ (-32000000 ≤ t * q ∧ t * q ≤ 32000000) ∧ (-32000000 ≤ u * r ∧ u * r ≤ 32000000) := by
  have m1 := mulB (x := s) (y := p) (a := 80000) (b := 400) (by omega) (by omega) (by omega) (by omega)
  have m2 := mulB (x := t) (y := q) (a := 80000) (b := 400) (by omega) (by omega) (by omega) (by omega)
  have m3 := mulB (x := u) (y := r) (a := 80000) (b := 400) (by omega) (by omega) (by omega) (by omega)
  refine ⟨?_, ?_, ?_⟩ <;> constructor <;> omega
theorem tM_nr {a b d : Pt} (ha : Nr1 a) (hb : Nr1 b) (hd : Nr1 d) (hs : side a b d ≠ 0) : NrS ((tM a b d).X, (tM a b d).Y, (tM a b d).D) := by
  have sa := sq_bd ha
  have sb := sq_bd hb
  have sd := sq_bd hd
  have hS := side_bd2 ha hb hd
  obtain ⟨a1, a2, a3, a4⟩ := ha
  obtain ⟨b1, b2, b3, b4⟩ := hb
  obtain ⟨d1, d2, d3, d4⟩ := hd
  have t1 := trX_bd (s := sq a) (t := sq b) (u := sq d) (p := b.2 - d.2) (q := d.2 - a.2) (r := a.2 - b.2) (by omega) (by omega) (by omega) (by omega) (by omega) (by omega)
  have t2 := trX_bd (s := sq a) (t := sq b) (u := sq d) (p := d.1 - b.1) (q := a.1 - d.1) (r := b.1 - a.1) (by omega) (by omega) (by omega) (by omega) (by omega) (by omega)
  exact redM_nr (by omega) (by omega) (by omega)
theorem triM_any (a b d : Pt) (w : World) (ha : Nr1 a) (hb : Nr1 b) (hd : Nr1 d) :
    Calls Try.prog 45 #[.agg #[.int .i64 a.1, .int .i64 a.2], .agg #[.int .i64 b.1, .int .i64 b.2], .agg #[.int .i64 d.1, .int .i64 d.2]] w fun e w' => e = .returned (.tuple #[rgV 0 0 0 0 (triC a b d), .bool (triOk a b d)]) ∧ Below w.heap.size w w' := by
  have sa := sq_bd ha
  have sb := sq_bd hb
  have sd := sq_bd hd
  have hS := side_bd2 ha hb hd
  have wS : IntKind.i64.wrap (2 * side a b d) = 2 * side a b d := wr64 (by omega) (by omega)
  have HS := hide (fun W => side_any a b d W (nr_ptOk ha) (nr_ptOk hb) (nr_ptOk hd))
  have H1 := fun W => sharpM_any a b d W ha hb hd
  have H2 := fun W => sharpM_any b d a W hb hd ha
  have H3 := fun W => sharpM_any d a b W hd ha hb
  have bad : ¬ (side a b d ≠ 0 ∧ Sharp a b d) → triOk a b d = false ∧ triC a b d = ⟨0, 0, 0, 0⟩ := fun h => by
    have e : triOk a b d = false := decide_eq_false h
    refine ⟨e, ?_⟩
    unfold triC
    rw [e]
    rfl
  by_cases h0 : side a b d = 0
  · obtain ⟨e1, e2⟩ := bad (fun h => h.1 h0)
    rw [e1, e2]
    exact triM_flat a.1 a.2 b.1 b.2 d.1 d.2 _ w wS HS (by omega)
  · have h0' : ¬ 2 * side a b d = 0 := by omega
    by_cases h1 : 0 ≤ dt a b d
    · rw [decide_eq_true h1] at H1
      by_cases h2 : 0 ≤ dt b d a
      · rw [decide_eq_true h2] at H2
        by_cases h3 : 0 ≤ dt d a b
        · rw [decide_eq_true h3] at H3
          have e1 : triOk a b d = true := decide_eq_true ⟨h0, h1, h2, h3⟩
          have e2 : triC a b d = tM a b d := by unfold triC; rw [e1]; rfl
          rw [e1, e2]
          have hp := ha
          obtain ⟨a1, a2, a3, a4⟩ := ha
          obtain ⟨b1, b2, b3, b4⟩ := hb
          obtain ⟨d1, d2, d3, d4⟩ := hd
          have t1 := trX_bd (s := sq a) (t := sq b) (u := sq d) (p := b.2 - d.2) (q := d.2 - a.2) (r := a.2 - b.2) (by omega) (by omega) (by omega) (by omega) (by omega) (by omega)
          have t2 := trX_bd (s := sq a) (t := sq b) (u := sq d) (p := d.1 - b.1) (q := a.1 - d.1) (r := b.1 - a.1) (by omega) (by omega) (by omega) (by omega) (by omega) (by omega)
          have qa : IntKind.i64.wrap (a.1 * a.1 + a.2 * a.2) = sq a := wr64 (by omega) (by omega)
          have qb : IntKind.i64.wrap (b.1 * b.1 + b.2 * b.2) = sq b := wr64 (by omega) (by omega)
          have qd : IntKind.i64.wrap (d.1 * d.1 + d.2 * d.2) = sq d := wr64 (by omega) (by omega)
          have H4 : Hid (∀ W : World, Calls Try.prog 42 #[.int .i64 (sq a * (b.2 - d.2) + sq b * (d.2 - a.2) + sq d * (a.2 - b.2)), .int .i64 (sq a * (d.1 - b.1) + sq b * (a.1 - d.1) + sq d * (b.1 - a.1)), .int .i64 (2 * side a b d), .agg #[.int .i64 a.1, .int .i64 a.2]] W fun e w' => e = .returned (rgV 0 0 0 0 (tM a b d)) ∧ Below W.heap.size W w') := hide (fun W => circM_any (sq a * (b.2 - d.2) + sq b * (d.2 - a.2) + sq d * (a.2 - b.2)) (sq a * (d.1 - b.1) + sq b * (a.1 - d.1) + sq d * (b.1 - a.1)) (2 * side a b d) a W (by omega) (by omega) (by omega) hp)
          generalize sq a = xa at *
          generalize sq b = xb at *
          generalize sq d = xd at *
          refine triM_ok a.1 a.2 b.1 b.2 d.1 d.2 _ w wS HS h0' (hide H1) (hide H2) (hide H3) xa xb xd _ _ _ _ (wr64 (by omega) (by omega)) (wr64 (by omega) (by omega)) qa (wr64 (by omega) (by omega)) (wr64 (by omega) (by omega)) qb (wr64 (by omega) (by omega)) (wr64 (by omega) (by omega)) qd (wr64 (by omega) (by omega)) (wr64 (by omega) (by omega)) (wr64 (by omega) (by omega)) (wr64 (by omega) (by omega)) (wr64 (by omega) (by omega)) (wr64 (by omega) (by omega)) (wr64 (by omega) (by omega)) (wr64 (by omega) (by omega)) (wr64 (by omega) (by omega)) (wr64 (by omega) (by omega)) (wr64 (by omega) (by omega)) (wr64 (by omega) (by omega)) (wr64 (by omega) (by omega)) (wr64 (by omega) (by omega)) (wr64 (by omega) (by omega)) (wr64 (by omega) (by omega)) H4
        · rw [decide_eq_false h3] at H3
          obtain ⟨e1, e2⟩ := bad (fun h => h3 h.2.2.2)
          rw [e1, e2]
          exact triM_o3 a.1 a.2 b.1 b.2 d.1 d.2 _ w wS HS h0' (hide H1) (hide H2) (hide H3)
      · rw [decide_eq_false h2] at H2
        obtain ⟨e1, e2⟩ := bad (fun h => h2 h.2.2.1)
        rw [e1, e2]
        exact triM_o2 a.1 a.2 b.1 b.2 d.1 d.2 _ w wS HS h0' (hide H1) (hide H2)
    · rw [decide_eq_false h1] at H1
      obtain ⟨e1, e2⟩ := bad (fun h => h1 h.2.1)
      rw [e1, e2]
      exact triM_o1 a.1 a.2 b.1 b.2 d.1 d.2 _ w wS HS h0' (hide H1)
end Go.Proofs.Ytdcecfgmfmpeeaa

namespace Go.Proofs.Ytdcecfgmfmpeeaa
set_option linter.unusedVariables false
set_option linter.unusedSimpArgs false

theorem ptAt_take {P : List Pt} {i j : Nat} (h : j < i) : ptAt (P.take i) j = ptAt P j := by
  unfold ptAt
  rw [List.getD_eq_getElem?_getD, List.getD_eq_getElem?_getD, List.getElem?_take, if_pos h]
theorem smcI_take (f : List Pt → List Pt → Ic) (P R : List Pt) (n : Nat) : ∀ i, i ≤ n → smcI f (P.take n) R i = smcI f P R i := by
  intro i
  induction i with
  | zero => intro _; rfl
  | succ i ih =>
    intro h
    have e := ih (by omega)
    unfold smcI
    rw [e, ptAt_take (by omega), List.take_take, Nat.min_eq_left (by omega)]
theorem smc_next (k : Nat) (P R : List Pt) (hl : R.length + (k + 1) = 3) (hg : Gd R) (hF : ∃ c, Fea P R c) (i : Nat) (hi : i < P.length) (hout : (smcI (smc k) P R i).N < apt (smcI (smc k) P R i) (ptAt P i)) :
    Gd (R ++ [ptAt P i]) ∧ ∃ c, Fea (P.take i) (R ++ [ptAt P i]) c := by
  obtain ⟨cF, hF⟩ := hF
  by_cases h0 : R ≠ [] ∨ 1 ≤ i
  · have hFi : Fea (P.take i) R cF := hF.sub (fun q hq => List.mem_of_mem_take hq)
    obtain ⟨c0, S0, hI0, hM0, hS0⟩ := smc_md (k + 1) (P.take i) R hl hg ⟨cF, hFi⟩ (by
      rcases h0 with h | h
      · exact .inl h
      · right
        intro e
        have := congrArg List.length e
        rw [List.length_take, Nat.min_eq_left (by omega), List.length_nil] at this
        omega)
    have e : smc (k + 1) (P.take i) R = smcI (smc k) P R i := by
      show smcI (smc k) (P.take i) R (P.take i).length = _
      rw [List.length_take, Nat.min_eq_left (by omega)]
      exact smcI_take (smc k) P R i i (Nat.le_refl _)
    rw [e] at hI0
    have hp := (hI0.out (ptAt P i)).2 hout
    have hF1 : Fea (P.take i ++ [ptAt P i]) R cF := hF.sub (fun q hq => by rw [← take_ptAt hi] at hq; exact List.mem_of_mem_take hq)
    obtain ⟨c2, hF2⟩ := hM0.fea.mix hF1 hp
    exact ⟨gd_more (by omega) hg hM0.fea.rim hp hF2.rim, ⟨c2, hF2⟩⟩
  · have hR : R = [] := by
      by_cases h : R = []
      · exact h
      · exact absurd (.inl h) h0
    have hi0 : i = 0 := by
      by_cases h : i = 0
      · exact h
      · exact absurd (.inr (by omega)) h0
    subst hi0
    rw [hR]
    exact ⟨trivial, ⟨_, (thr1 (ptAt P 0)).2.fea⟩⟩
def Nrl (L : List Pt) : Prop := ∀ p ∈ L, Nr1 p
theorem sqs_bd {a b : Pt} (ha : Nr1 a) (hb : Nr1 b) : 0 ≤ sq (sub b a) ∧ sq (sub b a) ≤ 320000 := by
  obtain ⟨a1, a2, a3, a4⟩ := ha
  obtain ⟨b1, b2, b3, b4⟩ := hb
  have m1 := mulB (x := b.1 - a.1) (y := b.1 - a.1) (a := 400) (b := 400) (by omega) (by omega) (by omega) (by omega)
  have m2 := mulB (x := b.2 - a.2) (y := b.2 - a.2) (a := 400) (b := 400) (by omega) (by omega) (by omega) (by omega)
  have c := mul_self_ge (b.1 - a.1)
  have d := mul_self_ge (b.2 - a.2)
  unfold sq sub
  simp only
  omega
/-- what centreOf works out, piece by piece -/
theorem ctr_bd {a b c : Pt} (ha : Nr1 a) (hb : Nr1 b) (hc : Nr1 c) :
    (-128000000 ≤ a.1 * (2 * side a b c) ∧ a.1 * (2 * side a b c) ≤ 128000000) ∧ (-128000000 ≤ a.2 * (2 * side a b c) ∧ a.2 * (2 * side a b c) ≤ 128000000) ∧
    (-128000000 ≤ (c.2 - a.2) * sq (sub b a) ∧ (c.2 - a.2) * sq (sub b a) ≤ 128000000) ∧ (-128000000 ≤ (b.2 - a.2) * sq (sub c a) ∧ (b.2 - a.2) * sq (sub c a) ≤ 128000000) ∧
    (-128000000 ≤ (b.1 - a.1) * sq (sub c a) ∧ (b.1 - a.1) * sq (sub c a) ≤ 128000000) ∧ (-128000000 ≤ (c.1 - a.1) * sq (sub b a) ∧ (c.1 - a.1) * sq (sub b a) ≤ 128000000) := by
  have hS := side_bd2 ha hb hc
  have s1 := sqs_bd ha hb
  have s2 := sqs_bd ha hc
  obtain ⟨a1, a2, a3, a4⟩ := ha
  obtain ⟨b1, b2, b3, b4⟩ := hb
  obtain ⟨c1, c2, c3, c4⟩ := hc
  have m1 := mulB (x := a.1) (y := 2 * side a b c) (a := 200) (b := 640000) (by omega) (by omega) (by omega) (by omega)
  have m2 := mulB (x := a.2) (y := 2 * side a b c) (a := 200) (b := 640000) (by omega) (by omega) (by omega) (by omega)
  have m3 := mulB (x := c.2 - a.2) (y := sq (sub b a)) (a := 400) (b := 320000) (by omega) (by omega) (by omega) (by omega)
  have m4 := mulB (x := b.2 - a.2) (y := sq (sub c a)) (a := 400) (b := 320000) (by omega) (by omega) (by omega) (by omega)
  have m5 := mulB (x := b.1 - a.1) (y := sq (sub c a)) (a := 400) (b := 320000) (by omega) (by omega) (by omega) (by omega)
  have m6 := mulB (x := c.1 - a.1) (y := sq (sub b a)) (a := 400) (b := 320000) (by omega) (by omega) (by omega) (by omega)
  refine ⟨?_, ?_, ?_, ?_, ?_, ?_⟩ <;> constructor <;> omega
theorem sgn_cases {w : Int} (h : w ≠ 0) : (0 < w ∧ sgn w = 1) ∨ (w < 0 ∧ sgn w = -1) := by
  unfold sgn
  by_cases h1 : 0 < w
  · rw [if_pos h1]; exact .inl ⟨h1, rfl⟩
  · rw [if_neg h1, if_pos (by omega)]; exact .inr ⟨by omega, rfl⟩
theorem ctr_nr {a b c : Pt} (ha : Nr1 a) (hb : Nr1 b) (hc : Nr1 c) (hs : side a b c ≠ 0) : NrS (ctr a b c) := by
  have B := ctr_bd ha hb hc
  have hS := side_bd2 ha hb hc
  unfold ctr
  rcases sgn_cases (w := 2 * side a b c) (by omega) with ⟨h, e⟩ | ⟨h, e⟩
  · rw [e]; exact red_nr (by omega) (by omega) (by omega)
  · rw [e]; exact red_nr (by omega) (by omega) (by omega)
theorem thr_nr {R : List Pt} (hN : Nrl R) (hg : Gd R) : NrS ((thr R).X, (thr R).Y, (thr R).D) := by
  match R, hN, hg with
  | [], _, _ => exact ⟨by decide, by decide, by decide, by decide, by decide, by decide⟩
  | [a], hN, _ =>
    obtain ⟨a1, a2, a3, a4⟩ := hN a (by simp)
    exact red_nr (by omega) (by omega) (by omega)
  | [a, b], hN, _ =>
    obtain ⟨a1, a2, a3, a4⟩ := hN a (by simp)
    obtain ⟨b1, b2, b3, b4⟩ := hN b (by simp)
    exact red_nr (by omega) (by omega) (by omega)
  | a :: b :: c :: T, hN, hg => exact ctr_nr (hN a (by simp)) (hN b (by simp)) (hN c (by simp)) hg
theorem Nrl.take {P : List Pt} (h : Nrl P) (i : Nat) : Nrl (P.take i) := fun p hp => h p (List.mem_of_mem_take hp)
theorem Nrl.at {P : List Pt} (h : Nrl P) {i : Nat} (hi : i < P.length) : Nr1 (ptAt P i) := h _ (List.mem_of_getElem? (ptAt_some hi))
theorem Nrl.snoc {R : List Pt} (h : Nrl R) {p : Pt} (hp : Nr1 p) : Nrl (R ++ [p]) := fun q hq => by
  rcases List.mem_append.1 hq with h1 | h1
  · exact h q h1
  · rw [List.mem_singleton.1 h1]; exact hp
theorem smc_nr : ∀ (k : Nat) (P R : List Pt), R.length + k = 3 → Gd R → (∃ c, Fea P R c) → Nrl P → Nrl R → NrS ((smc k P R).X, (smc k P R).Y, (smc k P R).D) ∧ ∀ j, k = j + 1 → ∀ i, i ≤ P.length → NrS ((smcI (smc j) P R i).X, (smcI (smc j) P R i).Y, (smcI (smc j) P R i).D) := by
  intro k
  induction k with
  | zero =>
    intro P R hl hg hF hP hR
    exact ⟨thr_nr hR hg, fun j hj => by omega⟩
  | succ k ih =>
    intro P R hl hg hF hP hR
    have loop : ∀ i, i ≤ P.length → NrS ((smcI (smc k) P R i).X, (smcI (smc k) P R i).Y, (smcI (smc k) P R i).D) := by
      intro i
      induction i with
      | zero => intro _; exact thr_nr hR hg
      | succ i ihi =>
        intro hi
        have h0 := ihi (by omega)
        unfold smcI
        by_cases hout : (smcI (smc k) P R i).N < apt (smcI (smc k) P R i) (ptAt P i)
        · rw [if_pos hout]
          obtain ⟨g, f⟩ := smc_next k P R hl hg hF i (by omega) hout
          exact (ih (P.take i) (R ++ [ptAt P i]) (by rw [List.length_append]; simp; omega) g f (hP.take i) (hR.snoc (hP.at (by omega)))).1
        · rw [if_neg hout]; exact h0
    refine ⟨loop P.length (Nat.le_refl _), fun j hj => ?_⟩
    obtain rfl : k = j := by omega
    exact loop
end Go.Proofs.Ytdcecfgmfmpeeaa

namespace Go.Proofs.Ytdcecfgmfmpeeaa
open Go.ChangeShapes Go.WideShapes Go.ChangeAt Go.RowKit
set_option linter.unusedVariables false
set_option linter.unusedSimpArgs false

theorem sub_bd {x y : Int} (hx : -200 ≤ x ∧ x ≤ 200) (hy : -200 ≤ y ∧ y ≤ 200) : -400 ≤ x - y ∧ x - y ≤ 400 := by omega
theorem cenP_any (b : Nat) (a p c : Pt) (w : World) (ha : Nr1 a) (hp : Nr1 p) (hc : Nr1 c) (hs : side a p c ≠ 0)
    (h0 : w.cell? ⟨b, 0, none⟩ = some (.int .i64 a.1)) (h1 : w.cell? ⟨b, 1, none⟩ = some (.int .i64 a.2)) (h2 : w.cell? ⟨b, 2, none⟩ = some (.int .i64 p.1)) (h3 : w.cell? ⟨b, 3, none⟩ = some (.int .i64 p.2)) (h4 : w.cell? ⟨b, 4, none⟩ = some (.int .i64 c.1)) (h5 : w.cell? ⟨b, 5, none⟩ = some (.int .i64 c.2)) :
    Calls Try.prog 89 #[.pointer (some ⟨b, 0, none⟩)] w fun e w' => e = .returned (.agg #[.int .i64 (ctr a p c).1, .int .i64 (ctr a p c).2.1, .int .i64 (ctr a p c).2.2]) ∧ Below w.heap.size w w' := by
  have B := ctr_bd ha hp hc
  have hS := side_bd2 ha hp hc
  have s1 := sqs_bd ha hp
  have s2 := sqs_bd ha hc
  have ha' := ha
  have hp' := hp
  have hc' := hc
  obtain ⟨a1, a2, a3, a4⟩ := ha
  obtain ⟨p1, p2, p3, p4⟩ := hp
  obtain ⟨c1, c2, c3, c4⟩ := hc
  have H1 : Hid (∀ W : World, Calls Try.prog 52 #[.agg #[.int .i64 p.1, .int .i64 p.2], .agg #[.int .i64 a.1, .int .i64 a.2]] W fun e w' => e = .returned (.agg #[.int .i64 (p.1 - a.1), .int .i64 (p.2 - a.2)]) ∧ Below W.heap.size W w') := hide fun W => sub_bel p.1 p.2 a.1 a.2 W (nr_ptOk hp') (nr_ptOk ha')
  have H2 : Hid (∀ W : World, Calls Try.prog 52 #[.agg #[.int .i64 c.1, .int .i64 c.2], .agg #[.int .i64 a.1, .int .i64 a.2]] W fun e w' => e = .returned (.agg #[.int .i64 (c.1 - a.1), .int .i64 (c.2 - a.2)]) ∧ Below W.heap.size W w') := hide fun W => sub_bel c.1 c.2 a.1 a.2 W (nr_ptOk hc') (nr_ptOk ha')
  have H3 : Hid (∀ W : World, Calls Try.prog 55 #[.agg #[.int .i64 (p.1 - a.1), .int .i64 (p.2 - a.2)], .agg #[.int .i64 (c.1 - a.1), .int .i64 (c.2 - a.2)]] W fun e w' => e = .returned (.int .i64 (side a p c)) ∧ Below W.heap.size W w') := hide fun W => acr_bel (p.1 - a.1) (p.2 - a.2) (c.1 - a.1) (c.2 - a.2) W (by omega) (by omega)
  have H4 : Hid (∀ W : World, Calls Try.prog 54 #[.agg #[.int .i64 (p.1 - a.1), .int .i64 (p.2 - a.2)], .agg #[.int .i64 (p.1 - a.1), .int .i64 (p.2 - a.2)]] W fun e w' => e = .returned (.int .i64 (sq (sub p a))) ∧ Below W.heap.size W w') := hide fun W => alongW (p.1 - a.1) (p.2 - a.2) (p.1 - a.1) (p.2 - a.2) W (by omega) (by omega)
  have H5 : Hid (∀ W : World, Calls Try.prog 54 #[.agg #[.int .i64 (c.1 - a.1), .int .i64 (c.2 - a.2)], .agg #[.int .i64 (c.1 - a.1), .int .i64 (c.2 - a.2)]] W fun e w' => e = .returned (.int .i64 (sq (sub c a))) ∧ Below W.heap.size W w') := hide fun W => alongW (c.1 - a.1) (c.2 - a.2) (c.1 - a.1) (c.2 - a.2) W (by omega) (by omega)
  have hsg := sgn_cases (w := 2 * side a p c) (by omega)
  have H7 : Hid (∀ W : World, Calls Try.prog 88 #[.int .i64 ((a.1 * (2 * side a p c) + (c.2 - a.2) * sq (sub p a) - (p.2 - a.2) * sq (sub c a)) * sgn (2 * side a p c)), .int .i64 ((a.2 * (2 * side a p c) + (p.1 - a.1) * sq (sub c a) - (c.1 - a.1) * sq (sub p a)) * sgn (2 * side a p c)), .int .i64 (2 * side a p c * sgn (2 * side a p c))] W fun e w' => e = .returned (.agg #[.int .i64 (ctr a p c).1, .int .i64 (ctr a p c).2.1, .int .i64 (ctr a p c).2.2]) ∧ Below W.heap.size W w') := hide fun W => spotP _ _ _ W (by rcases hsg with ⟨h, e⟩ | ⟨h, e⟩ <;> rw [e] <;> omega) (by rcases hsg with ⟨h, e⟩ | ⟨h, e⟩ <;> rw [e] <;> omega) (by rcases hsg with ⟨h, e⟩ | ⟨h, e⟩ <;> rw [e] <;> omega) (by rcases hsg with ⟨h, e⟩ | ⟨h, e⟩ <;> rw [e] <;> omega)
  refine cenP_core b a.1 a.2 p.1 p.2 c.1 c.2 (p.1 - a.1) (p.2 - a.2) (c.1 - a.1) (c.2 - a.2) (side a p c) (2 * side a p c) (sq (sub p a)) (sq (sub c a)) _ _ _ _ _ _ _ _ _ _ (sgn (2 * side a p c)) _ _ _ _ _ _ w (hide h0) (hide h1) (hide h2) (hide h3) (hide h4) (hide h5) H1 H2 H3 H4 H5 (hide fun W => sign_any _ W) H7 (hide (wr64 (by omega) (by omega)))
    (hide (wr64 (by omega) (by omega))) (hide (wr64 (by omega) (by omega))) (hide (wr64 (by omega) (by omega))) (hide (wr64 (by omega) (by omega))) (hide (wr64 (by omega) (by omega)))
    (hide (wr64 (by omega) (by omega))) (hide (wr64 (by omega) (by omega))) (hide (wr64 (by omega) (by omega))) (hide (wr64 (by omega) (by omega))) (hide (wr64 (by omega) (by omega))) ?_ ?_ ?_
  all_goals
    rcases hsg with ⟨h, e⟩ | ⟨h, e⟩ <;> rw [e] <;> exact wr64 (by omega) (by omega)
set_option maxHeartbeats 2000000 in
set_option maxRecDepth 100000 in
theorem thr0P (w : World) : Calls Try.prog 65 #[.slice none 0 0] w fun e w' => e = .returned (.agg #[.int .i64 0, .int .i64 0, .int .i64 1, .int .i64 (-1)]) ∧ Below w.heap.size w w' := by
  go_enter Try.func65, Try.ntmps65
  go_wp2_with fail
  refine bodyPost_ret (v := .agg #[.int .i64 0, .int .i64 0, .int .i64 1, .int .i64 (-1)]) (by simp [results, Try.results65, go_sem]) rfl ⟨rfl, ba (ba (Below.refl _ _) _) _⟩
set_option maxHeartbeats 2000000 in
set_option maxRecDepth 100000 in
theorem thr1P_core (b cap : Nat) (x0 y0 X Y D r : Int) (w : World) (HA0 : Hid (w.cell? ⟨b, 0, none⟩ = some (.int .i64 x0))) (HA1 : Hid (w.cell? ⟨b, 1, none⟩ = some (.int .i64 y0)))
    (HF : Hid (∀ Xw : World, Calls Try.prog 88 #[.int .i64 x0, .int .i64 y0, .int .i64 1] Xw fun e w' => e = .returned (.agg #[.int .i64 X, .int .i64 Y, .int .i64 D]) ∧ Below Xw.heap.size Xw w')) (HP : Hid (∀ Xw : World, Calls Try.prog 66 #[.agg #[.int .i64 X, .int .i64 Y, .int .i64 D, .int .i64 0], .agg #[.int .i64 x0, .int .i64 y0]] Xw fun e w' => e = .returned (.int .i64 r) ∧ Below Xw.heap.size Xw w')) :
    Calls Try.prog 65 #[.slice (some ⟨b, 0, none⟩) 1 cap] w fun e w' => e = .returned (.agg #[.int .i64 X, .int .i64 Y, .int .i64 D, .int .i64 r]) ∧ Below w.heap.size w w' := by
  have K0 : Hid (Below w.heap.size w ((w.alloc (.cells #[.int .i64 0, .int .i64 0, .int .i64 0, .int .i64 0] 72)).alloc (.cells #[.int .i64 0, .int .i64 0, .int .i64 0, .int .i64 0] 72))) := hide (ba (ba (Below.refl _ _) _) _)
  have R2 : Hid (cb ((w.alloc (.cells #[.int .i64 0, .int .i64 0, .int .i64 0, .int .i64 0] 72)).alloc (.cells #[.int .i64 0, .int .i64 0, .int .i64 0, .int .i64 0] 72)) w.heap.size 72 [.int .i64 0, .int .i64 0, .int .i64 0, .int .i64 0]) := hide (cb_new1 w 72 [.int .i64 0, .int .i64 0, .int .i64 0, .int .i64 0] _)
  have R3 : Hid (cb ((w.alloc (.cells #[.int .i64 0, .int .i64 0, .int .i64 0, .int .i64 0] 72)).alloc (.cells #[.int .i64 0, .int .i64 0, .int .i64 0, .int .i64 0] 72)) (w.heap.size + 1) 72 [.int .i64 0, .int .i64 0, .int .i64 0, .int .i64 0]) := hide (cb_new2 w 72 [.int .i64 0, .int .i64 0, .int .i64 0, .int .i64 0] _)
  go_enter Try.func65, Try.ntmps65
  go_wp2_with fail
  have l3 := (unhide R3).lt
  have hA0 : Hid (((w.alloc (.cells #[.int .i64 0, .int .i64 0, .int .i64 0, .int .i64 0] 72)).alloc (.cells #[.int .i64 0, .int .i64 0, .int .i64 0, .int .i64 0] 72)).cell? ⟨b, 0, none⟩ = some (.int .i64 x0)) := hide (keep1 (unhide K0) (unhide HA0))
  have hA1 : Hid (((w.alloc (.cells #[.int .i64 0, .int .i64 0, .int .i64 0, .int .i64 0] 72)).alloc (.cells #[.int .i64 0, .int .i64 0, .int .i64 0, .int .i64 0] 72)).cell? ⟨b, 1, none⟩ = some (.int .i64 y0)) := hide (keep1 (unhide K0) (unhide HA1))
  generalize ((w.alloc (.cells #[.int .i64 0, .int .i64 0, .int .i64 0, .int .i64 0] 72)).alloc (.cells #[.int .i64 0, .int .i64 0, .int .i64 0, .int .i64 0] 72)) = V0 at *
  refine Go.Code.wp_mono (Only.to (fun _ _ h => h)) (ci7 (X := X) (Y := Y) (D := D) hA0 hA1 l3 (hide ((unhide R3).cell (m := 0) rfl)) (hide ((unhide R3).cell (m := 1) rfl)) (hide ((unhide R3).cell (m := 2) rfl)) (hide (unhide R3).frozen) (hide fun Xw _ => unhide HF Xw) (fun V1 V2 hV2 hB1 => ?_))
  clear hA0 hA1 l3
  have R3b : Hid (cb V2 (w.heap.size + 1) 72 [.int .i64 X, .int .i64 Y, .int .i64 D, .int .i64 0]) := hide (by rw [hV2]; exact ((((unhide R3).bel hB1).set 0 (.int .i64 X)).set 1 (.int .i64 Y)).set 2 (.int .i64 D))
  have R2b : Hid (cb V2 w.heap.size 72 [.int .i64 0, .int .i64 0, .int .i64 0, .int .i64 0]) := hide (by rw [hV2]; exact ((((unhide R2).bel hB1).ne (by omega)).ne (by omega)).ne (by omega))
  have K2 : Hid (Below w.heap.size w V2) := hide (by rw [hV2]; exact Below.setCell (Below.setCell (Below.setCell (bc (unhide K0) hB1) (Nat.le_succ _) _) (Nat.le_succ _) _) (Nat.le_succ _) _)
  have hA0 : Hid (V2.cell? ⟨b, 0, none⟩ = some (.int .i64 x0)) := hide (keep1 (unhide K2) (unhide HA0))
  have hA1 : Hid (V2.cell? ⟨b, 1, none⟩ = some (.int .i64 y0)) := hide (keep1 (unhide K2) (unhide HA1))
  have l3 := (unhide R3b).lt
  clear hB1 hV2 K0 R2 R3 V1
  try go_wp2_with fail
  refine Go.Code.wp_mono (Only.to (fun _ _ h => h)) (ci10 (n := 1) (r := r) hA0 hA1 (hide ((unhide R3b).cell (m := 0) rfl)) (hide ((unhide R3b).cell (m := 1) rfl)) (hide ((unhide R3b).cell (m := 2) rfl)) (hide ((unhide R3b).cell (m := 3) rfl)) l3 (hide ((unhide R3b).cell (m := 3) rfl)) (hide (unhide R3b).frozen) (hide (by decide)) (hide fun Xw _ => unhide HP Xw) (fun V3 V4 hV4 hB3 => ?_))
  have R3c : Hid (cb V4 (w.heap.size + 1) 72 [.int .i64 X, .int .i64 Y, .int .i64 D, .int .i64 r]) := hide (by rw [hV4]; exact (((unhide R3b).bel hB3).set 3 (.int .i64 r)))
  have R2c : Hid (cb V4 w.heap.size 72 [.int .i64 0, .int .i64 0, .int .i64 0, .int .i64 0]) := hide (by rw [hV4]; exact (((unhide R2b).bel hB3).ne (by omega)))
  have K4 : Hid (Below w.heap.size w V4) := hide (by rw [hV4]; exact Below.setCell (bc (unhide K2) hB3) (Nat.le_succ _) _)
  clear hB3 hV4 K2 R2b R3b V3
  have d0 := (unhide R3c).cell (m := 0) rfl
  have d1 := (unhide R3c).cell (m := 1) rfl
  have d2 := (unhide R3c).cell (m := 2) rfl
  have d3 := (unhide R3c).cell (m := 3) rfl
  have c0 := (unhide R2c).cell (m := 0) rfl
  have c1 := (unhide R2c).cell (m := 1) rfl
  have c2 := (unhide R2c).cell (m := 2) rfl
  have c3 := (unhide R2c).cell (m := 3) rfl
  have f2 := (unhide R2c).frozen
  try go_wp2_with fail
  have T := (((((unhide R2c).set 0 (.int .i64 X)).set 1 (.int .i64 Y)).set 2 (.int .i64 D)).set 3 (.int .i64 r))
  have hBV : Below w.heap.size w ((((V4.setCell ⟨w.heap.size, 0, none⟩ (.int .i64 X)).setCell ⟨w.heap.size, 1, none⟩ (.int .i64 Y)).setCell ⟨w.heap.size, 2, none⟩ (.int .i64 D)).setCell ⟨w.heap.size, 3, none⟩ (.int .i64 r)) := (Below.setCell (Below.setCell (Below.setCell (Below.setCell (unhide K4) (Nat.le_refl _) _) (Nat.le_refl _) _) (Nat.le_refl _) _) (Nat.le_refl _) _)
  generalize ((((V4.setCell ⟨w.heap.size, 0, none⟩ (.int .i64 X)).setCell ⟨w.heap.size, 1, none⟩ (.int .i64 Y)).setCell ⟨w.heap.size, 2, none⟩ (.int .i64 D)).setCell ⟨w.heap.size, 3, none⟩ (.int .i64 r)) = V9 at *
  have s0 := T.cell (m := 0) rfl
  have s1 := T.cell (m := 1) rfl
  have s2 := T.cell (m := 2) rfl
  have s3 := T.cell (m := 3) rfl
  have ls := T.lt
  refine bodyPost_ret (v := .agg #[.int .i64 X, .int .i64 Y, .int .i64 D, .int .i64 r]) (by simp [results, Try.results65, go_sem, s0, s1, s2, s3, ls]) rfl ⟨rfl, hBV⟩
set_option maxHeartbeats 2000000 in
set_option maxRecDepth 100000 in
theorem thr2P_core (b cap : Nat) (x0 y0 x1 y1 X Y D r : Int) (w : World) (HA0 : Hid (w.cell? ⟨b, 0, none⟩ = some (.int .i64 x0))) (HA1 : Hid (w.cell? ⟨b, 1, none⟩ = some (.int .i64 y0))) (HA2 : Hid (w.cell? ⟨b, 2, none⟩ = some (.int .i64 x1))) (HA3 : Hid (w.cell? ⟨b, 3, none⟩ = some (.int .i64 y1)))
    (W1 : Hid (IntKind.i64.wrap (x0 + x1) = x0 + x1)) (W2 : Hid (IntKind.i64.wrap (y0 + y1) = y0 + y1))
    (HF : Hid (∀ Xw : World, Calls Try.prog 88 #[.int .i64 (x0 + x1), .int .i64 (y0 + y1), .int .i64 2] Xw fun e w' => e = .returned (.agg #[.int .i64 X, .int .i64 Y, .int .i64 D]) ∧ Below Xw.heap.size Xw w')) (HP : Hid (∀ Xw : World, Calls Try.prog 66 #[.agg #[.int .i64 X, .int .i64 Y, .int .i64 D, .int .i64 0], .agg #[.int .i64 x0, .int .i64 y0]] Xw fun e w' => e = .returned (.int .i64 r) ∧ Below Xw.heap.size Xw w')) :
    Calls Try.prog 65 #[.slice (some ⟨b, 0, none⟩) 2 cap] w fun e w' => e = .returned (.agg #[.int .i64 X, .int .i64 Y, .int .i64 D, .int .i64 r]) ∧ Below w.heap.size w w' := by
  have K0 : Hid (Below w.heap.size w ((w.alloc (.cells #[.int .i64 0, .int .i64 0, .int .i64 0, .int .i64 0] 72)).alloc (.cells #[.int .i64 0, .int .i64 0, .int .i64 0, .int .i64 0] 72))) := hide (ba (ba (Below.refl _ _) _) _)
  have R2 : Hid (cb ((w.alloc (.cells #[.int .i64 0, .int .i64 0, .int .i64 0, .int .i64 0] 72)).alloc (.cells #[.int .i64 0, .int .i64 0, .int .i64 0, .int .i64 0] 72)) w.heap.size 72 [.int .i64 0, .int .i64 0, .int .i64 0, .int .i64 0]) := hide (cb_new1 w 72 [.int .i64 0, .int .i64 0, .int .i64 0, .int .i64 0] _)
  have R3 : Hid (cb ((w.alloc (.cells #[.int .i64 0, .int .i64 0, .int .i64 0, .int .i64 0] 72)).alloc (.cells #[.int .i64 0, .int .i64 0, .int .i64 0, .int .i64 0] 72)) (w.heap.size + 1) 72 [.int .i64 0, .int .i64 0, .int .i64 0, .int .i64 0]) := hide (cb_new2 w 72 [.int .i64 0, .int .i64 0, .int .i64 0, .int .i64 0] _)
  go_enter Try.func65, Try.ntmps65
  go_wp2_with fail
  have l3 := (unhide R3).lt
  have hA0 : Hid (((w.alloc (.cells #[.int .i64 0, .int .i64 0, .int .i64 0, .int .i64 0] 72)).alloc (.cells #[.int .i64 0, .int .i64 0, .int .i64 0, .int .i64 0] 72)).cell? ⟨b, 0, none⟩ = some (.int .i64 x0)) := hide (keep1 (unhide K0) (unhide HA0))
  have hA1 : Hid (((w.alloc (.cells #[.int .i64 0, .int .i64 0, .int .i64 0, .int .i64 0] 72)).alloc (.cells #[.int .i64 0, .int .i64 0, .int .i64 0, .int .i64 0] 72)).cell? ⟨b, 1, none⟩ = some (.int .i64 y0)) := hide (keep1 (unhide K0) (unhide HA1))
  have hA2 : Hid (((w.alloc (.cells #[.int .i64 0, .int .i64 0, .int .i64 0, .int .i64 0] 72)).alloc (.cells #[.int .i64 0, .int .i64 0, .int .i64 0, .int .i64 0] 72)).cell? ⟨b, 2, none⟩ = some (.int .i64 x1)) := hide (keep1 (unhide K0) (unhide HA2))
  have hA3 : Hid (((w.alloc (.cells #[.int .i64 0, .int .i64 0, .int .i64 0, .int .i64 0] 72)).alloc (.cells #[.int .i64 0, .int .i64 0, .int .i64 0, .int .i64 0] 72)).cell? ⟨b, 3, none⟩ = some (.int .i64 y1)) := hide (keep1 (unhide K0) (unhide HA3))
  generalize ((w.alloc (.cells #[.int .i64 0, .int .i64 0, .int .i64 0, .int .i64 0] 72)).alloc (.cells #[.int .i64 0, .int .i64 0, .int .i64 0, .int .i64 0] 72)) = V0 at *
  refine Go.Code.wp_mono (Only.to (fun _ _ h => h)) (ci9 (X := X) (Y := Y) (D := D) hA0 hA1 hA2 hA3 l3 (hide ((unhide R3).cell (m := 0) rfl)) (hide ((unhide R3).cell (m := 1) rfl)) (hide ((unhide R3).cell (m := 2) rfl)) (hide (unhide R3).frozen) W1 W2 (hide fun Xw _ => unhide HF Xw) (fun V1 V2 hV2 hB1 => ?_))
  clear hA0 hA1 hA2 hA3 l3
  have R3b : Hid (cb V2 (w.heap.size + 1) 72 [.int .i64 X, .int .i64 Y, .int .i64 D, .int .i64 0]) := hide (by rw [hV2]; exact ((((unhide R3).bel hB1).set 0 (.int .i64 X)).set 1 (.int .i64 Y)).set 2 (.int .i64 D))
  have R2b : Hid (cb V2 w.heap.size 72 [.int .i64 0, .int .i64 0, .int .i64 0, .int .i64 0]) := hide (by rw [hV2]; exact ((((unhide R2).bel hB1).ne (by omega)).ne (by omega)).ne (by omega))
  have K2 : Hid (Below w.heap.size w V2) := hide (by rw [hV2]; exact Below.setCell (Below.setCell (Below.setCell (bc (unhide K0) hB1) (Nat.le_succ _) _) (Nat.le_succ _) _) (Nat.le_succ _) _)
  have hA0 : Hid (V2.cell? ⟨b, 0, none⟩ = some (.int .i64 x0)) := hide (keep1 (unhide K2) (unhide HA0))
  have hA1 : Hid (V2.cell? ⟨b, 1, none⟩ = some (.int .i64 y0)) := hide (keep1 (unhide K2) (unhide HA1))
  have l3 := (unhide R3b).lt
  clear hB1 hV2 K0 R2 R3 V1
  try go_wp2_with fail
  refine Go.Code.wp_mono (Only.to (fun _ _ h => h)) (ci10 (n := 2) (r := r) hA0 hA1 (hide ((unhide R3b).cell (m := 0) rfl)) (hide ((unhide R3b).cell (m := 1) rfl)) (hide ((unhide R3b).cell (m := 2) rfl)) (hide ((unhide R3b).cell (m := 3) rfl)) l3 (hide ((unhide R3b).cell (m := 3) rfl)) (hide (unhide R3b).frozen) (hide (by decide)) (hide fun Xw _ => unhide HP Xw) (fun V3 V4 hV4 hB3 => ?_))
  have R3c : Hid (cb V4 (w.heap.size + 1) 72 [.int .i64 X, .int .i64 Y, .int .i64 D, .int .i64 r]) := hide (by rw [hV4]; exact (((unhide R3b).bel hB3).set 3 (.int .i64 r)))
  have R2c : Hid (cb V4 w.heap.size 72 [.int .i64 0, .int .i64 0, .int .i64 0, .int .i64 0]) := hide (by rw [hV4]; exact (((unhide R2b).bel hB3).ne (by omega)))
  have K4 : Hid (Below w.heap.size w V4) := hide (by rw [hV4]; exact Below.setCell (bc (unhide K2) hB3) (Nat.le_succ _) _)
  clear hB3 hV4 K2 R2b R3b V3
  have d0 := (unhide R3c).cell (m := 0) rfl
  have d1 := (unhide R3c).cell (m := 1) rfl
  have d2 := (unhide R3c).cell (m := 2) rfl
  have d3 := (unhide R3c).cell (m := 3) rfl
  have c0 := (unhide R2c).cell (m := 0) rfl
  have c1 := (unhide R2c).cell (m := 1) rfl
  have c2 := (unhide R2c).cell (m := 2) rfl
  have c3 := (unhide R2c).cell (m := 3) rfl
  have f2 := (unhide R2c).frozen
  try go_wp2_with fail
  have T := (((((unhide R2c).set 0 (.int .i64 X)).set 1 (.int .i64 Y)).set 2 (.int .i64 D)).set 3 (.int .i64 r))
  have hBV : Below w.heap.size w ((((V4.setCell ⟨w.heap.size, 0, none⟩ (.int .i64 X)).setCell ⟨w.heap.size, 1, none⟩ (.int .i64 Y)).setCell ⟨w.heap.size, 2, none⟩ (.int .i64 D)).setCell ⟨w.heap.size, 3, none⟩ (.int .i64 r)) := (Below.setCell (Below.setCell (Below.setCell (Below.setCell (unhide K4) (Nat.le_refl _) _) (Nat.le_refl _) _) (Nat.le_refl _) _) (Nat.le_refl _) _)
  generalize ((((V4.setCell ⟨w.heap.size, 0, none⟩ (.int .i64 X)).setCell ⟨w.heap.size, 1, none⟩ (.int .i64 Y)).setCell ⟨w.heap.size, 2, none⟩ (.int .i64 D)).setCell ⟨w.heap.size, 3, none⟩ (.int .i64 r)) = V9 at *
  have s0 := T.cell (m := 0) rfl
  have s1 := T.cell (m := 1) rfl
  have s2 := T.cell (m := 2) rfl
  have s3 := T.cell (m := 3) rfl
  have ls := T.lt
  refine bodyPost_ret (v := .agg #[.int .i64 X, .int .i64 Y, .int .i64 D, .int .i64 r]) (by simp [results, Try.results65, go_sem, s0, s1, s2, s3, ls]) rfl ⟨rfl, hBV⟩
set_option maxHeartbeats 2000000 in
set_option maxRecDepth 100000 in
theorem thr3P_core (b cap : Nat) (x0 y0 X Y D r : Int) (w : World) (HA0 : Hid (w.cell? ⟨b, 0, none⟩ = some (.int .i64 x0))) (HA1 : Hid (w.cell? ⟨b, 1, none⟩ = some (.int .i64 y0)))
    (HF : Hid (∀ Xw : World, Below w.heap.size w Xw → Calls Try.prog 89 #[.pointer (some ⟨b, 0, none⟩)] Xw fun e w' => e = .returned (.agg #[.int .i64 X, .int .i64 Y, .int .i64 D]) ∧ Below Xw.heap.size Xw w')) (HP : Hid (∀ Xw : World, Calls Try.prog 66 #[.agg #[.int .i64 X, .int .i64 Y, .int .i64 D, .int .i64 0], .agg #[.int .i64 x0, .int .i64 y0]] Xw fun e w' => e = .returned (.int .i64 r) ∧ Below Xw.heap.size Xw w')) :
    Calls Try.prog 65 #[.slice (some ⟨b, 0, none⟩) 3 cap] w fun e w' => e = .returned (.agg #[.int .i64 X, .int .i64 Y, .int .i64 D, .int .i64 r]) ∧ Below w.heap.size w w' := by
  have K0 : Hid (Below w.heap.size w ((w.alloc (.cells #[.int .i64 0, .int .i64 0, .int .i64 0, .int .i64 0] 72)).alloc (.cells #[.int .i64 0, .int .i64 0, .int .i64 0, .int .i64 0] 72))) := hide (ba (ba (Below.refl _ _) _) _)
  have R2 : Hid (cb ((w.alloc (.cells #[.int .i64 0, .int .i64 0, .int .i64 0, .int .i64 0] 72)).alloc (.cells #[.int .i64 0, .int .i64 0, .int .i64 0, .int .i64 0] 72)) w.heap.size 72 [.int .i64 0, .int .i64 0, .int .i64 0, .int .i64 0]) := hide (cb_new1 w 72 [.int .i64 0, .int .i64 0, .int .i64 0, .int .i64 0] _)
  have R3 : Hid (cb ((w.alloc (.cells #[.int .i64 0, .int .i64 0, .int .i64 0, .int .i64 0] 72)).alloc (.cells #[.int .i64 0, .int .i64 0, .int .i64 0, .int .i64 0] 72)) (w.heap.size + 1) 72 [.int .i64 0, .int .i64 0, .int .i64 0, .int .i64 0]) := hide (cb_new2 w 72 [.int .i64 0, .int .i64 0, .int .i64 0, .int .i64 0] _)
  have hAA := fun W => Go.run_arrayAt (P := Try.prog) W 97 30 3 (some ⟨b, 0, none⟩) 3 cap Try.underlying97 (Nat.le_refl _)
  go_enter Try.func65, Try.ntmps65
  go_wp2_with fail
  generalize ((w.alloc (.cells #[.int .i64 0, .int .i64 0, .int .i64 0, .int .i64 0] 72)).alloc (.cells #[.int .i64 0, .int .i64 0, .int .i64 0, .int .i64 0] 72)) = V0 at *
  refine (unhide HF _ (unhide K0)).mono ?_
  rintro e V1 ⟨rfl, hB1⟩
  have R3z := hide ((unhide R3).bel hB1)
  have l3 := (unhide R3z).lt
  have o0 := (unhide R3z).cell (m := 0) rfl
  have o1 := (unhide R3z).cell (m := 1) rfl
  have o2 := (unhide R3z).cell (m := 2) rfl
  have f3 := (unhide R3z).frozen
  go_wp2_with fail
  clear o0 o1 o2 f3 l3 R3z hAA
  obtain ⟨V2, hV2⟩ : ∃ V2, V2 = (((V1.setCell ⟨w.heap.size + 1, 0, none⟩ (.int .i64 X)).setCell ⟨w.heap.size + 1, 1, none⟩ (.int .i64 Y)).setCell ⟨w.heap.size + 1, 2, none⟩ (.int .i64 D)) := ⟨_, rfl⟩
  rw [← hV2]
  have R3b : Hid (cb V2 (w.heap.size + 1) 72 [.int .i64 X, .int .i64 Y, .int .i64 D, .int .i64 0]) := hide (by rw [hV2]; exact ((((unhide R3).bel hB1).set 0 (.int .i64 X)).set 1 (.int .i64 Y)).set 2 (.int .i64 D))
  have R2b : Hid (cb V2 w.heap.size 72 [.int .i64 0, .int .i64 0, .int .i64 0, .int .i64 0]) := hide (by rw [hV2]; exact ((((unhide R2).bel hB1).ne (by omega)).ne (by omega)).ne (by omega))
  have K2 : Hid (Below w.heap.size w V2) := hide (by rw [hV2]; exact Below.setCell (Below.setCell (Below.setCell (bc (unhide K0) hB1) (Nat.le_succ _) _) (Nat.le_succ _) _) (Nat.le_succ _) _)
  have hA0 : Hid (V2.cell? ⟨b, 0, none⟩ = some (.int .i64 x0)) := hide (keep1 (unhide K2) (unhide HA0))
  have hA1 : Hid (V2.cell? ⟨b, 1, none⟩ = some (.int .i64 y0)) := hide (keep1 (unhide K2) (unhide HA1))
  have l3 := (unhide R3b).lt
  clear hB1 hV2 K0 R2 R3 V1
  try go_wp2_with fail
  refine Go.Code.wp_mono (Only.to (fun _ _ h => h)) (ci10 (n := 3) (r := r) hA0 hA1 (hide ((unhide R3b).cell (m := 0) rfl)) (hide ((unhide R3b).cell (m := 1) rfl)) (hide ((unhide R3b).cell (m := 2) rfl)) (hide ((unhide R3b).cell (m := 3) rfl)) l3 (hide ((unhide R3b).cell (m := 3) rfl)) (hide (unhide R3b).frozen) (hide (by decide)) (hide fun Xw _ => unhide HP Xw) (fun V3 V4 hV4 hB3 => ?_))
  have R3c : Hid (cb V4 (w.heap.size + 1) 72 [.int .i64 X, .int .i64 Y, .int .i64 D, .int .i64 r]) := hide (by rw [hV4]; exact (((unhide R3b).bel hB3).set 3 (.int .i64 r)))
  have R2c : Hid (cb V4 w.heap.size 72 [.int .i64 0, .int .i64 0, .int .i64 0, .int .i64 0]) := hide (by rw [hV4]; exact (((unhide R2b).bel hB3).ne (by omega)))
  have K4 : Hid (Below w.heap.size w V4) := hide (by rw [hV4]; exact Below.setCell (bc (unhide K2) hB3) (Nat.le_succ _) _)
  clear hB3 hV4 K2 R2b R3b V3
  have d0 := (unhide R3c).cell (m := 0) rfl
  have d1 := (unhide R3c).cell (m := 1) rfl
  have d2 := (unhide R3c).cell (m := 2) rfl
  have d3 := (unhide R3c).cell (m := 3) rfl
  have c0 := (unhide R2c).cell (m := 0) rfl
  have c1 := (unhide R2c).cell (m := 1) rfl
  have c2 := (unhide R2c).cell (m := 2) rfl
  have c3 := (unhide R2c).cell (m := 3) rfl
  have f2 := (unhide R2c).frozen
  try go_wp2_with fail
  have T := (((((unhide R2c).set 0 (.int .i64 X)).set 1 (.int .i64 Y)).set 2 (.int .i64 D)).set 3 (.int .i64 r))
  have hBV : Below w.heap.size w ((((V4.setCell ⟨w.heap.size, 0, none⟩ (.int .i64 X)).setCell ⟨w.heap.size, 1, none⟩ (.int .i64 Y)).setCell ⟨w.heap.size, 2, none⟩ (.int .i64 D)).setCell ⟨w.heap.size, 3, none⟩ (.int .i64 r)) := (Below.setCell (Below.setCell (Below.setCell (Below.setCell (unhide K4) (Nat.le_refl _) _) (Nat.le_refl _) _) (Nat.le_refl _) _) (Nat.le_refl _) _)
  generalize ((((V4.setCell ⟨w.heap.size, 0, none⟩ (.int .i64 X)).setCell ⟨w.heap.size, 1, none⟩ (.int .i64 Y)).setCell ⟨w.heap.size, 2, none⟩ (.int .i64 D)).setCell ⟨w.heap.size, 3, none⟩ (.int .i64 r)) = V9 at *
  have s0 := T.cell (m := 0) rfl
  have s1 := T.cell (m := 1) rfl
  have s2 := T.cell (m := 2) rfl
  have s3 := T.cell (m := 3) rfl
  have ls := T.lt
  refine bodyPost_ret (v := .agg #[.int .i64 X, .int .i64 Y, .int .i64 D, .int .i64 r]) (by simp [results, Try.results65, go_sem, s0, s1, s2, s3, ls]) rfl ⟨rfl, hBV⟩
end Go.Proofs.Ytdcecfgmfmpeeaa

namespace Go.Proofs.Ytdcecfgmfmpeeaa
open Go.ChangeShapes Go.WideShapes Go.ChangeAt Go.RowKit
set_option linter.unusedVariables false
set_option linter.unusedSimpArgs false

theorem run_copy_k {P : Program} (w : World) (dT sT ty elem k : Nat) (g dLen dCap : Nat) (a : Addr) (sLen sCap : Nat) (cur : Array Value) (t : TypeId) (cs : List Value)
    (hu : P.underlying dT = some (.slice elem)) (hs : (P.info? elem).map (·.size) = some k)
    (hg : w.heap[g]? = some (.cells cur t (0, 0))) (hn : cs.length = Nat.min sLen dLen * k)
    (hsrc : ∀ j v, cs[j]? = some v → w.cell? (a.add j) = some v) (hfit : cs.length ≤ cur.size) (h1 : ∀ v ∈ cs, v.oneCell' = true) :
    (Builtin.copy_ #[dT, sT] ty #[.slice (some ⟨g, 0, none⟩) dLen dCap, .slice (some a) sLen sCap]).run P w =
      .ok (goInt (Nat.min sLen dLen)) (w.setRow g (cs ++ cur.toList.drop cs.length).toArray) := by
  have hl := run_loadCells_list (P := P) w a cs hsrc
  have hst := run_storeCells_at P g 0 t cs 0 cur w hg (by simpa using hfit) h1
  simp only [Nat.zero_add, List.take_zero, List.nil_append] at hst
  cases hq : P.info? elem with
  | none => simp [hq] at hs
  | some i =>
    have hi : i.size = k := by simpa [hq] using hs
    simp [Builtin.copy_, run_underlying hu, Builtin.lenOf, Builtin.firstCells, sizeOf, typeInfo, hq, hi, ← hn, hl, hst]
theorem but_setRow {w : World} {g : Nat} (cs : Array Value) : But g w (w.setRow g cs) := ⟨rfl, rfl, rfl, by simp [World.setRow], fun k hk => setRow_other w g k cs hk⟩
/-- a rim: none, or points from a block's beginning on -/
def Rim (w : World) (x : Option Addr) (m rc : Nat) (R : List Pt) : Prop := R.length = m ∧ (x = none ∧ m = 0 ∧ rc = 0 ∨ ∃ br, x = some ⟨br, 0, none⟩ ∧ m ≠ 0 ∧ br < w.heap.size ∧ IntsAt w br 0 (flat2 R))
theorem Rim.bel {w w' : World} {x : Option Addr} {m rc : Nat} {R : List Pt} (h : Rim w x m rc R) (hb : Below w.heap.size w w') : Rim w' x m rc R := by
  obtain ⟨h1, h2 | ⟨br, h3, h4, h5, h6⟩⟩ := h
  · exact ⟨h1, .inl h2⟩
  · exact ⟨h1, .inr ⟨br, h3, h4, Nat.lt_of_lt_of_le h5 hb.size, h6.below hb h5⟩⟩
theorem ptsz : (Try.prog.info? 30).map (·.size) = some 2 := by kernel_rfl
def six : List Value := [.int .i64 0, .int .i64 0, .int .i64 0, .int .i64 0, .int .i64 0, .int .i64 0]
def nxt (R : List Pt) : List Value := (flat2 R).map (Value.int .i64) ++ six.drop (R.length * 2)
theorem copy_rim {W : World} {g : Nat} {x : Option Addr} {m rc : Nat} {R : List Pt} (hR : Rim W x m rc R) (hm2 : m ≤ 2) (hg : cb W g 97 six) :
    ∃ W', (Builtin.copy_ #[23, 23] 3 #[.slice (some ⟨g, 0, none⟩) 3 3, .slice x m rc]).run Try.prog W = .ok (.int .i64 (m : Int)) W' ∧ cb W' g 97 (nxt R) ∧ But g W W' := by
  obtain ⟨h1, ⟨rfl, rfl, rfl⟩ | ⟨br, rfl, h4, h5, h6⟩⟩ := hR
  · refine ⟨W, run_copy_nil Try.prog W 23 23 3 30 ⟨g, 0, none⟩ 3 3 Try.underlying23 (by rw [ptsz]; rfl), ?_, But.refl _ _⟩
    have : R = [] := List.eq_nil_of_length_eq_zero h1
    rw [this]
    exact hg
  · have hl : ((flat2 R).map (Value.int .i64)).length = Nat.min m 3 * 2 := by
      rw [List.length_map, flat2_len, h1]
      have : Nat.min m 3 = m := Nat.min_eq_left (by omega)
      rw [this]
    have hr := run_copy_k (P := Try.prog) W 23 23 3 30 2 g 3 3 ⟨br, 0, none⟩ m rc six.toArray 97 ((flat2 R).map (Value.int .i64)) Try.underlying23 ptsz hg hl
      (fun j v hv => by
        rw [add_none, Nat.zero_add]
        rw [List.getElem?_map] at hv
        cases hj : (flat2 R)[j]? with
        | none => rw [hj] at hv; cases hv
        | some q =>
          rw [hj] at hv
          have := h6 j q hj
          simp only [Option.map_some, Option.some.injEq] at hv
          rw [← hv]
          simpa using this)
      (by rw [hl]; have : Nat.min m 3 = m := Nat.min_eq_left (by omega); rw [this]; simp [six]; omega) ints_one
    have hmm : Nat.min m 3 = m := Nat.min_eq_left (by omega)
    rw [hmm] at hr hl
    refine ⟨_, hr, ?_, but_setRow _⟩
    have e := setRow_heap W g six.toArray ((flat2 R).map (Value.int .i64) ++ six.toArray.toList.drop ((flat2 R).map (Value.int .i64)).length).toArray 97 (0, 0) hg
    unfold cb nxt
    rw [e, hl, h1]
theorem cells_of {w : World} {b : Nat} {L : List Int} (h : IntsAt w b 0 L) {j : Nat} {x : Int} (hj : L[j]? = some x) : w.cell? ⟨b, j, none⟩ = some (.int .i64 x) := by
  have := h j x hj
  rwa [Nat.zero_add] at this
/-- circleThrough -/
theorem thrP_any (x : Option Addr) (m rc : Nat) (R : List Pt) (w : World) (hR : Rim w x m rc R) (hl : m ≤ 3) (hN : Nrl R) (hg : Gd R) :
    Calls Try.prog 65 #[.slice x m rc] w fun e w' => e = .returned (icV (thr R)) ∧ Below w.heap.size w w' := by
  have hnr := thr_nr hN hg
  obtain ⟨h1, ⟨rfl, rfl, rfl⟩ | ⟨br, rfl, h4, h5, h6⟩⟩ := hR
  · have : R = [] := List.eq_nil_of_length_eq_zero h1
    rw [this]
    exact thr0P w
  · match R, h1, h6, hN, hg, hnr with
    | [], h1, _, _, _, _ => exact absurd h1.symm h4
    | [a], h1, h6, hN, hg, hnr =>
      have h1' : m = 1 := h1.symm
      subst h1'
      have na := hN a (by simp)
      have nb := na
      obtain ⟨a1, a2, a3, a4⟩ := na
      exact thr1P_core br rc a.1 a.2 (red a.1 a.2 1).1 (red a.1 a.2 1).2.1 (red a.1 a.2 1).2.2 (aptS (red a.1 a.2 1) a) w (hide (cells_of h6 rfl)) (hide (cells_of h6 rfl))
        (hide fun X => spotP _ _ _ X (by omega) (by omega) (by omega) (by omega)) (hide fun X => apart_any ⟨(red a.1 a.2 1).1, (red a.1 a.2 1).2.1, (red a.1 a.2 1).2.2, 0⟩ a X hnr nb)
    | [a, p], h1, h6, hN, hg, hnr =>
      have h1' : m = 2 := h1.symm
      subst h1'
      have na := hN a (by simp)
      have nb := na
      obtain ⟨a1, a2, a3, a4⟩ := na
      obtain ⟨p1, p2, p3, p4⟩ := hN p (by simp)
      exact thr2P_core br rc a.1 a.2 p.1 p.2 (red (a.1 + p.1) (a.2 + p.2) 2).1 (red (a.1 + p.1) (a.2 + p.2) 2).2.1 (red (a.1 + p.1) (a.2 + p.2) 2).2.2 (aptS (red (a.1 + p.1) (a.2 + p.2) 2) a) w (hide (cells_of h6 rfl)) (hide (cells_of h6 rfl)) (hide (cells_of h6 rfl)) (hide (cells_of h6 rfl)) (hide (wr64 (by omega) (by omega))) (hide (wr64 (by omega) (by omega)))
        (hide fun X => spotP _ _ _ X (by omega) (by omega) (by omega) (by omega)) (hide fun X => apart_any ⟨(red (a.1 + p.1) (a.2 + p.2) 2).1, (red (a.1 + p.1) (a.2 + p.2) 2).2.1, (red (a.1 + p.1) (a.2 + p.2) 2).2.2, 0⟩ a X hnr nb)
    | [a, p, c], h1, h6, hN, hg, hnr =>
      have h1' : m = 3 := h1.symm
      subst h1'
      have na := hN a (by simp)
      exact thr3P_core br rc a.1 a.2 (ctr a p c).1 (ctr a p c).2.1 (ctr a p c).2.2 (aptS (ctr a p c) a) w (hide (cells_of h6 rfl)) (hide (cells_of h6 rfl))
        (hide fun X hX => cenP_any br a p c X na (hN p (by simp)) (hN c (by simp)) hg (cells_of (h6.below hX h5) rfl) (cells_of (h6.below hX h5) rfl) (cells_of (h6.below hX h5) rfl) (cells_of (h6.below hX h5) rfl) (cells_of (h6.below hX h5) rfl) (cells_of (h6.below hX h5) rfl))
        (hide fun X => apart_any ⟨(ctr a p c).1, (ctr a p c).2.1, (ctr a p c).2.2, 0⟩ a X hnr na)
    | a :: p :: c :: d :: T, h1, _, _, _, _ => simp at h1; omega
end Go.Proofs.Ytdcecfgmfmpeeaa

namespace Go.Proofs.Ytdcecfgmfmpeeaa
open Go.ChangeShapes Go.WideShapes Go.ChangeAt Go.RowKit
set_option linter.unusedVariables false
set_option linter.unusedSimpArgs false

def z4 : List Value := [.int .i64 0, .int .i64 0, .int .i64 0, .int .i64 0]
def icL (c : Ic) : List Value := [.int .i64 c.X, .int .i64 c.Y, .int .i64 c.D, .int .i64 c.N]
theorem But.cb {g g' t : Nat} {w w' : World} {vs : List Value} (h : But g w w') (hg : g' ≠ g) (k : cb w g' t vs) : cb w' g' t vs := (h.block g' hg).trans k
set_option maxHeartbeats 4000000 in
set_option maxRecDepth 100000 in
/-- with three on the rim the circle is known -/
theorem smP_three (b cap n rc br : Nat) (c : Ic) (w : World) (HT : Hid (∀ X : World, Below w.heap.size w X → Calls Try.prog 65 #[.slice (some ⟨br, 0, none⟩) 3 rc] X fun e w' => e = .returned (icV c) ∧ Below X.heap.size X w')) :
    Calls Try.prog 40 #[.slice (some ⟨b, 0, none⟩) n cap, .slice (some ⟨br, 0, none⟩) 3 rc] w fun e w' => e = .returned (icV c) ∧ Below w.heap.size w w' := by
  have K0 : Hid (Below w.heap.size w (w.alloc (.cells #[.int .i64 0, .int .i64 0, .int .i64 0, .int .i64 0] 72))) := hide (ba (Below.refl _ _) _)
  have R4 : Hid (cb (w.alloc (.cells #[.int .i64 0, .int .i64 0, .int .i64 0, .int .i64 0] 72)) w.heap.size 72 z4) := hide (cb_new w 72 z4 _ rfl)
  obtain ⟨X, Y, D, N⟩ := c
  go_enter Try.func40, Try.ntmps40
  go_wp2_with fail
  generalize w.alloc (.cells #[.int .i64 0, .int .i64 0, .int .i64 0, .int .i64 0] 72) = V0 at *
  refine (unhide HT _ (unhide K0)).mono ?_
  rintro e V1 ⟨rfl, hB1⟩
  unfold icV
  simp only
  have hA : Below V1.heap.size V1 (V1.alloc (.cells #[.int .i64 X, .int .i64 Y, .int .i64 D, .int .i64 N] 72)) := ba (Below.refl _ _) _
  have K1 := hide (bc (unhide K0) (bc hB1 hA))
  have R4a := hide ((unhide R4).bel (bc hB1 hA))
  have R5 : Hid (cb (V1.alloc (.cells #[.int .i64 X, .int .i64 Y, .int .i64 D, .int .i64 N] 72)) V1.heap.size 72 [.int .i64 X, .int .i64 Y, .int .i64 D, .int .i64 N]) := hide (cb_new V1 72 _ _ rfl)
  clear hB1 hA K0 R4
  go_upto_region 2 with fail
  generalize V1.alloc (.cells #[.int .i64 X, .int .i64 Y, .int .i64 D, .int .i64 N] 72) = V2 at *
  generalize V1.heap.size = g5 at *
  have c0 := (unhide R5).cell (m := 0) rfl
  have c1 := (unhide R5).cell (m := 1) rfl
  have c2 := (unhide R5).cell (m := 2) rfl
  have c3 := (unhide R5).cell (m := 3) rfl
  have d0 := (unhide R4a).cell (m := 0) rfl
  have d1 := (unhide R4a).cell (m := 1) rfl
  have d2 := (unhide R4a).cell (m := 2) rfl
  have d3 := (unhide R4a).cell (m := 3) rfl
  have f4 := (unhide R4a).frozen
  go_wp2_with fail
  have T := ((((unhide R4a).set 0 (.int .i64 X)).set 1 (.int .i64 Y)).set 2 (.int .i64 D)).set 3 (.int .i64 N)
  have hBV : Below w.heap.size w ((((V2.setCell ⟨w.heap.size, 0, none⟩ (.int .i64 X)).setCell ⟨w.heap.size, 1, none⟩ (.int .i64 Y)).setCell ⟨w.heap.size, 2, none⟩ (.int .i64 D)).setCell ⟨w.heap.size, 3, none⟩ (.int .i64 N)) :=
    Below.setCell (Below.setCell (Below.setCell (Below.setCell (unhide K1) (Nat.le_refl _) _) (Nat.le_refl _) _) (Nat.le_refl _) _) (Nat.le_refl _) _
  generalize ((((V2.setCell ⟨w.heap.size, 0, none⟩ (.int .i64 X)).setCell ⟨w.heap.size, 1, none⟩ (.int .i64 Y)).setCell ⟨w.heap.size, 2, none⟩ (.int .i64 D)).setCell ⟨w.heap.size, 3, none⟩ (.int .i64 N)) = V9 at *
  have s0 := T.cell (m := 0) rfl
  have s1 := T.cell (m := 1) rfl
  have s2 := T.cell (m := 2) rfl
  have s3 := T.cell (m := 3) rfl
  have ls := T.lt
  refine bodyPost_ret (v := .agg #[.int .i64 X, .int .i64 Y, .int .i64 D, .int .i64 N]) (by simp [results, Try.results40, go_sem, s0, s1, s2, s3, ls]) rfl ⟨rfl, hBV⟩
set_option maxHeartbeats 4000000 in
set_option maxRecDepth 100000 in
/-- with fewer: point by point -/
theorem smP_loop (b cap n m rc : Nat) (x : Option Addr) (P R : List Pt) (C : Nat → Ic) (w : World) (HL : Hid (P.length = n)) (hn : n ≤ 200) (hcap : n ≤ cap) (hm2 : m ≤ 2) (hb : b < w.heap.size) (HI : Hid (IntsAt w b 0 (flat2 P))) (HR : Hid (Rim w x m rc R)) (HN : Hid (Nrl P))
    (HC : Hid (∀ i, i ≤ n → NrS ((C i).X, (C i).Y, (C i).D)))
    (HT : Hid (∀ X : World, Below w.heap.size w X → Calls Try.prog 65 #[.slice x m rc] X fun e w' => e = .returned (icV (C 0)) ∧ Below X.heap.size X w'))
    (HF : Hid (∀ i X g, i < n → Below w.heap.size w X → (C i).N < apt (C i) (ptAt P i) → cb X g 97 ((((nxt R).set (m * 2) (.int .i64 (ptAt P i).1)).set (m * 2 + 1) (.int .i64 (ptAt P i).2))) → Calls Try.prog 40 #[.slice (some ⟨b, 0, none⟩) i cap, .slice (some ⟨g, 0, none⟩) (m + 1) 3] X fun e w' => e = .returned (icV (C (i + 1))) ∧ Below X.heap.size X w'))
    (HS : Hid (∀ i, i < n → ¬ (C i).N < apt (C i) (ptAt P i) → C (i + 1) = C i)) :
    Calls Try.prog 40 #[.slice (some ⟨b, 0, none⟩) n cap, .slice x m rc] w fun e w' => e = .returned (icV (C n)) ∧ Below w.heap.size w w' := by
  have K0 : Hid (Below w.heap.size w (w.alloc (.cells #[.int .i64 0, .int .i64 0, .int .i64 0, .int .i64 0] 72))) := hide (ba (Below.refl _ _) _)
  have R4 : Hid (cb (w.alloc (.cells #[.int .i64 0, .int .i64 0, .int .i64 0, .int .i64 0] 72)) w.heap.size 72 z4) := hide (cb_new w 72 z4 _ rfl)
  have m3 : decide ((m : Int) = 3) = false := decide_eq_false (by omega)
  have m3' : ¬ (m : Int) = 3 := by omega
  have mb : ((m : Int) == 3) = false := beq_eq_false_iff_ne.2 m3'
  obtain ⟨X0, hX0⟩ : ∃ q, C 0 = q := ⟨_, rfl⟩
  rw [hX0] at HT
  have HX0 := hide hX0
  obtain ⟨X, Y, D, N⟩ := X0
  clear hX0
  go_enter Try.func40, Try.ntmps40
  go_wp2_with fail
  generalize w.alloc (.cells #[.int .i64 0, .int .i64 0, .int .i64 0, .int .i64 0] 72) = V0 at *
  refine (unhide HT _ (unhide K0)).mono ?_
  rintro e V1 ⟨rfl, hB1⟩
  unfold icV
  simp only
  have hA : Below V1.heap.size V1 (V1.alloc (.cells #[.int .i64 X, .int .i64 Y, .int .i64 D, .int .i64 N] 72)) := ba (Below.refl _ _) _
  have K1 := hide (bc (unhide K0) (bc hB1 hA))
  have R4a := hide ((unhide R4).bel (bc hB1 hA))
  have R5 : Hid (cb (V1.alloc (.cells #[.int .i64 X, .int .i64 Y, .int .i64 D, .int .i64 N] 72)) V1.heap.size 72 (icL (C 0))) := hide (by rw [unhide HX0]; exact cb_new V1 72 _ _ rfl)
  have hg5 : w.heap.size < V1.heap.size := Nat.lt_of_lt_of_le (unhide R4).lt hB1.size
  clear hB1 hA K0 R4 HX0
  go_upto_region 2 with fail
  generalize V1.alloc (.cells #[.int .i64 X, .int .i64 Y, .int .i64 D, .int .i64 N] 72) = V2 at *
  generalize V1.heap.size = g5 at *
  go_wp2_with fail
  go_loopw [18] (fun z X => ∃ i : Nat, z = .int .i64 (i : Int) ∧ i ≤ n ∧ cb X g5 72 (icL (C i)) ∧ cb X w.heap.size 72 z4 ∧ Below w.heap.size w X) (fun z _ => n - (intOf z).toNat)
  case atStart => exact ⟨0, rfl, Nat.zero_le _, unhide R5, unhide R4a, unhide K1⟩
  case round =>
    obtain ⟨i, rfl, hi, h5, h4, hw⟩ := hrel
    have H5 := hide h5
    have H4 := hide h4
    have HW := hide hw
    clear h5 h4 hw
    by_cases h : i < n
    · have i1 : (i : Int) < (n : Int) := by omega
      have i0 : (0 : Int) ≤ (i : Int) := Int.natCast_nonneg _
      have iz : decide ((i : Int) < (n : Int)) = true := decide_eq_true i1
      have hx := ptAt_some (L := P) (i := i) (by rw [unhide HL]; exact h)
      have hnr := (unhide HN).at (i := i) (by rw [unhide HL]; exact h)
      have HFi := hide (fun X g hX => unhide HF i X g h hX)
      have HSi := hide (unhide HS i h)
      have hci := unhide HC i hi
      obtain ⟨⟨px, py⟩, hxy⟩ : ∃ q, ptAt P i = q := ⟨_, rfl⟩
      rw [hxy] at hx hnr HFi HSi
      obtain ⟨c0, c1⟩ := pts_at ((unhide HI).below (unhide HW) hb) hx
      have HAP := hide (fun Xw => apart_any (C i) (px, py) Xw hci hnr)
      obtain ⟨ap, hap⟩ : ∃ ap, apt (C i) (px, py) = ap := ⟨_, rfl⟩
      rw [hap] at HAP HFi HSi
      have KX : Hid (Below w.heap.size w (wr.alloc (.cells #[.int .i64 px, .int .i64 py] 30))) := hide (ba (unhide HW) _)
      have X5 : Hid (cb (wr.alloc (.cells #[.int .i64 px, .int .i64 py] 30)) g5 72 (icL (C i))) := hide ((unhide H5).bel (ba (Below.refl _ _) _))
      have X4 : Hid (cb (wr.alloc (.cells #[.int .i64 px, .int .i64 py] 30)) w.heap.size 72 z4) := hide ((unhide H4).bel (ba (Below.refl _ _) _))
      have X7 : Hid (cb (wr.alloc (.cells #[.int .i64 px, .int .i64 py] 30)) wr.heap.size 30 [.int .i64 px, .int .i64 py]) := hide (cb_new wr 30 _ _ rfl)
      have h57 : g5 < wr.heap.size := (unhide H5).lt
      clear hx hxy hnr hci hap H5 H4 HW
      go_wp2_with fail
      generalize wr.alloc (.cells #[.int .i64 px, .int .i64 py] 30) = Wx at *
      generalize wr.heap.size = g7 at *
      clear c0 c1
      refine Go.Code.wp_mono (Only.to (fun _ _ h => h)) (sm7 (X := (C i).X) (Y := (C i).Y) (D := (C i).D) (N := (C i).N) (x := px) (y := py) (r := ap) (hide ((unhide X5).cell (m := 0) rfl)) (hide ((unhide X5).cell (m := 1) rfl)) (hide ((unhide X5).cell (m := 2) rfl)) (hide ((unhide X5).cell (m := 3) rfl)) (hide ((unhide X7).cell (m := 0) rfl)) (hide ((unhide X7).cell (m := 1) rfl)) (hide fun Xw _ => unhide HAP Xw) (fun Wy hBy => ?_))
      have KY := hide (bc (unhide KX) hBy)
      have Y5 := hide ((unhide X5).bel hBy)
      have Y4 := hide ((unhide X4).bel hBy)
      have Y7 := hide ((unhide X7).bel hBy)
      clear hBy KX X5 X4 X7 HAP
      by_cases hout : (C i).N < ap
      · have do1 : decide ((C i).N < ap) = true := decide_eq_true hout
        have G8 : Hid (cb (Wy.alloc (.cells #[.int .i64 0, .int .i64 0, .int .i64 0, .int .i64 0, .int .i64 0, .int .i64 0] 97)) Wy.heap.size 97 six) := hide (cb_new Wy 97 six _ rfl)
        have hAl : Below Wy.heap.size Wy (Wy.alloc (.cells #[.int .i64 0, .int .i64 0, .int .i64 0, .int .i64 0, .int .i64 0, .int .i64 0] 97)) := ba (Below.refl _ _) _
        have hRy : Rim (Wy.alloc (.cells #[.int .i64 0, .int .i64 0, .int .i64 0, .int .i64 0, .int .i64 0, .int .i64 0] 97)) x m rc R := (unhide HR).bel (bc (unhide KY) hAl)
        obtain ⟨W', hcp, hnx, hbt⟩ := copy_rim hRy hm2 (unhide G8)
        have hg85 : g5 < Wy.heap.size := (unhide Y5).lt
        have hg84 : w.heap.size < Wy.heap.size := (unhide Y4).lt
        have hg87 : g7 < Wy.heap.size := (unhide Y7).lt
        have Z5 : Hid (cb W' g5 72 (icL (C i))) := hide (hbt.cb (by omega) ((unhide Y5).bel hAl))
        have Z4 : Hid (cb W' w.heap.size 72 z4) := hide (hbt.cb (by omega) ((unhide Y4).bel hAl))
        have Z7 := hbt.cb (g' := g7) (by omega) ((unhide Y7).bel hAl)
        have KZ : Hid (Below w.heap.size w W') := hide ((ba (unhide KY) _).trans (hbt.bel (by omega)))
        have q7 := Z7.cell (m := 0) rfl
        have q8 := Z7.cell (m := 1) rfl
        have hlN : (nxt R).length = 6 := by
          unfold nxt
          rw [List.length_append, List.length_map, flat2_len, List.length_drop, (unhide HR).1]
          simp [six]
          omega
        obtain ⟨o0, ho0⟩ : ∃ v, (nxt R)[m * 2]? = some v := ⟨_, List.getElem?_eq_getElem (by omega)⟩
        obtain ⟨o1, ho1⟩ : ∃ v, (nxt R)[m * 2 + 1]? = some v := ⟨_, List.getElem?_eq_getElem (by omega)⟩
        have q9 := hnx.cell ho0
        have q10 := hnx.cell ho1
        have fz := hnx.frozen
        have lg := hnx.lt
        have mi : (m : Int) < 3 := by omega
        have HNX := hide hnx
        clear hAl hRy hbt Z7 hnx ho0 ho1 hlN G8 Y5 Y4 Y7 KY
        go_wp2_with fail
        have U8 := hide (((unhide HNX).set (m * 2) (.int .i64 px)).set (m * 2 + 1) (.int .i64 py))
        have U5 := hide (((unhide Z5).ne (g' := Wy.heap.size) (o := m * 2) (x := .int .i64 px) (by omega)).ne (g' := Wy.heap.size) (o := m * 2 + 1) (x := .int .i64 py) (by omega))
        have U4 := hide (((unhide Z4).ne (g' := Wy.heap.size) (o := m * 2) (x := .int .i64 px) (by omega)).ne (g' := Wy.heap.size) (o := m * 2 + 1) (x := .int .i64 py) (by omega))
        have KU : Hid (Below w.heap.size w ((W'.setCell ⟨Wy.heap.size, m * 2, none⟩ (.int .i64 px)).setCell ⟨Wy.heap.size, m * 2 + 1, none⟩ (.int .i64 py))) := hide (Below.setCell (Below.setCell (unhide KZ) (Nat.le_of_lt hg84) _) (Nat.le_of_lt hg84) _)
        clear q7 q8 q9 q10 fz lg HNX Z5 Z4 KZ hcp
        generalize (W'.setCell ⟨Wy.heap.size, m * 2, none⟩ (.int .i64 px)).setCell ⟨Wy.heap.size, m * 2 + 1, none⟩ (.int .i64 py) = Wu at *
        generalize Wy.heap.size = g8 at *
        have hw1 : IntKind.i64.wrap ((m : Int) + 1) = ((m + 1 : Nat) : Int) := (wr64 (by omega) (by omega)).trans (by omega)
        have l5 := (unhide U5).lt
        obtain ⟨c2, hc2⟩ : ∃ c2, C (i + 1) = c2 := ⟨_, rfl⟩
        rw [hc2] at HFi
        have HC2 := hide hc2
        obtain ⟨X2, Y2, D2, N2⟩ := c2
        refine Go.Code.wp_mono (Only.to (fun _ _ h => h)) (sm11 (m1 := m + 1) (X := X2) (Y := Y2) (D := D2) (N := N2) (by omega) (by omega) l5 (hide ((unhide U5).cell (m := 0) rfl)) (hide ((unhide U5).cell (m := 1) rfl)) (hide ((unhide U5).cell (m := 2) rfl)) (hide ((unhide U5).cell (m := 3) rfl)) (hide (unhide U5).frozen) (hide hw1) (hide fun Xw hX => unhide HFi Xw g8 (bc (unhide KU) hX) hout ((unhide U8).bel hX)) (fun W1 W9 hW9 hB9 => ?_))
        have Q5 : Hid (cb W9 g5 72 (icL (C (i + 1)))) := hide (by rw [hW9, unhide HC2]; exact (((((unhide U5).bel hB9).set 0 (.int .i64 X2)).set 1 (.int .i64 Y2)).set 2 (.int .i64 D2)).set 3 (.int .i64 N2))
        have Q4 : Hid (cb W9 w.heap.size 72 z4) := hide (by rw [hW9]; exact (((((unhide U4).bel hB9).ne (by omega)).ne (by omega)).ne (by omega)).ne (by omega))
        have KQ : Hid (Below w.heap.size w W9) := hide (by rw [hW9]; exact Below.setCell (Below.setCell (Below.setCell (Below.setCell (bc (unhide KU) hB9) (Nat.le_of_lt hg5) _) (Nat.le_of_lt hg5) _) (Nat.le_of_lt hg5) _) (Nat.le_of_lt hg5) _)
        clear hW9 hB9 hc2
        try go_wp2_with fail
        go_roundw
        case rel => exact ⟨i + 1, by simp, h, unhide Q5, unhide Q4, unhide KQ⟩
        case measure => simp only [intOf]; omega
      · have do1 : decide ((C i).N < ap) = false := decide_eq_false hout
        go_wp2_with fail
        go_roundw
        case rel => exact ⟨i + 1, by simp, h, by rw [unhide HSi (by omega)]; exact unhide Y5, unhide Y4, unhide KY⟩
        case measure => simp only [intOf]; omega
    · obtain rfl : n = i := by omega
      have i1 : ¬ (n : Int) < (n : Int) := by omega
      have iz : decide ((n : Int) < (n : Int)) = false := decide_eq_false i1
      obtain ⟨cn, hcn⟩ : ∃ cn, C n = cn := ⟨_, rfl⟩
      rw [hcn] at H5
      have HCN := hide hcn
      obtain ⟨X2, Y2, D2, N2⟩ := cn
      have c0 := (unhide H5).cell (m := 0) rfl
      have c1 := (unhide H5).cell (m := 1) rfl
      have c2 := (unhide H5).cell (m := 2) rfl
      have c3 := (unhide H5).cell (m := 3) rfl
      have d0 := (unhide H4).cell (m := 0) rfl
      have d1 := (unhide H4).cell (m := 1) rfl
      have d2 := (unhide H4).cell (m := 2) rfl
      have d3 := (unhide H4).cell (m := 3) rfl
      have f4 := (unhide H4).frozen
      simp only at c0 c1 c2 c3
      clear hcn
      go_wp2_with fail
      have T := ((((unhide H4).set 0 (.int .i64 X2)).set 1 (.int .i64 Y2)).set 2 (.int .i64 D2)).set 3 (.int .i64 N2)
      have hBV : Below w.heap.size w ((((wr.setCell ⟨w.heap.size, 0, none⟩ (.int .i64 X2)).setCell ⟨w.heap.size, 1, none⟩ (.int .i64 Y2)).setCell ⟨w.heap.size, 2, none⟩ (.int .i64 D2)).setCell ⟨w.heap.size, 3, none⟩ (.int .i64 N2)) :=
        Below.setCell (Below.setCell (Below.setCell (Below.setCell (unhide HW) (Nat.le_refl _) _) (Nat.le_refl _) _) (Nat.le_refl _) _) (Nat.le_refl _) _
      generalize ((((wr.setCell ⟨w.heap.size, 0, none⟩ (.int .i64 X2)).setCell ⟨w.heap.size, 1, none⟩ (.int .i64 Y2)).setCell ⟨w.heap.size, 2, none⟩ (.int .i64 D2)).setCell ⟨w.heap.size, 3, none⟩ (.int .i64 N2)) = V9 at *
      have s0 := T.cell (m := 0) rfl
      have s1 := T.cell (m := 1) rfl
      have s2 := T.cell (m := 2) rfl
      have s3 := T.cell (m := 3) rfl
      have ls := T.lt
      refine bodyPost_ret (v := .agg #[.int .i64 X2, .int .i64 Y2, .int .i64 D2, .int .i64 N2]) (by simp [results, Try.results40, go_sem, s0, s1, s2, s3, ls]) rfl ⟨by rw [unhide HCN]; rfl, hBV⟩
theorem flat2_snoc (R : List Pt) (p : Pt) : flat2 (R ++ [p]) = flat2 R ++ [p.1, p.2] := by simp [flat2]
theorem nxt_ints {w : World} {g m : Nat} {R : List Pt} {p : Pt} (hm : R.length = m) (hm2 : m ≤ 2) (h : cb w g 97 (((nxt R).set (m * 2) (.int .i64 p.1)).set (m * 2 + 1) (.int .i64 p.2))) : IntsAt w g 0 (flat2 (R ++ [p])) := by
  intro j x hj
  rw [Nat.zero_add]
  refine h.cell ?_
  rw [flat2_snoc] at hj
  have hl : (flat2 R).length = m * 2 := by rw [flat2_len, hm]
  have hN : (nxt R).length = 6 := by
    unfold nxt
    rw [List.length_append, List.length_map, hl, List.length_drop, hm]
    simp [six]
    omega
  rcases Nat.lt_or_ge j (m * 2) with hlt | hge
  · rw [List.getElem?_set_ne (by omega), List.getElem?_set_ne (by omega)]
    rw [List.getElem?_append_left (by omega)] at hj
    unfold nxt
    rw [List.getElem?_append_left (by rw [List.length_map, hl]; exact hlt), List.getElem?_map, hj]
    rfl
  · rw [List.getElem?_append_right (by omega), hl] at hj
    rcases Nat.lt_or_ge (j - m * 2) 1 with h1 | h1
    · have e0 : j = m * 2 := by omega
      subst e0
      simp only [Nat.sub_self] at hj
      rw [List.getElem?_set_ne (by omega), List.getElem?_set_self (by omega)]
      simp at hj
      rw [hj]
    · rcases Nat.lt_or_ge (j - m * 2) 2 with h2 | h2
      · have e0 : j = m * 2 + 1 := by omega
        subst e0
        have : m * 2 + 1 - m * 2 = 1 := by omega
        rw [this] at hj
        rw [List.getElem?_set_self (by rw [List.length_set]; omega)]
        simp at hj
        rw [hj]
      · rw [List.getElem?_eq_none (by simp; omega)] at hj
        cases hj
/-- smallestCircle -/
theorem smP_any : ∀ (k : Nat) (b cap n m rc : Nat) (x : Option Addr) (P R : List Pt) (w : World), m + k = 3 → P.length = n → n ≤ 200 → n ≤ cap → b < w.heap.size → IntsAt w b 0 (flat2 P) → Rim w x m rc R → Nrl P → Nrl R → Gd R → (∃ c, Fea P R c) →
    Calls Try.prog 40 #[.slice (some ⟨b, 0, none⟩) n cap, .slice x m rc] w fun e w' => e = .returned (icV (smc k P R)) ∧ Below w.heap.size w w' := by
  intro k
  induction k with
  | zero =>
    intro b cap n m rc x P R w hk hl hn hcap hb hI hR hP hRn hg hF
    have hm : m = 3 := by omega
    subst hm
    have HT := hide (fun (X : World) (hX : Below w.heap.size w X) => thrP_any x 3 rc R X (hR.bel hX) (Nat.le_refl _) hRn hg)
    obtain ⟨h1, ⟨_, h0, _⟩ | ⟨br, rfl, h4, h5, h6⟩⟩ := hR
    · cases h0
    · exact smP_three b cap n rc br (thr R) w HT
  | succ k ih =>
    intro b cap n m rc x P R w hk hl hn hcap hb hI hR hP hRn hg hF
    have hlR : R.length + (k + 1) = 3 := by rw [hR.1]; omega
    have key := smP_loop b cap n m rc x P R (smcI (smc k) P R) w (hide hl) hn hcap (by omega) hb (hide hI) (hide hR) (hide hP)
      (hide fun i hi => (smc_nr (k + 1) P R hlR hg hF hP hRn).2 k rfl i (by omega))
      (hide fun X hX => thrP_any x m rc R X (hR.bel hX) (by omega) hRn hg)
      (hide fun i X g hi hX hout hcb => by
        obtain ⟨g1, f1⟩ := smc_next k P R hlR hg hF i (by omega) hout
        have e : smcI (smc k) P R (i + 1) = smc k (P.take i) (R ++ [ptAt P i]) := by
          show (if _ then _ else _) = _
          rw [if_pos hout]
        rw [e]
        have hlt : (P.take i).length = i := by rw [List.length_take, Nat.min_eq_left (by omega)]
        refine ih b cap i (m + 1) 3 (some ⟨g, 0, none⟩) (P.take i) (R ++ [ptAt P i]) X (by omega) hlt (by omega) (by omega) (Nat.lt_of_lt_of_le hb hX.size) ?_ ⟨by rw [List.length_append, hR.1]; rfl, .inr ⟨g, rfl, by omega, hcb.lt, nxt_ints hR.1 (by omega) hcb⟩⟩ (hP.take i) (hRn.snoc (hP.at (by omega))) g1 f1
        have hIX := hI.below hX hb
        intro j q hj
        refine hIX j q ?_
        have ef : flat2 P = flat2 (P.take i) ++ flat2 (P.drop i) := by rw [← flat2_app, List.take_append_drop]
        rw [ef, List.getElem?_append_left (List.getElem?_eq_some_iff.1 hj).1]
        exact hj)
      (hide fun i hi hout => by
        show (if _ then _ else _) = _
        rw [if_neg hout])
    rw [show smc (k + 1) P R = smcI (smc k) P R n by rw [← hl]; rfl]
    exact key
end Go.Proofs.Ytdcecfgmfmpeeaa

namespace Go.Proofs.Ytdcecfgmfmpeeaa
open Go.ChangeShapes Go.WideShapes Go.ChangeAt Go.RowKit
set_option linter.unusedVariables false
set_option linter.unusedSimpArgs false

noncomputable def rg67 (id : Nat) : Go.Code := match Try.f67.body with | some c => (regOfZ id c).getD .skip | none => .skip
noncomputable def rg68 (id : Nat) : Go.Code := match Try.f68.body with | some c => (regOfZ id c).getD .skip | none => .skip
theorem ite4 {α : Type} (p q r s : Prop) [Decidable p] [Decidable q] [Decidable r] [Decidable s] (x : Bool → α) : (if p then if q then if r then if s then x true else x false else x false else x false else x false) = x (decide p && (decide q && (decide r && decide s))) := by
  by_cases hp : p <;> by_cases hq : q <;> by_cases hr : r <;> by_cases hs : s <;> simp [hp, hq, hr, hs]
theorem eq72 (a b c d a' b' c' d' : Int) (W : World) : (binOp .eql 72 (.agg #[.int .i64 a, .int .i64 b, .int .i64 c, .int .i64 d]) (.agg #[.int .i64 a', .int .i64 b', .int .i64 c', .int .i64 d'])).run Try.prog W = .ok (.bool (decide (a = a' ∧ b = b' ∧ c = c' ∧ d = d'))) W := by
  cases h1 : a == a' <;> cases h2 : b == b' <;> cases h3 : c == c' <;> cases h4 : d == d'
  all_goals
    have k1 := h1
    have k2 := h2
    have k3 := h3
    have k4 := h4
    simp only [beq_eq_false_iff_ne, beq_iff_eq] at k1 k2 k3 k4
    have e : decide (a = a' ∧ b = b' ∧ c = c' ∧ d = d') = (a == a' && b == b' && c == c' && d == d') := by simp [k1, k2, k3, k4]
    rw [e, h1, h2, h3, h4]
    clear e k1 k2 k3 k4
    go_simp
set_option maxHeartbeats 4000000 in
set_option maxRecDepth 100000 in
theorem on5t {s0 s3 s4 s5 s8 s9 s10 s11 s12 s13 s14 s15 s16 s17 s18 s19 s20 s21 s22 s23 s24 s25 s26 s27 s28 s29 s30 s31 s32 s33 : Value} {b b2 b7 n cap i j : Nat} {X Y D N x y r : Int} {V : World} {K_ : Act → World → Prop} (hr : r = N)
    (H20 : Hid (V.cell? ⟨b2, 0, none⟩ = some (.int .i64 (X)))) (H21 : Hid (V.cell? ⟨b2, 1, none⟩ = some (.int .i64 (Y)))) (H22 : Hid (V.cell? ⟨b2, 2, none⟩ = some (.int .i64 (D)))) (H23 : Hid (V.cell? ⟨b2, 3, none⟩ = some (.int .i64 (N)))) (H70 : Hid (V.cell? ⟨b7, 0, none⟩ = some (.int .i64 (x)))) (H71 : Hid (V.cell? ⟨b7, 1, none⟩ = some (.int .i64 (y)))) 
    (HF2 : Hid (∀ Xw, Below V.heap.size V Xw → Calls Try.prog 66 #[.agg #[.int .i64 (X), .int .i64 (Y), .int .i64 (D), .int .i64 (N)], .agg #[.int .i64 (x), .int .i64 (y)]] Xw fun e w' => e = .returned (.int .i64 (r)) ∧ Below Xw.heap.size Xw w'))
    (HF9 : Hid (∀ Xw, Below V.heap.size V Xw → Calls Try.prog 53 #[.slice (some ⟨b, 0, none⟩) n cap, .agg #[.int .i64 (x), .int .i64 (y)]] Xw fun e w' => e = .returned (.int .i64 (j : Int)) ∧ Below Xw.heap.size Xw w'))
    (hQ : ∀ (W1 : World), Below V.heap.size V W1 → K_ { tmps := #[s0, .slice (some ⟨b, 0, none⟩) n cap, .pointer (some ⟨b2, 0, none⟩), s3, s4, s5, .int .i64 (i : Int), .pointer (some ⟨b7, 0, none⟩), s8, s9, s10, s11, s12, s13, s14, .agg #[.int .i64 (X), .int .i64 (Y), .int .i64 (D), .int .i64 (N)], .agg #[.int .i64 (x), .int .i64 (y)], .int .i64 (r), .pointer (some ⟨b2, 3, none⟩), .int .i64 (N), .bool (true), .bool (true), .slice (some ⟨b, 0, none⟩) n cap, .agg #[.int .i64 (x), .int .i64 (y)], .int .i64 (j : Int), .int .i64 (i : Int), .bool ((j : Int) == (i : Int)), .bool ((j : Int) == (i : Int)), s28, s29, s30, s31, s32, s33], defers := [] } W1) :
    Go.Code.wp Try.prog (rg67 5) (Only K_) { tmps := #[s0, .slice (some ⟨b, 0, none⟩) n cap, .pointer (some ⟨b2, 0, none⟩), s3, s4, s5, .int .i64 (i : Int), .pointer (some ⟨b7, 0, none⟩), s8, s9, s10, s11, s12, s13, s14, s15, s16, s17, s18, s19, s20, s21, s22, s23, s24, s25, s26, s27, s28, s29, s30, s31, s32, s33], defers := [] } V := by
  have HQ := hide hQ
  clear hQ
  have tm : (r == N) = true := beq_iff_eq.2 hr
  clear hr
  conv => arg 2; whnf
  refine wp_region_inv2 (fun Lb A W => ∃ (u0 u1 u2 u3 u4 u5 u6 u7 u8 u9 u10 u11 u12 : Bool) (dm : Nat), Lb = #[u0, u1, u2, u3, u4, u5, u6, u7, u8, u9, u10, u11, u12] ∧ A = ({ tmps := #[s0, .slice (some ⟨b, 0, none⟩) n cap, .pointer (some ⟨b2, 0, none⟩), s3, s4, s5, .int .i64 (i : Int), .pointer (some ⟨b7, 0, none⟩), s8, s9, s10, s11, s12, s13, s14, (bif u0 then .agg #[.int .i64 (X), .int .i64 (Y), .int .i64 (D), .int .i64 (N)] else s15), (bif u1 then .agg #[.int .i64 (x), .int .i64 (y)] else s16), (bif u2 then .int .i64 (r) else s17), (bif u3 then .pointer (some ⟨b2, 3, none⟩) else s18), (bif u4 then .int .i64 (N) else s19), (bif u5 then .bool (true) else s20), (bif u6 then .bool (true) else s21), (bif u7 then .slice (some ⟨b, 0, none⟩) n cap else s22), (bif u8 then .agg #[.int .i64 (x), .int .i64 (y)] else s23), (bif u9 then .int .i64 (j : Int) else s24), (bif u10 then .int .i64 (i : Int) else s25), (bif u11 then .bool ((j : Int) == (i : Int)) else s26), (bif u12 then .bool ((j : Int) == (i : Int)) else s27), s28, s29, s30, s31, s32, s33], defers := [] } : Act) ∧ Below V.heap.size V W ∧ (u2 = true → u0 = true ∧ u1 = true) ∧ (u4 = true → u3 = true) ∧ (u5 = true → u2 = true ∧ u4 = true) ∧ (u6 = true → u5 = true) ∧ (u7 = true → u6 = true) ∧ (u8 = true → u6 = true) ∧ (u9 = true → u7 = true ∧ u8 = true ∧ u6 = true) ∧ (u10 = true → u6 = true) ∧ (u11 = true → u9 = true ∧ u10 = true ∧ u6 = true) ∧ (u12 = true → u0 = true ∧ u1 = true ∧ u2 = true ∧ u3 = true ∧ u4 = true ∧ u5 = true ∧ u6 = true ∧ u7 = true ∧ u8 = true ∧ u9 = true ∧ u10 = true ∧ u11 = true)) (by kernel_rfl) (by kernel_rfl) ?h0 ?hstep ?hend
  case h0 =>
    exact ⟨false, false, false, false, false, false, false, false, false, false, false, false, false, 0, rfl, rfl, Below.drew (Below.refl _ _), (fun h => nomatch h), (fun h => nomatch h), (fun h => nomatch h), (fun h => nomatch h), (fun h => nomatch h), (fun h => nomatch h), (fun h => nomatch h), (fun h => nomatch h), (fun h => nomatch h), (fun h => nomatch h)⟩
  case hstep =>
    intro Lb A W hI
    obtain ⟨u0, hI⟩ := hI
    obtain ⟨u1, hI⟩ := hI
    obtain ⟨u2, hI⟩ := hI
    obtain ⟨u3, hI⟩ := hI
    obtain ⟨u4, hI⟩ := hI
    obtain ⟨u5, hI⟩ := hI
    obtain ⟨u6, hI⟩ := hI
    obtain ⟨u7, hI⟩ := hI
    obtain ⟨u8, hI⟩ := hI
    obtain ⟨u9, hI⟩ := hI
    obtain ⟨u10, hI⟩ := hI
    obtain ⟨u11, hI⟩ := hI
    obtain ⟨u12, hI⟩ := hI
    obtain ⟨dm, hI⟩ := hI
    obtain ⟨hLb, hI⟩ := hI
    obtain ⟨hA, hI⟩ := hI
    obtain ⟨kB, hI⟩ := hI
    obtain ⟨c2, hI⟩ := hI
    obtain ⟨c4, hI⟩ := hI
    obtain ⟨c5, hI⟩ := hI
    obtain ⟨c6, hI⟩ := hI
    obtain ⟨c7, hI⟩ := hI
    obtain ⟨c8, hI⟩ := hI
    obtain ⟨c9, hI⟩ := hI
    obtain ⟨c10, hI⟩ := hI
    obtain ⟨c11, hI⟩ := hI
    have kF := hI
    clear hI
    subst hLb
    subst hA
    have H_kB := hide kB
    have H_c2 := hide c2
    have H_c4 := hide c4
    have H_c5 := hide c5
    have H_c6 := hide c6
    have H_c7 := hide c7
    have H_c8 := hide c8
    have H_c9 := hide c9
    have H_c10 := hide c10
    have H_c11 := hide c11
    have H_kF := hide kF
    clear kB c2 c4 c5 c6 c7 c8 c9 c10 c11 kF
    refine ⟨?_, ?_, ?_, ?_, ?_, ?_, ?_, ?_, ?_, ?_, ?_, ?_, ?_, trivial⟩
    · intro h0 hd K hK
      have z : u0 = false := h0
      have z12_ : u12 = false := by
        cases hu : u12 with
        | false => rfl
        | true => exact nomatch z.symm.trans ((unhide H_kF hu).1)
      subst z12_
      subst z
      clear h0 hd
      rw [if_pos (by rfl)]
      have c0 := keep1 (unhide H_kB) (unhide H20)
      have c1 := keep1 (unhide H_kB) (unhide H21)
      have c2 := keep1 (unhide H_kB) (unhide H22)
      have c3 := keep1 (unhide H_kB) (unhide H23)
      go_simp
      exact unhide hK _ _ ⟨true, u1, u2, u3, u4, u5, u6, u7, u8, u9, u10, u11, false, dm, rfl, rfl, unhide H_kB, (fun h => ⟨rfl, (unhide H_c2 h).2⟩), unhide H_c4, unhide H_c5, unhide H_c6, unhide H_c7, unhide H_c8, unhide H_c9, unhide H_c10, unhide H_c11, (fun h => nomatch h)⟩
    · intro h0 hd K hK
      have z : u1 = false := h0
      have z12_ : u12 = false := by
        cases hu : u12 with
        | false => rfl
        | true => exact nomatch z.symm.trans ((unhide H_kF hu).2.1)
      subst z12_
      subst z
      clear h0 hd
      rw [if_pos (by rfl)]
      have c0 := keep1 (unhide H_kB) (unhide H70)
      have c1 := keep1 (unhide H_kB) (unhide H71)
      go_simp
      exact unhide hK _ _ ⟨u0, true, u2, u3, u4, u5, u6, u7, u8, u9, u10, u11, false, dm, rfl, rfl, unhide H_kB, (fun h => ⟨(unhide H_c2 h).1, rfl⟩), unhide H_c4, unhide H_c5, unhide H_c6, unhide H_c7, unhide H_c8, unhide H_c9, unhide H_c10, unhide H_c11, (fun h => nomatch h)⟩
    · intro h0 hd K hK
      have z : u2 = false := h0
      have z12_ : u12 = false := by
        cases hu : u12 with
        | false => rfl
        | true => exact nomatch z.symm.trans ((unhide H_kF hu).2.2.1)
      have zd : u0 = true ∧ u1 = true := by
        simp [Region.binds] at hd
        simp [hd]
      obtain ⟨rfl, rfl⟩ := zd
      subst z12_
      subst z
      clear h0 hd
      rw [if_pos (by rfl)]
      go_simp
      refine (unhide HF2 W (unhide H_kB)).mono ?_
      rintro e w8 ⟨rfl, hb8⟩
      exact unhide hK _ _ ⟨true, true, true, u3, u4, u5, u6, u7, u8, u9, u10, u11, false, dm, rfl, rfl, bc (unhide H_kB) hb8, (fun _ => ⟨rfl, rfl⟩), unhide H_c4, (fun h => ⟨rfl, (unhide H_c5 h).2⟩), unhide H_c6, unhide H_c7, unhide H_c8, unhide H_c9, unhide H_c10, unhide H_c11, (fun h => nomatch h)⟩
    · intro h0 hd K hK
      have z : u3 = false := h0
      have z12_ : u12 = false := by
        cases hu : u12 with
        | false => rfl
        | true => exact nomatch z.symm.trans ((unhide H_kF hu).2.2.2.1)
      subst z12_
      subst z
      clear h0 hd
      rw [if_pos (by rfl)]
      go_simp
      exact unhide hK _ _ ⟨u0, u1, u2, true, u4, u5, u6, u7, u8, u9, u10, u11, false, dm, rfl, rfl, unhide H_kB, unhide H_c2, (fun h => rfl), unhide H_c5, unhide H_c6, unhide H_c7, unhide H_c8, unhide H_c9, unhide H_c10, unhide H_c11, (fun h => nomatch h)⟩
    · intro h0 hd K hK
      have z : u4 = false := h0
      have z12_ : u12 = false := by
        cases hu : u12 with
        | false => rfl
        | true => exact nomatch z.symm.trans ((unhide H_kF hu).2.2.2.2.1)
      have zd : u3 = true := by
        simp [Region.binds] at hd
        simp [hd]
      obtain ⟨rfl⟩ := zd
      subst z12_
      subst z
      clear h0 hd
      rw [if_pos (by rfl)]
      have c0 := keep1 (unhide H_kB) (unhide H23)
      go_simp
      exact unhide hK _ _ ⟨u0, u1, u2, true, true, u5, u6, u7, u8, u9, u10, u11, false, dm, rfl, rfl, unhide H_kB, unhide H_c2, (fun _ => rfl), (fun h => ⟨(unhide H_c5 h).1, rfl⟩), unhide H_c6, unhide H_c7, unhide H_c8, unhide H_c9, unhide H_c10, unhide H_c11, (fun h => nomatch h)⟩
    · intro h0 hd K hK
      have z : u5 = false := h0
      have z12_ : u12 = false := by
        cases hu : u12 with
        | false => rfl
        | true => exact nomatch z.symm.trans ((unhide H_kF hu).2.2.2.2.2.1)
      have zd : u2 = true ∧ u4 = true := by
        simp [Region.binds] at hd
        simp [hd]
      obtain ⟨rfl, rfl⟩ := zd
      subst z12_
      subst z
      clear h0 hd
      rw [if_pos (by rfl)]
      go_simp
      exact unhide hK _ _ ⟨u0, u1, true, u3, true, true, u6, u7, u8, u9, u10, u11, false, dm, rfl, rfl, unhide H_kB, unhide H_c2, unhide H_c4, (fun _ => ⟨rfl, rfl⟩), (fun h => rfl), unhide H_c7, unhide H_c8, unhide H_c9, unhide H_c10, unhide H_c11, (fun h => nomatch h)⟩
    · intro h0 hd K hK
      have z : u6 = false := h0
      have z12_ : u12 = false := by
        cases hu : u12 with
        | false => rfl
        | true => exact nomatch z.symm.trans ((unhide H_kF hu).2.2.2.2.2.2.1)
      have zd : u5 = true := by
        simp [Region.binds] at hd
        simp [hd]
      obtain ⟨rfl⟩ := zd
      subst z12_
      subst z
      clear h0 hd
      rw [if_pos (by rfl)]
      go_simp
      exact unhide hK _ _ ⟨u0, u1, u2, u3, u4, true, true, u7, u8, u9, u10, u11, false, dm, rfl, rfl, unhide H_kB, unhide H_c2, unhide H_c4, unhide H_c5, (fun _ => rfl), (fun h => rfl), (fun h => rfl), (fun h => ⟨(unhide H_c9 h).1, (unhide H_c9 h).2.1, rfl⟩), (fun h => rfl), (fun h => ⟨(unhide H_c11 h).1, (unhide H_c11 h).2.1, rfl⟩), (fun h => nomatch h)⟩
    · intro h0 hd K hK
      have z : u7 = false := h0
      have z12_ : u12 = false := by
        cases hu : u12 with
        | false => rfl
        | true => exact nomatch z.symm.trans ((unhide H_kF hu).2.2.2.2.2.2.2.1)
      have zd : u6 = true := by
        simp [Region.binds] at hd
        simp [hd]
      obtain ⟨rfl⟩ := zd
      subst z12_
      subst z
      clear h0 hd
      rw [if_pos (by rfl)]
      go_simp
      exact unhide hK _ _ ⟨u0, u1, u2, u3, u4, u5, true, true, u8, u9, u10, u11, false, dm, rfl, rfl, unhide H_kB, unhide H_c2, unhide H_c4, unhide H_c5, unhide H_c6, (fun _ => rfl), (fun h => rfl), (fun h => ⟨rfl, (unhide H_c9 h).2.1, rfl⟩), (fun h => rfl), (fun h => ⟨(unhide H_c11 h).1, (unhide H_c11 h).2.1, rfl⟩), (fun h => nomatch h)⟩
    · intro h0 hd K hK
      have z : u8 = false := h0
      have z12_ : u12 = false := by
        cases hu : u12 with
        | false => rfl
        | true => exact nomatch z.symm.trans ((unhide H_kF hu).2.2.2.2.2.2.2.2.1)
      have zd : u6 = true := by
        simp [Region.binds] at hd
        simp [hd]
      obtain ⟨rfl⟩ := zd
      subst z12_
      subst z
      clear h0 hd
      rw [if_pos (by rfl)]
      have c0 := keep1 (unhide H_kB) (unhide H70)
      have c1 := keep1 (unhide H_kB) (unhide H71)
      go_simp
      exact unhide hK _ _ ⟨u0, u1, u2, u3, u4, u5, true, u7, true, u9, u10, u11, false, dm, rfl, rfl, unhide H_kB, unhide H_c2, unhide H_c4, unhide H_c5, unhide H_c6, (fun h => rfl), (fun _ => rfl), (fun h => ⟨(unhide H_c9 h).1, rfl, rfl⟩), (fun h => rfl), (fun h => ⟨(unhide H_c11 h).1, (unhide H_c11 h).2.1, rfl⟩), (fun h => nomatch h)⟩
    · intro h0 hd K hK
      have z : u9 = false := h0
      have z12_ : u12 = false := by
        cases hu : u12 with
        | false => rfl
        | true => exact nomatch z.symm.trans ((unhide H_kF hu).2.2.2.2.2.2.2.2.2.1)
      have zd : u7 = true ∧ u8 = true ∧ u6 = true := by
        simp [Region.binds] at hd
        simp [hd]
      obtain ⟨rfl, rfl, rfl⟩ := zd
      subst z12_
      subst z
      clear h0 hd
      rw [if_pos (by rfl)]
      go_simp
      refine (unhide HF9 W (unhide H_kB)).mono ?_
      rintro e w8 ⟨rfl, hb8⟩
      exact unhide hK _ _ ⟨u0, u1, u2, u3, u4, u5, true, true, true, true, u10, u11, false, dm, rfl, rfl, bc (unhide H_kB) hb8, unhide H_c2, unhide H_c4, unhide H_c5, unhide H_c6, (fun h => rfl), (fun h => rfl), (fun _ => ⟨rfl, rfl, rfl⟩), (fun h => rfl), (fun h => ⟨rfl, (unhide H_c11 h).2.1, rfl⟩), (fun h => nomatch h)⟩
    · intro h0 hd K hK
      have z : u10 = false := h0
      have z12_ : u12 = false := by
        cases hu : u12 with
        | false => rfl
        | true => exact nomatch z.symm.trans ((unhide H_kF hu).2.2.2.2.2.2.2.2.2.2.1)
      have zd : u6 = true := by
        simp [Region.binds] at hd
        simp [hd]
      obtain ⟨rfl⟩ := zd
      subst z12_
      subst z
      clear h0 hd
      rw [if_pos (by rfl)]
      go_simp
      exact unhide hK _ _ ⟨u0, u1, u2, u3, u4, u5, true, u7, u8, u9, true, u11, false, dm, rfl, rfl, unhide H_kB, unhide H_c2, unhide H_c4, unhide H_c5, unhide H_c6, (fun h => rfl), (fun h => rfl), (fun h => ⟨(unhide H_c9 h).1, (unhide H_c9 h).2.1, rfl⟩), (fun _ => rfl), (fun h => ⟨(unhide H_c11 h).1, rfl, rfl⟩), (fun h => nomatch h)⟩
    · intro h0 hd K hK
      have z : u11 = false := h0
      have z12_ : u12 = false := by
        cases hu : u12 with
        | false => rfl
        | true => exact nomatch z.symm.trans ((unhide H_kF hu).2.2.2.2.2.2.2.2.2.2.2)
      have zd : u9 = true ∧ u10 = true ∧ u6 = true := by
        simp [Region.binds] at hd
        simp [hd]
      obtain ⟨rfl, rfl, rfl⟩ := zd
      subst z12_
      subst z
      clear h0 hd
      rw [if_pos (by rfl)]
      go_simp
      exact unhide hK _ _ ⟨u0, u1, u2, u3, u4, u5, true, u7, u8, true, true, true, false, dm, rfl, rfl, unhide H_kB, unhide H_c2, unhide H_c4, unhide H_c5, unhide H_c6, (fun h => rfl), (fun h => rfl), (fun h => ⟨(unhide H_c9 h).1, (unhide H_c9 h).2.1, rfl⟩), (fun h => rfl), (fun _ => ⟨rfl, rfl, rfl⟩), (fun h => nomatch h)⟩
    · intro h0 hd K hK
      have z : u12 = false := h0
      have zd0 : u6 = true ∧ u11 = true := by
        simp [Region.binds] at hd
        simp [hd]
      have zd : u6 = true ∧ u11 = true ∧ u0 = true ∧ u1 = true ∧ u2 = true ∧ u3 = true ∧ u4 = true ∧ u5 = true ∧ u7 = true ∧ u8 = true ∧ u9 = true ∧ u10 = true := ⟨zd0.1, zd0.2, (unhide H_c2 (unhide H_c5 (unhide H_c6 zd0.1)).1).1, (unhide H_c2 (unhide H_c5 (unhide H_c6 zd0.1)).1).2, (unhide H_c5 (unhide H_c6 zd0.1)).1, (unhide H_c4 (unhide H_c5 (unhide H_c6 zd0.1)).2), (unhide H_c5 (unhide H_c6 zd0.1)).2, (unhide H_c6 zd0.1), (unhide H_c9 (unhide H_c11 zd0.2).1).1, (unhide H_c9 (unhide H_c11 zd0.2).1).2.1, (unhide H_c11 zd0.2).1, (unhide H_c11 zd0.2).2.1⟩
      obtain ⟨rfl, rfl, rfl, rfl, rfl, rfl, rfl, rfl, rfl, rfl, rfl, rfl⟩ := zd
      subst z
      clear h0 hd
      rw [if_pos (by rfl)]
      go_simp
      exact unhide hK _ _ ⟨true, true, true, true, true, true, true, true, true, true, true, true, true, dm, rfl, rfl, unhide H_kB, (fun _ => ⟨rfl, rfl⟩), (fun _ => rfl), (fun _ => ⟨rfl, rfl⟩), (fun _ => rfl), (fun _ => rfl), (fun _ => rfl), (fun _ => ⟨rfl, rfl, rfl⟩), (fun _ => rfl), (fun _ => ⟨rfl, rfl, rfl⟩), (fun _ => ⟨rfl, rfl, rfl, rfl, rfl, rfl, rfl, rfl, rfl, rfl, rfl, rfl⟩)⟩
  case hend =>
    intro Lb A W hI
    obtain ⟨u0, hI⟩ := hI
    obtain ⟨u1, hI⟩ := hI
    obtain ⟨u2, hI⟩ := hI
    obtain ⟨u3, hI⟩ := hI
    obtain ⟨u4, hI⟩ := hI
    obtain ⟨u5, hI⟩ := hI
    obtain ⟨u6, hI⟩ := hI
    obtain ⟨u7, hI⟩ := hI
    obtain ⟨u8, hI⟩ := hI
    obtain ⟨u9, hI⟩ := hI
    obtain ⟨u10, hI⟩ := hI
    obtain ⟨u11, hI⟩ := hI
    obtain ⟨u12, hI⟩ := hI
    obtain ⟨dm, hI⟩ := hI
    obtain ⟨hLb, hI⟩ := hI
    obtain ⟨hA, hI⟩ := hI
    obtain ⟨kB, hI⟩ := hI
    obtain ⟨c2, hI⟩ := hI
    obtain ⟨c4, hI⟩ := hI
    obtain ⟨c5, hI⟩ := hI
    obtain ⟨c6, hI⟩ := hI
    obtain ⟨c7, hI⟩ := hI
    obtain ⟨c8, hI⟩ := hI
    obtain ⟨c9, hI⟩ := hI
    obtain ⟨c10, hI⟩ := hI
    obtain ⟨c11, hI⟩ := hI
    have kF := hI
    clear hI
    subst hLb
    subst hA
    intro hL
    have hl : u0 = true ∧ u1 = true ∧ u2 = true ∧ u3 = true ∧ u4 = true ∧ u5 = true ∧ u6 = true ∧ u7 = true ∧ u8 = true ∧ u9 = true ∧ u10 = true ∧ u11 = true ∧ u12 = true := by
      have h2 := congrArg Array.toList hL
      simpa [List.replicate] using h2
    obtain ⟨rfl, rfl, rfl, rfl, rfl, rfl, rfl, rfl, rfl, rfl, rfl, rfl, rfl⟩ := hl
    exact unhide HQ  W kB

set_option maxHeartbeats 4000000 in
set_option maxRecDepth 100000 in
theorem on5f {s0 s3 s4 s5 s8 s9 s10 s11 s12 s13 s14 s15 s16 s17 s18 s19 s20 s21 s22 s23 s24 s25 s26 s27 s28 s29 s30 s31 s32 s33 : Value} {b b2 b7 n cap i j : Nat} {X Y D N x y r : Int} {V : World} {K_ : Act → World → Prop} (hr : ¬ r = N)
    (H20 : Hid (V.cell? ⟨b2, 0, none⟩ = some (.int .i64 (X)))) (H21 : Hid (V.cell? ⟨b2, 1, none⟩ = some (.int .i64 (Y)))) (H22 : Hid (V.cell? ⟨b2, 2, none⟩ = some (.int .i64 (D)))) (H23 : Hid (V.cell? ⟨b2, 3, none⟩ = some (.int .i64 (N)))) (H70 : Hid (V.cell? ⟨b7, 0, none⟩ = some (.int .i64 (x)))) (H71 : Hid (V.cell? ⟨b7, 1, none⟩ = some (.int .i64 (y)))) 
    (HF2 : Hid (∀ Xw, Below V.heap.size V Xw → Calls Try.prog 66 #[.agg #[.int .i64 (X), .int .i64 (Y), .int .i64 (D), .int .i64 (N)], .agg #[.int .i64 (x), .int .i64 (y)]] Xw fun e w' => e = .returned (.int .i64 (r)) ∧ Below Xw.heap.size Xw w'))
    (hQ : ∀ (W1 : World), Below V.heap.size V W1 → K_ { tmps := #[s0, .slice (some ⟨b, 0, none⟩) n cap, .pointer (some ⟨b2, 0, none⟩), s3, s4, s5, .int .i64 (i : Int), .pointer (some ⟨b7, 0, none⟩), s8, s9, s10, s11, s12, s13, s14, .agg #[.int .i64 (X), .int .i64 (Y), .int .i64 (D), .int .i64 (N)], .agg #[.int .i64 (x), .int .i64 (y)], .int .i64 (r), .pointer (some ⟨b2, 3, none⟩), .int .i64 (N), .bool (false), .bool (false), undef, undef, undef, undef, undef, .bool (false), s28, s29, s30, s31, s32, s33], defers := [] } W1) :
    Go.Code.wp Try.prog (rg67 5) (Only K_) { tmps := #[s0, .slice (some ⟨b, 0, none⟩) n cap, .pointer (some ⟨b2, 0, none⟩), s3, s4, s5, .int .i64 (i : Int), .pointer (some ⟨b7, 0, none⟩), s8, s9, s10, s11, s12, s13, s14, s15, s16, s17, s18, s19, s20, s21, s22, s23, s24, s25, s26, s27, s28, s29, s30, s31, s32, s33], defers := [] } V := by
  have HQ := hide hQ
  clear hQ
  have tm : (r == N) = false := beq_eq_false_iff_ne.2 hr
  conv => arg 2; whnf
  refine wp_region_inv2 (fun Lb A W => ∃ (u0 u1 u2 u3 u4 u5 u6 u7 u8 u9 u10 u11 u12 : Bool) (dm : Nat), Lb = #[u0, u1, u2, u3, u4, u5, u6, u7, u8, u9, u10, u11, u12] ∧ A = ({ tmps := #[s0, .slice (some ⟨b, 0, none⟩) n cap, .pointer (some ⟨b2, 0, none⟩), s3, s4, s5, .int .i64 (i : Int), .pointer (some ⟨b7, 0, none⟩), s8, s9, s10, s11, s12, s13, s14, (bif u0 then .agg #[.int .i64 (X), .int .i64 (Y), .int .i64 (D), .int .i64 (N)] else s15), (bif u1 then .agg #[.int .i64 (x), .int .i64 (y)] else s16), (bif u2 then .int .i64 (r) else s17), (bif u3 then .pointer (some ⟨b2, 3, none⟩) else s18), (bif u4 then .int .i64 (N) else s19), (bif u5 then .bool (false) else s20), (bif u6 then .bool (false) else s21), (bif u7 then undef else s22), (bif u8 then undef else s23), (bif u9 then undef else s24), (bif u10 then undef else s25), (bif u11 then undef else s26), (bif u12 then .bool (false) else s27), s28, s29, s30, s31, s32, s33], defers := [] } : Act) ∧ Below V.heap.size V W ∧ (u2 = true → u0 = true ∧ u1 = true) ∧ (u4 = true → u3 = true) ∧ (u5 = true → u2 = true ∧ u4 = true) ∧ (u6 = true → u5 = true) ∧ (u7 = true → u6 = true) ∧ (u8 = true → u6 = true) ∧ (u9 = true → u7 = true ∧ u8 = true ∧ u6 = true) ∧ (u10 = true → u6 = true) ∧ (u11 = true → u9 = true ∧ u10 = true ∧ u6 = true) ∧ (u12 = true → u0 = true ∧ u1 = true ∧ u2 = true ∧ u3 = true ∧ u4 = true ∧ u5 = true ∧ u6 = true ∧ u7 = true ∧ u8 = true ∧ u9 = true ∧ u10 = true ∧ u11 = true)) (by kernel_rfl) (by kernel_rfl) ?h0 ?hstep ?hend
  case h0 =>
    exact ⟨false, false, false, false, false, false, false, false, false, false, false, false, false, 0, rfl, rfl, Below.drew (Below.refl _ _), (fun h => nomatch h), (fun h => nomatch h), (fun h => nomatch h), (fun h => nomatch h), (fun h => nomatch h), (fun h => nomatch h), (fun h => nomatch h), (fun h => nomatch h), (fun h => nomatch h), (fun h => nomatch h)⟩
  case hstep =>
    intro Lb A W hI
    obtain ⟨u0, hI⟩ := hI
    obtain ⟨u1, hI⟩ := hI
    obtain ⟨u2, hI⟩ := hI
    obtain ⟨u3, hI⟩ := hI
    obtain ⟨u4, hI⟩ := hI
    obtain ⟨u5, hI⟩ := hI
    obtain ⟨u6, hI⟩ := hI
    obtain ⟨u7, hI⟩ := hI
    obtain ⟨u8, hI⟩ := hI
    obtain ⟨u9, hI⟩ := hI
    obtain ⟨u10, hI⟩ := hI
    obtain ⟨u11, hI⟩ := hI
    obtain ⟨u12, hI⟩ := hI
    obtain ⟨dm, hI⟩ := hI
    obtain ⟨hLb, hI⟩ := hI
    obtain ⟨hA, hI⟩ := hI
    obtain ⟨kB, hI⟩ := hI
    obtain ⟨c2, hI⟩ := hI
    obtain ⟨c4, hI⟩ := hI
    obtain ⟨c5, hI⟩ := hI
    obtain ⟨c6, hI⟩ := hI
    obtain ⟨c7, hI⟩ := hI
    obtain ⟨c8, hI⟩ := hI
    obtain ⟨c9, hI⟩ := hI
    obtain ⟨c10, hI⟩ := hI
    obtain ⟨c11, hI⟩ := hI
    have kF := hI
    clear hI
    subst hLb
    subst hA
    have H_kB := hide kB
    have H_c2 := hide c2
    have H_c4 := hide c4
    have H_c5 := hide c5
    have H_c6 := hide c6
    have H_c7 := hide c7
    have H_c8 := hide c8
    have H_c9 := hide c9
    have H_c10 := hide c10
    have H_c11 := hide c11
    have H_kF := hide kF
    clear kB c2 c4 c5 c6 c7 c8 c9 c10 c11 kF
    refine ⟨?_, ?_, ?_, ?_, ?_, ?_, ?_, ?_, ?_, ?_, ?_, ?_, ?_, trivial⟩
    · intro h0 hd K hK
      have z : u0 = false := h0
      have z12_ : u12 = false := by
        cases hu : u12 with
        | false => rfl
        | true => exact nomatch z.symm.trans ((unhide H_kF hu).1)
      subst z12_
      subst z
      clear h0 hd
      rw [if_pos (by rfl)]
      have c0 := keep1 (unhide H_kB) (unhide H20)
      have c1 := keep1 (unhide H_kB) (unhide H21)
      have c2 := keep1 (unhide H_kB) (unhide H22)
      have c3 := keep1 (unhide H_kB) (unhide H23)
      go_simp
      exact unhide hK _ _ ⟨true, u1, u2, u3, u4, u5, u6, u7, u8, u9, u10, u11, false, dm, rfl, rfl, unhide H_kB, (fun h => ⟨rfl, (unhide H_c2 h).2⟩), unhide H_c4, unhide H_c5, unhide H_c6, unhide H_c7, unhide H_c8, unhide H_c9, unhide H_c10, unhide H_c11, (fun h => nomatch h)⟩
    · intro h0 hd K hK
      have z : u1 = false := h0
      have z12_ : u12 = false := by
        cases hu : u12 with
        | false => rfl
        | true => exact nomatch z.symm.trans ((unhide H_kF hu).2.1)
      subst z12_
      subst z
      clear h0 hd
      rw [if_pos (by rfl)]
      have c0 := keep1 (unhide H_kB) (unhide H70)
      have c1 := keep1 (unhide H_kB) (unhide H71)
      go_simp
      exact unhide hK _ _ ⟨u0, true, u2, u3, u4, u5, u6, u7, u8, u9, u10, u11, false, dm, rfl, rfl, unhide H_kB, (fun h => ⟨(unhide H_c2 h).1, rfl⟩), unhide H_c4, unhide H_c5, unhide H_c6, unhide H_c7, unhide H_c8, unhide H_c9, unhide H_c10, unhide H_c11, (fun h => nomatch h)⟩
    · intro h0 hd K hK
      have z : u2 = false := h0
      have z12_ : u12 = false := by
        cases hu : u12 with
        | false => rfl
        | true => exact nomatch z.symm.trans ((unhide H_kF hu).2.2.1)
      have zd : u0 = true ∧ u1 = true := by
        simp [Region.binds] at hd
        simp [hd]
      obtain ⟨rfl, rfl⟩ := zd
      subst z12_
      subst z
      clear h0 hd
      rw [if_pos (by rfl)]
      go_simp
      refine (unhide HF2 W (unhide H_kB)).mono ?_
      rintro e w8 ⟨rfl, hb8⟩
      exact unhide hK _ _ ⟨true, true, true, u3, u4, u5, u6, u7, u8, u9, u10, u11, false, dm, rfl, rfl, bc (unhide H_kB) hb8, (fun _ => ⟨rfl, rfl⟩), unhide H_c4, (fun h => ⟨rfl, (unhide H_c5 h).2⟩), unhide H_c6, unhide H_c7, unhide H_c8, unhide H_c9, unhide H_c10, unhide H_c11, (fun h => nomatch h)⟩
    · intro h0 hd K hK
      have z : u3 = false := h0
      have z12_ : u12 = false := by
        cases hu : u12 with
        | false => rfl
        | true => exact nomatch z.symm.trans ((unhide H_kF hu).2.2.2.1)
      subst z12_
      subst z
      clear h0 hd
      rw [if_pos (by rfl)]
      go_simp
      exact unhide hK _ _ ⟨u0, u1, u2, true, u4, u5, u6, u7, u8, u9, u10, u11, false, dm, rfl, rfl, unhide H_kB, unhide H_c2, (fun h => rfl), unhide H_c5, unhide H_c6, unhide H_c7, unhide H_c8, unhide H_c9, unhide H_c10, unhide H_c11, (fun h => nomatch h)⟩
    · intro h0 hd K hK
      have z : u4 = false := h0
      have z12_ : u12 = false := by
        cases hu : u12 with
        | false => rfl
        | true => exact nomatch z.symm.trans ((unhide H_kF hu).2.2.2.2.1)
      have zd : u3 = true := by
        simp [Region.binds] at hd
        simp [hd]
      obtain ⟨rfl⟩ := zd
      subst z12_
      subst z
      clear h0 hd
      rw [if_pos (by rfl)]
      have c0 := keep1 (unhide H_kB) (unhide H23)
      go_simp
      exact unhide hK _ _ ⟨u0, u1, u2, true, true, u5, u6, u7, u8, u9, u10, u11, false, dm, rfl, rfl, unhide H_kB, unhide H_c2, (fun _ => rfl), (fun h => ⟨(unhide H_c5 h).1, rfl⟩), unhide H_c6, unhide H_c7, unhide H_c8, unhide H_c9, unhide H_c10, unhide H_c11, (fun h => nomatch h)⟩
    · intro h0 hd K hK
      have z : u5 = false := h0
      have z12_ : u12 = false := by
        cases hu : u12 with
        | false => rfl
        | true => exact nomatch z.symm.trans ((unhide H_kF hu).2.2.2.2.2.1)
      have zd : u2 = true ∧ u4 = true := by
        simp [Region.binds] at hd
        simp [hd]
      obtain ⟨rfl, rfl⟩ := zd
      subst z12_
      subst z
      clear h0 hd
      rw [if_pos (by rfl)]
      go_simp
      exact unhide hK _ _ ⟨u0, u1, true, u3, true, true, u6, u7, u8, u9, u10, u11, false, dm, rfl, rfl, unhide H_kB, unhide H_c2, unhide H_c4, (fun _ => ⟨rfl, rfl⟩), (fun h => rfl), unhide H_c7, unhide H_c8, unhide H_c9, unhide H_c10, unhide H_c11, (fun h => nomatch h)⟩
    · intro h0 hd K hK
      have z : u6 = false := h0
      have z12_ : u12 = false := by
        cases hu : u12 with
        | false => rfl
        | true => exact nomatch z.symm.trans ((unhide H_kF hu).2.2.2.2.2.2.1)
      have zd : u5 = true := by
        simp [Region.binds] at hd
        simp [hd]
      obtain ⟨rfl⟩ := zd
      subst z12_
      subst z
      clear h0 hd
      rw [if_pos (by rfl)]
      go_simp
      exact unhide hK _ _ ⟨u0, u1, u2, u3, u4, true, true, u7, u8, u9, u10, u11, false, dm, rfl, rfl, unhide H_kB, unhide H_c2, unhide H_c4, unhide H_c5, (fun _ => rfl), (fun h => rfl), (fun h => rfl), (fun h => ⟨(unhide H_c9 h).1, (unhide H_c9 h).2.1, rfl⟩), (fun h => rfl), (fun h => ⟨(unhide H_c11 h).1, (unhide H_c11 h).2.1, rfl⟩), (fun h => nomatch h)⟩
    · intro h0 hd K hK
      have z : u7 = false := h0
      have z12_ : u12 = false := by
        cases hu : u12 with
        | false => rfl
        | true => exact nomatch z.symm.trans ((unhide H_kF hu).2.2.2.2.2.2.2.1)
      have zd : u6 = true := by
        simp [Region.binds] at hd
        simp [hd]
      obtain ⟨rfl⟩ := zd
      subst z12_
      subst z
      clear h0 hd
      rw [if_neg (Bool.eq_false_iff.1 (by rfl))]
      try go_simp
      exact unhide hK _ _ ⟨u0, u1, u2, u3, u4, u5, true, true, u8, u9, u10, u11, false, dm, rfl, rfl, unhide H_kB, unhide H_c2, unhide H_c4, unhide H_c5, unhide H_c6, (fun _ => rfl), (fun h => rfl), (fun h => ⟨rfl, (unhide H_c9 h).2.1, rfl⟩), (fun h => rfl), (fun h => ⟨(unhide H_c11 h).1, (unhide H_c11 h).2.1, rfl⟩), (fun h => nomatch h)⟩
    · intro h0 hd K hK
      have z : u8 = false := h0
      have z12_ : u12 = false := by
        cases hu : u12 with
        | false => rfl
        | true => exact nomatch z.symm.trans ((unhide H_kF hu).2.2.2.2.2.2.2.2.1)
      have zd : u6 = true := by
        simp [Region.binds] at hd
        simp [hd]
      obtain ⟨rfl⟩ := zd
      subst z12_
      subst z
      clear h0 hd
      rw [if_neg (Bool.eq_false_iff.1 (by rfl))]
      try go_simp
      exact unhide hK _ _ ⟨u0, u1, u2, u3, u4, u5, true, u7, true, u9, u10, u11, false, dm, rfl, rfl, unhide H_kB, unhide H_c2, unhide H_c4, unhide H_c5, unhide H_c6, (fun h => rfl), (fun _ => rfl), (fun h => ⟨(unhide H_c9 h).1, rfl, rfl⟩), (fun h => rfl), (fun h => ⟨(unhide H_c11 h).1, (unhide H_c11 h).2.1, rfl⟩), (fun h => nomatch h)⟩
    · intro h0 hd K hK
      have z : u9 = false := h0
      have z12_ : u12 = false := by
        cases hu : u12 with
        | false => rfl
        | true => exact nomatch z.symm.trans ((unhide H_kF hu).2.2.2.2.2.2.2.2.2.1)
      have zd : u7 = true ∧ u8 = true ∧ u6 = true := by
        simp [Region.binds] at hd
        simp [hd]
      obtain ⟨rfl, rfl, rfl⟩ := zd
      subst z12_
      subst z
      clear h0 hd
      rw [if_neg (Bool.eq_false_iff.1 (by rfl))]
      try go_simp
      exact unhide hK _ _ ⟨u0, u1, u2, u3, u4, u5, true, true, true, true, u10, u11, false, dm, rfl, rfl, unhide H_kB, unhide H_c2, unhide H_c4, unhide H_c5, unhide H_c6, (fun h => rfl), (fun h => rfl), (fun _ => ⟨rfl, rfl, rfl⟩), (fun h => rfl), (fun h => ⟨rfl, (unhide H_c11 h).2.1, rfl⟩), (fun h => nomatch h)⟩
    · intro h0 hd K hK
      have z : u10 = false := h0
      have z12_ : u12 = false := by
        cases hu : u12 with
        | false => rfl
        | true => exact nomatch z.symm.trans ((unhide H_kF hu).2.2.2.2.2.2.2.2.2.2.1)
      have zd : u6 = true := by
        simp [Region.binds] at hd
        simp [hd]
      obtain ⟨rfl⟩ := zd
      subst z12_
      subst z
      clear h0 hd
      rw [if_neg (Bool.eq_false_iff.1 (by rfl))]
      try go_simp
      exact unhide hK _ _ ⟨u0, u1, u2, u3, u4, u5, true, u7, u8, u9, true, u11, false, dm, rfl, rfl, unhide H_kB, unhide H_c2, unhide H_c4, unhide H_c5, unhide H_c6, (fun h => rfl), (fun h => rfl), (fun h => ⟨(unhide H_c9 h).1, (unhide H_c9 h).2.1, rfl⟩), (fun _ => rfl), (fun h => ⟨(unhide H_c11 h).1, rfl, rfl⟩), (fun h => nomatch h)⟩
    · intro h0 hd K hK
      have z : u11 = false := h0
      have z12_ : u12 = false := by
        cases hu : u12 with
        | false => rfl
        | true => exact nomatch z.symm.trans ((unhide H_kF hu).2.2.2.2.2.2.2.2.2.2.2)
      have zd : u9 = true ∧ u10 = true ∧ u6 = true := by
        simp [Region.binds] at hd
        simp [hd]
      obtain ⟨rfl, rfl, rfl⟩ := zd
      subst z12_
      subst z
      clear h0 hd
      rw [if_neg (Bool.eq_false_iff.1 (by rfl))]
      try go_simp
      exact unhide hK _ _ ⟨u0, u1, u2, u3, u4, u5, true, u7, u8, true, true, true, false, dm, rfl, rfl, unhide H_kB, unhide H_c2, unhide H_c4, unhide H_c5, unhide H_c6, (fun h => rfl), (fun h => rfl), (fun h => ⟨(unhide H_c9 h).1, (unhide H_c9 h).2.1, rfl⟩), (fun h => rfl), (fun _ => ⟨rfl, rfl, rfl⟩), (fun h => nomatch h)⟩
    · intro h0 hd K hK
      have z : u12 = false := h0
      have zd0 : u6 = true ∧ u11 = true := by
        simp [Region.binds] at hd
        simp [hd]
      have zd : u6 = true ∧ u11 = true ∧ u0 = true ∧ u1 = true ∧ u2 = true ∧ u3 = true ∧ u4 = true ∧ u5 = true ∧ u7 = true ∧ u8 = true ∧ u9 = true ∧ u10 = true := ⟨zd0.1, zd0.2, (unhide H_c2 (unhide H_c5 (unhide H_c6 zd0.1)).1).1, (unhide H_c2 (unhide H_c5 (unhide H_c6 zd0.1)).1).2, (unhide H_c5 (unhide H_c6 zd0.1)).1, (unhide H_c4 (unhide H_c5 (unhide H_c6 zd0.1)).2), (unhide H_c5 (unhide H_c6 zd0.1)).2, (unhide H_c6 zd0.1), (unhide H_c9 (unhide H_c11 zd0.2).1).1, (unhide H_c9 (unhide H_c11 zd0.2).1).2.1, (unhide H_c11 zd0.2).1, (unhide H_c11 zd0.2).2.1⟩
      obtain ⟨rfl, rfl, rfl, rfl, rfl, rfl, rfl, rfl, rfl, rfl, rfl, rfl⟩ := zd
      subst z
      clear h0 hd
      rw [if_pos (by rfl)]
      go_simp
      exact unhide hK _ _ ⟨true, true, true, true, true, true, true, true, true, true, true, true, true, dm, rfl, rfl, unhide H_kB, (fun _ => ⟨rfl, rfl⟩), (fun _ => rfl), (fun _ => ⟨rfl, rfl⟩), (fun _ => rfl), (fun _ => rfl), (fun _ => rfl), (fun _ => ⟨rfl, rfl, rfl⟩), (fun _ => rfl), (fun _ => ⟨rfl, rfl, rfl⟩), (fun _ => ⟨rfl, rfl, rfl, rfl, rfl, rfl, rfl, rfl, rfl, rfl, rfl, rfl⟩)⟩
  case hend =>
    intro Lb A W hI
    obtain ⟨u0, hI⟩ := hI
    obtain ⟨u1, hI⟩ := hI
    obtain ⟨u2, hI⟩ := hI
    obtain ⟨u3, hI⟩ := hI
    obtain ⟨u4, hI⟩ := hI
    obtain ⟨u5, hI⟩ := hI
    obtain ⟨u6, hI⟩ := hI
    obtain ⟨u7, hI⟩ := hI
    obtain ⟨u8, hI⟩ := hI
    obtain ⟨u9, hI⟩ := hI
    obtain ⟨u10, hI⟩ := hI
    obtain ⟨u11, hI⟩ := hI
    obtain ⟨u12, hI⟩ := hI
    obtain ⟨dm, hI⟩ := hI
    obtain ⟨hLb, hI⟩ := hI
    obtain ⟨hA, hI⟩ := hI
    obtain ⟨kB, hI⟩ := hI
    obtain ⟨c2, hI⟩ := hI
    obtain ⟨c4, hI⟩ := hI
    obtain ⟨c5, hI⟩ := hI
    obtain ⟨c6, hI⟩ := hI
    obtain ⟨c7, hI⟩ := hI
    obtain ⟨c8, hI⟩ := hI
    obtain ⟨c9, hI⟩ := hI
    obtain ⟨c10, hI⟩ := hI
    obtain ⟨c11, hI⟩ := hI
    have kF := hI
    clear hI
    subst hLb
    subst hA
    intro hL
    have hl : u0 = true ∧ u1 = true ∧ u2 = true ∧ u3 = true ∧ u4 = true ∧ u5 = true ∧ u6 = true ∧ u7 = true ∧ u8 = true ∧ u9 = true ∧ u10 = true ∧ u11 = true ∧ u12 = true := by
      have h2 := congrArg Array.toList hL
      simpa [List.replicate] using h2
    obtain ⟨rfl, rfl, rfl, rfl, rfl, rfl, rfl, rfl, rfl, rfl, rfl, rfl, rfl⟩ := hl
    exact unhide HQ  W kB

set_option maxHeartbeats 4000000 in
set_option maxRecDepth 100000 in
theorem di7 {s0 s2 s4 s5 s6 s7 s9 s11 s12 s13 s14 s15 s16 s17 s18 s19 s20 s21 s22 s23 s24 s25 s26 s27 s28 s29 s30 s31 s32 s33 s34 s35 s36 s37 s38 s39 s40 s41 s42 s43 : Value} {b b3 n cap a c : Nat} {x0 y0 x1 y1 X Y D N X' Y' D' N' : Int} {V : World} {K_ : Act → World → Prop} 
    (HA0 : Hid (V.cell? ⟨b, a * 2, none⟩ = some (.int .i64 (x0)))) (HA1 : Hid (V.cell? ⟨b, a * 2 + 1, none⟩ = some (.int .i64 (y0)))) (HC0 : Hid (V.cell? ⟨b, c * 2, none⟩ = some (.int .i64 (x1)))) (HC1 : Hid (V.cell? ⟨b, c * 2 + 1, none⟩ = some (.int .i64 (y1)))) (H30 : Hid (V.cell? ⟨b3, 0, none⟩ = some (.int .i64 (X)))) (H31 : Hid (V.cell? ⟨b3, 1, none⟩ = some (.int .i64 (Y)))) (H32 : Hid (V.cell? ⟨b3, 2, none⟩ = some (.int .i64 (D)))) (H33 : Hid (V.cell? ⟨b3, 3, none⟩ = some (.int .i64 (N)))) 
    (HX2 : Hid (a < n))
    (HX6 : Hid (c < n))
    (HF9 : Hid (∀ n8 : Nat, ∀ Xw, Below V.heap.size V Xw → cb Xw n8 30 [.int .i64 (x0), .int .i64 (y0), .int .i64 (x1), .int .i64 (y1)] → Calls Try.prog 65 #[.slice (some ⟨n8, 0, none⟩) 2 2] Xw fun e w' => e = .returned (.agg #[.int .i64 (X'), .int .i64 (Y'), .int .i64 (D'), .int .i64 (N')]) ∧ Below Xw.heap.size Xw w'))
    (hQ : ∀ (n8 : Nat) (W1 : World), Below V.heap.size V W1 → cb W1 n8 30 [.int .i64 (x0), .int .i64 (y0), .int .i64 (x1), .int .i64 (y1)] → V.heap.size ≤ n8 → K_ { tmps := #[s0, .slice (some ⟨b, 0, none⟩) n cap, s2, .pointer (some ⟨b3, 0, none⟩), s4, s5, s6, s7, .int .i64 (a : Int), s9, .int .i64 (c : Int), s11, s12, s13, s14, s15, s16, s17, s18, s19, s20, s21, s22, s23, s24, s25, s26, .slice (some ⟨b, 0, none⟩) n cap, .int .i64 (a : Int), .pointer (some ⟨b, a * 2, none⟩), .agg #[.int .i64 (x0), .int .i64 (y0)], .slice (some ⟨b, 0, none⟩) n cap, .int .i64 (c : Int), .pointer (some ⟨b, c * 2, none⟩), .agg #[.int .i64 (x1), .int .i64 (y1)], .slice (some ⟨n8, 0, none⟩) 2 2, .agg #[.int .i64 (X'), .int .i64 (Y'), .int .i64 (D'), .int .i64 (N')], .agg #[.int .i64 (X), .int .i64 (Y), .int .i64 (D), .int .i64 (N)], .bool (decide (X' = X) && (decide (Y' = Y) && (decide (D' = D) && decide (N' = N)))), s39, s40, s41, s42, s43], defers := [] } W1) :
    Go.Code.wp Try.prog (rg68 7) (Only K_) { tmps := #[s0, .slice (some ⟨b, 0, none⟩) n cap, s2, .pointer (some ⟨b3, 0, none⟩), s4, s5, s6, s7, .int .i64 (a : Int), s9, .int .i64 (c : Int), s11, s12, s13, s14, s15, s16, s17, s18, s19, s20, s21, s22, s23, s24, s25, s26, s27, s28, s29, s30, s31, s32, s33, s34, s35, s36, s37, s38, s39, s40, s41, s42, s43], defers := [] } V := by
  have HQ := hide hQ
  clear hQ
  conv => arg 2; whnf
  refine wp_region_inv2 (fun Lb A W => ∃ (u0 u1 u2 u3 u4 u5 u6 u7 u8 u9 u10 u11 : Bool) (n8 : Nat), Lb = #[u0, u1, u2, u3, u4, u5, u6, u7, u8, u9, u10, u11] ∧ A = ({ tmps := #[s0, .slice (some ⟨b, 0, none⟩) n cap, s2, .pointer (some ⟨b3, 0, none⟩), s4, s5, s6, s7, .int .i64 (a : Int), s9, .int .i64 (c : Int), s11, s12, s13, s14, s15, s16, s17, s18, s19, s20, s21, s22, s23, s24, s25, s26, (bif u0 then .slice (some ⟨b, 0, none⟩) n cap else s27), (bif u1 then .int .i64 (a : Int) else s28), (bif u2 then .pointer (some ⟨b, a * 2, none⟩) else s29), (bif u3 then .agg #[.int .i64 (x0), .int .i64 (y0)] else s30), (bif u4 then .slice (some ⟨b, 0, none⟩) n cap else s31), (bif u5 then .int .i64 (c : Int) else s32), (bif u6 then .pointer (some ⟨b, c * 2, none⟩) else s33), (bif u7 then .agg #[.int .i64 (x1), .int .i64 (y1)] else s34), (bif u8 then .slice (some ⟨n8, 0, none⟩) 2 2 else s35), (bif u9 then .agg #[.int .i64 (X'), .int .i64 (Y'), .int .i64 (D'), .int .i64 (N')] else s36), (bif u10 then .agg #[.int .i64 (X), .int .i64 (Y), .int .i64 (D), .int .i64 (N)] else s37), (bif u11 then .bool (decide (X' = X) && (decide (Y' = Y) && (decide (D' = D) && decide (N' = N)))) else s38), s39, s40, s41, s42, s43], defers := [] } : Act) ∧ Below V.heap.size V W ∧ (u8 = true → cb W n8 30 [.int .i64 (x0), .int .i64 (y0), .int .i64 (x1), .int .i64 (y1)] ∧ V.heap.size ≤ n8) ∧ (u2 = true → u0 = true ∧ u1 = true) ∧ (u3 = true → u2 = true) ∧ (u6 = true → u4 = true ∧ u5 = true) ∧ (u7 = true → u6 = true) ∧ (u8 = true → u3 = true ∧ u7 = true) ∧ (u9 = true → u8 = true) ∧ (u11 = true → u0 = true ∧ u1 = true ∧ u2 = true ∧ u3 = true ∧ u4 = true ∧ u5 = true ∧ u6 = true ∧ u7 = true ∧ u8 = true ∧ u9 = true ∧ u10 = true)) (by kernel_rfl) (by kernel_rfl) ?h0 ?hstep ?hend
  case h0 =>
    exact ⟨false, false, false, false, false, false, false, false, false, false, false, false, 0, rfl, rfl, Below.drew (Below.refl _ _), (fun h => nomatch h), (fun h => nomatch h), (fun h => nomatch h), (fun h => nomatch h), (fun h => nomatch h), (fun h => nomatch h), (fun h => nomatch h), (fun h => nomatch h)⟩
  case hstep =>
    intro Lb A W hI
    obtain ⟨u0, hI⟩ := hI
    obtain ⟨u1, hI⟩ := hI
    obtain ⟨u2, hI⟩ := hI
    obtain ⟨u3, hI⟩ := hI
    obtain ⟨u4, hI⟩ := hI
    obtain ⟨u5, hI⟩ := hI
    obtain ⟨u6, hI⟩ := hI
    obtain ⟨u7, hI⟩ := hI
    obtain ⟨u8, hI⟩ := hI
    obtain ⟨u9, hI⟩ := hI
    obtain ⟨u10, hI⟩ := hI
    obtain ⟨u11, hI⟩ := hI
    obtain ⟨n8, hI⟩ := hI
    obtain ⟨hLb, hI⟩ := hI
    obtain ⟨hA, hI⟩ := hI
    obtain ⟨kB, hI⟩ := hI
    obtain ⟨k8, hI⟩ := hI
    obtain ⟨c2, hI⟩ := hI
    obtain ⟨c3, hI⟩ := hI
    obtain ⟨c6, hI⟩ := hI
    obtain ⟨c7, hI⟩ := hI
    obtain ⟨c8, hI⟩ := hI
    obtain ⟨c9, hI⟩ := hI
    have kF := hI
    clear hI
    subst hLb
    subst hA
    have H_kB := hide kB
    have H_k8 := hide k8
    have H_c2 := hide c2
    have H_c3 := hide c3
    have H_c6 := hide c6
    have H_c7 := hide c7
    have H_c8 := hide c8
    have H_c9 := hide c9
    have H_kF := hide kF
    clear kB k8 c2 c3 c6 c7 c8 c9 kF
    refine ⟨?_, ?_, ?_, ?_, ?_, ?_, ?_, ?_, ?_, ?_, ?_, ?_, trivial⟩
    · intro h0 hd K hK
      have z : u0 = false := h0
      have z11_ : u11 = false := by
        cases hu : u11 with
        | false => rfl
        | true => exact nomatch z.symm.trans ((unhide H_kF hu).1)
      subst z11_
      subst z
      clear h0 hd
      rw [if_pos (by rfl)]
      go_simp
      exact unhide hK _ _ ⟨true, u1, u2, u3, u4, u5, u6, u7, u8, u9, u10, false, n8, rfl, rfl, unhide H_kB, unhide H_k8, (fun h => ⟨rfl, (unhide H_c2 h).2⟩), unhide H_c3, unhide H_c6, unhide H_c7, unhide H_c8, unhide H_c9, (fun h => nomatch h)⟩
    · intro h0 hd K hK
      have z : u1 = false := h0
      have z11_ : u11 = false := by
        cases hu : u11 with
        | false => rfl
        | true => exact nomatch z.symm.trans ((unhide H_kF hu).2.1)
      subst z11_
      subst z
      clear h0 hd
      rw [if_pos (by rfl)]
      go_simp
      exact unhide hK _ _ ⟨u0, true, u2, u3, u4, u5, u6, u7, u8, u9, u10, false, n8, rfl, rfl, unhide H_kB, unhide H_k8, (fun h => ⟨(unhide H_c2 h).1, rfl⟩), unhide H_c3, unhide H_c6, unhide H_c7, unhide H_c8, unhide H_c9, (fun h => nomatch h)⟩
    · intro h0 hd K hK
      have z : u2 = false := h0
      have z11_ : u11 = false := by
        cases hu : u11 with
        | false => rfl
        | true => exact nomatch z.symm.trans ((unhide H_kF hu).2.2.1)
      have zd : u0 = true ∧ u1 = true := by
        simp [Region.binds] at hd
        simp [hd]
      obtain ⟨rfl, rfl⟩ := zd
      subst z11_
      subst z
      clear h0 hd
      rw [if_pos (by rfl)]
      have q1 : a < n := unhide HX2
      have q2 : (a : Int) < (n : Int) := by omega
      go_simp
      exact unhide hK _ _ ⟨true, true, true, u3, u4, u5, u6, u7, u8, u9, u10, false, n8, rfl, rfl, unhide H_kB, unhide H_k8, (fun _ => ⟨rfl, rfl⟩), (fun h => rfl), unhide H_c6, unhide H_c7, unhide H_c8, unhide H_c9, (fun h => nomatch h)⟩
    · intro h0 hd K hK
      have z : u3 = false := h0
      have z11_ : u11 = false := by
        cases hu : u11 with
        | false => rfl
        | true => exact nomatch z.symm.trans ((unhide H_kF hu).2.2.2.1)
      have zd : u2 = true := by
        simp [Region.binds] at hd
        simp [hd]
      obtain ⟨rfl⟩ := zd
      subst z11_
      subst z
      clear h0 hd
      rw [if_pos (by rfl)]
      have c0 := keep1 (unhide H_kB) (unhide HA0)
      have c1 := keep1 (unhide H_kB) (unhide HA1)
      go_simp
      exact unhide hK _ _ ⟨u0, u1, true, true, u4, u5, u6, u7, u8, u9, u10, false, n8, rfl, rfl, unhide H_kB, unhide H_k8, unhide H_c2, (fun _ => rfl), unhide H_c6, unhide H_c7, (fun h => ⟨rfl, (unhide H_c8 h).2⟩), unhide H_c9, (fun h => nomatch h)⟩
    · intro h0 hd K hK
      have z : u4 = false := h0
      have z11_ : u11 = false := by
        cases hu : u11 with
        | false => rfl
        | true => exact nomatch z.symm.trans ((unhide H_kF hu).2.2.2.2.1)
      subst z11_
      subst z
      clear h0 hd
      rw [if_pos (by rfl)]
      go_simp
      exact unhide hK _ _ ⟨u0, u1, u2, u3, true, u5, u6, u7, u8, u9, u10, false, n8, rfl, rfl, unhide H_kB, unhide H_k8, unhide H_c2, unhide H_c3, (fun h => ⟨rfl, (unhide H_c6 h).2⟩), unhide H_c7, unhide H_c8, unhide H_c9, (fun h => nomatch h)⟩
    · intro h0 hd K hK
      have z : u5 = false := h0
      have z11_ : u11 = false := by
        cases hu : u11 with
        | false => rfl
        | true => exact nomatch z.symm.trans ((unhide H_kF hu).2.2.2.2.2.1)
      subst z11_
      subst z
      clear h0 hd
      rw [if_pos (by rfl)]
      go_simp
      exact unhide hK _ _ ⟨u0, u1, u2, u3, u4, true, u6, u7, u8, u9, u10, false, n8, rfl, rfl, unhide H_kB, unhide H_k8, unhide H_c2, unhide H_c3, (fun h => ⟨(unhide H_c6 h).1, rfl⟩), unhide H_c7, unhide H_c8, unhide H_c9, (fun h => nomatch h)⟩
    · intro h0 hd K hK
      have z : u6 = false := h0
      have z11_ : u11 = false := by
        cases hu : u11 with
        | false => rfl
        | true => exact nomatch z.symm.trans ((unhide H_kF hu).2.2.2.2.2.2.1)
      have zd : u4 = true ∧ u5 = true := by
        simp [Region.binds] at hd
        simp [hd]
      obtain ⟨rfl, rfl⟩ := zd
      subst z11_
      subst z
      clear h0 hd
      rw [if_pos (by rfl)]
      have q1 : c < n := unhide HX6
      have q2 : (c : Int) < (n : Int) := by omega
      go_simp
      exact unhide hK _ _ ⟨u0, u1, u2, u3, true, true, true, u7, u8, u9, u10, false, n8, rfl, rfl, unhide H_kB, unhide H_k8, unhide H_c2, unhide H_c3, (fun _ => ⟨rfl, rfl⟩), (fun h => rfl), unhide H_c8, unhide H_c9, (fun h => nomatch h)⟩
    · intro h0 hd K hK
      have z : u7 = false := h0
      have z11_ : u11 = false := by
        cases hu : u11 with
        | false => rfl
        | true => exact nomatch z.symm.trans ((unhide H_kF hu).2.2.2.2.2.2.2.1)
      have zd : u6 = true := by
        simp [Region.binds] at hd
        simp [hd]
      obtain ⟨rfl⟩ := zd
      subst z11_
      subst z
      clear h0 hd
      rw [if_pos (by rfl)]
      have c0 := keep1 (unhide H_kB) (unhide HC0)
      have c1 := keep1 (unhide H_kB) (unhide HC1)
      go_simp
      exact unhide hK _ _ ⟨u0, u1, u2, u3, u4, u5, true, true, u8, u9, u10, false, n8, rfl, rfl, unhide H_kB, unhide H_k8, unhide H_c2, unhide H_c3, unhide H_c6, (fun _ => rfl), (fun h => ⟨(unhide H_c8 h).1, rfl⟩), unhide H_c9, (fun h => nomatch h)⟩
    · intro h0 hd K hK
      have z : u8 = false := h0
      have z11_ : u11 = false := by
        cases hu : u11 with
        | false => rfl
        | true => exact nomatch z.symm.trans ((unhide H_kF hu).2.2.2.2.2.2.2.2.1)
      have zd : u3 = true ∧ u7 = true := by
        simp [Region.binds] at hd
        simp [hd]
      obtain ⟨rfl, rfl⟩ := zd
      subst z11_
      subst z
      clear h0 hd
      rw [if_pos (by rfl)]
      go_simp
      exact unhide hK _ _ ⟨u0, u1, u2, true, u4, u5, u6, true, true, u9, u10, false, W.heap.size, rfl, rfl, ba (unhide H_kB) _, (fun _ => ⟨cb_new W 30 _ _ rfl, (unhide H_kB).size⟩), unhide H_c2, unhide H_c3, unhide H_c6, unhide H_c7, (fun _ => ⟨rfl, rfl⟩), (fun h => rfl), (fun h => nomatch h)⟩
    · intro h0 hd K hK
      have z : u9 = false := h0
      have z11_ : u11 = false := by
        cases hu : u11 with
        | false => rfl
        | true => exact nomatch z.symm.trans ((unhide H_kF hu).2.2.2.2.2.2.2.2.2.1)
      have zd : u8 = true := by
        simp [Region.binds] at hd
        simp [hd]
      obtain ⟨rfl⟩ := zd
      subst z11_
      subst z
      clear h0 hd
      rw [if_pos (by rfl)]
      go_simp
      refine (unhide HF9 _ W (unhide H_kB) (unhide H_k8 rfl).1).mono ?_
      rintro e w8 ⟨rfl, hb8⟩
      exact unhide hK _ _ ⟨u0, u1, u2, u3, u4, u5, u6, u7, true, true, u10, false, n8, rfl, rfl, bc (unhide H_kB) hb8, (fun h => ⟨(unhide H_k8 h).1.bel hb8, (unhide H_k8 h).2⟩), unhide H_c2, unhide H_c3, unhide H_c6, unhide H_c7, unhide H_c8, (fun _ => rfl), (fun h => nomatch h)⟩
    · intro h0 hd K hK
      have z : u10 = false := h0
      have z11_ : u11 = false := by
        cases hu : u11 with
        | false => rfl
        | true => exact nomatch z.symm.trans ((unhide H_kF hu).2.2.2.2.2.2.2.2.2.2)
      subst z11_
      subst z
      clear h0 hd
      rw [if_pos (by rfl)]
      have c0 := keep1 (unhide H_kB) (unhide H30)
      have c1 := keep1 (unhide H_kB) (unhide H31)
      have c2 := keep1 (unhide H_kB) (unhide H32)
      have c3 := keep1 (unhide H_kB) (unhide H33)
      go_simp
      exact unhide hK _ _ ⟨u0, u1, u2, u3, u4, u5, u6, u7, u8, u9, true, false, n8, rfl, rfl, unhide H_kB, unhide H_k8, unhide H_c2, unhide H_c3, unhide H_c6, unhide H_c7, unhide H_c8, unhide H_c9, (fun h => nomatch h)⟩
    · intro h0 hd K hK
      have z : u11 = false := h0
      have zd0 : u9 = true ∧ u10 = true := by
        simp [Region.binds] at hd
        simp [hd]
      have zd : u9 = true ∧ u10 = true ∧ u0 = true ∧ u1 = true ∧ u2 = true ∧ u3 = true ∧ u4 = true ∧ u5 = true ∧ u6 = true ∧ u7 = true ∧ u8 = true := ⟨zd0.1, zd0.2, (unhide H_c2 (unhide H_c3 (unhide H_c8 (unhide H_c9 zd0.1)).1)).1, (unhide H_c2 (unhide H_c3 (unhide H_c8 (unhide H_c9 zd0.1)).1)).2, (unhide H_c3 (unhide H_c8 (unhide H_c9 zd0.1)).1), (unhide H_c8 (unhide H_c9 zd0.1)).1, (unhide H_c6 (unhide H_c7 (unhide H_c8 (unhide H_c9 zd0.1)).2)).1, (unhide H_c6 (unhide H_c7 (unhide H_c8 (unhide H_c9 zd0.1)).2)).2, (unhide H_c7 (unhide H_c8 (unhide H_c9 zd0.1)).2), (unhide H_c8 (unhide H_c9 zd0.1)).2, (unhide H_c9 zd0.1)⟩
      obtain ⟨rfl, rfl, rfl, rfl, rfl, rfl, rfl, rfl, rfl, rfl, rfl⟩ := zd
      subst z
      clear h0 hd
      rw [if_pos (by rfl)]
      go_simp
      have e4 : (if X' = X then if Y' = Y then if D' = D then if N' = N then Result.ok (Next.value (Value.bool true)) W else Result.ok (Next.value (Value.bool false)) W else Result.ok (Next.value (Value.bool false)) W else Result.ok (Next.value (Value.bool false)) W else Result.ok (Next.value (Value.bool false)) W) = Result.ok (Next.value (Value.bool (decide (X' = X) && (decide (Y' = Y) && (decide (D' = D) && decide (N' = N)))))) W := ite4 _ _ _ _ (fun b => Result.ok (Next.value (Value.bool b)) W)
      rw [e4]
      go_simp
      exact unhide hK _ _ ⟨true, true, true, true, true, true, true, true, true, true, true, true, n8, rfl, rfl, unhide H_kB, unhide H_k8, (fun _ => ⟨rfl, rfl⟩), (fun _ => rfl), (fun _ => ⟨rfl, rfl⟩), (fun _ => rfl), (fun _ => ⟨rfl, rfl⟩), (fun _ => rfl), (fun _ => ⟨rfl, rfl, rfl, rfl, rfl, rfl, rfl, rfl, rfl, rfl, rfl⟩)⟩
  case hend =>
    intro Lb A W hI
    obtain ⟨u0, hI⟩ := hI
    obtain ⟨u1, hI⟩ := hI
    obtain ⟨u2, hI⟩ := hI
    obtain ⟨u3, hI⟩ := hI
    obtain ⟨u4, hI⟩ := hI
    obtain ⟨u5, hI⟩ := hI
    obtain ⟨u6, hI⟩ := hI
    obtain ⟨u7, hI⟩ := hI
    obtain ⟨u8, hI⟩ := hI
    obtain ⟨u9, hI⟩ := hI
    obtain ⟨u10, hI⟩ := hI
    obtain ⟨u11, hI⟩ := hI
    obtain ⟨n8, hI⟩ := hI
    obtain ⟨hLb, hI⟩ := hI
    obtain ⟨hA, hI⟩ := hI
    obtain ⟨kB, hI⟩ := hI
    obtain ⟨k8, hI⟩ := hI
    obtain ⟨c2, hI⟩ := hI
    obtain ⟨c3, hI⟩ := hI
    obtain ⟨c6, hI⟩ := hI
    obtain ⟨c7, hI⟩ := hI
    obtain ⟨c8, hI⟩ := hI
    obtain ⟨c9, hI⟩ := hI
    have kF := hI
    clear hI
    subst hLb
    subst hA
    intro hL
    have hl : u0 = true ∧ u1 = true ∧ u2 = true ∧ u3 = true ∧ u4 = true ∧ u5 = true ∧ u6 = true ∧ u7 = true ∧ u8 = true ∧ u9 = true ∧ u10 = true ∧ u11 = true := by
      have h2 := congrArg Array.toList hL
      simpa [List.replicate] using h2
    obtain ⟨rfl, rfl, rfl, rfl, rfl, rfl, rfl, rfl, rfl, rfl, rfl, rfl⟩ := hl
    exact unhide HQ n8 W kB (k8 rfl).1 (k8 rfl).2

end Go.Proofs.Ytdcecfgmfmpeeaa

namespace Go.Proofs.Ytdcecfgmfmpeeaa
set_option linter.unusedVariables false
set_option linter.unusedSimpArgs false

def onB' (P : List Pt) (c : Ic) (i : Nat) : Bool := decide (apt c (ptAt P i) = c.N)
/-- the first points on the rim; the first points at the hull's corners -/
def rimL (P : List Pt) (c : Ic) : List Nat := (List.range P.length).filter fun i => onB' P c i && decide (fi P (ptAt P i) = i)
def numL (P : List Pt) : List Nat := (List.range P.length).filter fun i => decide (fi P (ptAt P i) = i) && decide (ptAt P i ∈ hullM (srtU P))
theorem ptAt_mem {P : List Pt} {i : Nat} (h : i < P.length) : ptAt P i ∈ P := List.mem_of_getElem? (ptAt_some h)
theorem numL_mem {P : List Pt} {i : Nat} : i ∈ numL P ↔ i < P.length ∧ fi P (ptAt P i) = i ∧ ptAt P i ∈ hullM (srtU P) := by
  unfold numL
  simp [List.mem_filter]
theorem rimL_mem {P : List Pt} {c : Ic} {i : Nat} : i ∈ rimL P c ↔ i < P.length ∧ apt c (ptAt P i) = c.N ∧ fi P (ptAt P i) = i := by
  unfold rimL onB'
  simp [List.mem_filter]
theorem rim_num {P S : List Pt} {c : Ic} {k : Ci} (hI : Is c k) (h : Md P [] S k) : rimL P c = (numL P).filter (onB' P c) := by
  unfold rimL numL
  rw [List.filter_filter]
  apply List.filter_congr
  intro i hi
  have hl : i < P.length := List.mem_range.1 hi
  by_cases ho : apt c (ptAt P i) = c.N
  · have hh := rim_hull hI h (ptAt_mem hl) ho
    simp [onB', ho, hh]
  · simp [onB', ho]
theorem rimL_sort (P : List Pt) (c : Ic) : (rimL P c).Pairwise (· < ·) := List.pairwise_lt_range.filter _
theorem numL_sort (P : List Pt) : (numL P).Pairwise (· < ·) := List.pairwise_lt_range.filter _
theorem fst_ne {P : List Pt} {i j : Nat} (hi : fi P (ptAt P i) = i) (hj : fi P (ptAt P j) = j) (h : i < j) : ptAt P i ≠ ptAt P j := by
  intro e
  rw [e, hj] at hi
  omega
def qP2 (P : List Pt) (c : Ic) (i j : Nat) : Bool := decide (thr [ptAt P i, ptAt P j] = c)
def qM2 (P : List Pt) (i j : Nat) : Bool := hasB (hullM (srtU P)) (thr [ptAt P i, ptAt P j])
def qP3 (P : List Pt) (i j l : Nat) : Bool := decide (Sharp (ptAt P i) (ptAt P j) (ptAt P l))
def qM3 (P : List Pt) (i j l : Nat) : Bool := triOk (ptAt P i) (ptAt P j) (ptAt P l) && hasB (hullM (srtU P)) (triC (ptAt P i) (ptAt P j) (ptAt P l))
theorem hasB_iff {L : List Pt} {c : Ic} : hasB L c = true ↔ ∀ q ∈ L, apt c q ≤ c.N := by
  unfold hasB
  rw [List.all_eq_true]
  simp
theorem pairs_eq {P S : List Pt} {c : Ic} {k : Ci} (hI : Is c k) (h : Md P [] S k) : fp (qP2 P c) (rimL P c) = fp (qM2 P) (numL P) := by
  have e1 : fp (qM2 P) (numL P) = fp (fun i j => onB' P c i && onB' P c j && qP2 P c i j) (numL P) := fp_congr (by
    refine List.Pairwise.imp_of_mem ?_ (numL_sort P)
    intro i j hi hj hij
    have pi := pair_iff hI h (numL_mem.1 hi).2.2 (numL_mem.1 hj).2.2
    rw [Bool.eq_iff_iff]
    unfold qM2 qP2 onB'
    rw [hasB_iff, pi]
    simp [and_assoc])
  have e3 := fp_filter (Q := fun i j => onB' P c i && onB' P c j && qP2 P c i j) (B := onB' P c) (fun i j hq => by
    rw [Bool.and_eq_true, Bool.and_eq_true] at hq
    exact ⟨hq.1.1, hq.1.2⟩) (numL P)
  rw [e1, ← e3, ← rim_num hI h]
  refine fp_congr ?_
  refine List.Pairwise.imp_of_mem ?_ (rimL_sort P c)
  intro i j hi hj hij
  have oi : onB' P c i = true := decide_eq_true (rimL_mem.1 hi).2.1
  have oj : onB' P c j = true := decide_eq_true (rimL_mem.1 hj).2.1
  rw [oi, oj]
  rfl
theorem triples_eq {P S : List Pt} {c : Ic} {k : Ci} (hI : Is c k) (h : Md P [] S k) : ft (qP3 P) (rimL P c) = ft (qM3 P) (numL P) := by
  have e1 : ft (qM3 P) (numL P) = ft (fun i j l => onB' P c i && onB' P c j && onB' P c l && qP3 P i j l) (numL P) := ft_congr (numL_sort P) (by
    intro i hi j hj l hl hij hjl
    obtain ⟨_, fi', hi'⟩ := numL_mem.1 hi
    obtain ⟨_, fj', hj'⟩ := numL_mem.1 hj
    obtain ⟨_, fl', hl'⟩ := numL_mem.1 hl
    have ti := tri_iff hI h hi' hj' hl' (fst_ne fi' fj' hij) (fst_ne fi' fl' (by omega)) (fst_ne fj' fl' hjl)
    rw [Bool.eq_iff_iff]
    unfold qM3 qP3 onB'
    rw [Bool.and_eq_true, hasB_iff]
    have e2 : (triOk (ptAt P i) (ptAt P j) (ptAt P l) = true ∧ ∀ q ∈ hullM (srtU P), apt (triC (ptAt P i) (ptAt P j) (ptAt P l)) q ≤ (triC (ptAt P i) (ptAt P j) (ptAt P l)).N) ↔ (side (ptAt P i) (ptAt P j) (ptAt P l) ≠ 0 ∧ Sharp (ptAt P i) (ptAt P j) (ptAt P l) ∧ ∀ q ∈ hullM (srtU P), apt (tM (ptAt P i) (ptAt P j) (ptAt P l)) q ≤ (tM (ptAt P i) (ptAt P j) (ptAt P l)).N) := by
      constructor
      · rintro ⟨h1, h2⟩
        have h3 : triC (ptAt P i) (ptAt P j) (ptAt P l) = tM (ptAt P i) (ptAt P j) (ptAt P l) := by unfold triC; rw [h1]; rfl
        rw [h3] at h2
        have h4 := of_decide_eq_true h1
        exact ⟨h4.1, h4.2, h2⟩
      · rintro ⟨h1, h2, h3⟩
        have h4 : triOk (ptAt P i) (ptAt P j) (ptAt P l) = true := decide_eq_true ⟨h1, h2⟩
        have h5 : triC (ptAt P i) (ptAt P j) (ptAt P l) = tM (ptAt P i) (ptAt P j) (ptAt P l) := by unfold triC; rw [h4]; rfl
        rw [h5]
        exact ⟨h4, h3⟩
    rw [e2, ti]
    simp [and_assoc])
  have e3 := ft_filter (Q := fun i j l => onB' P c i && onB' P c j && onB' P c l && qP3 P i j l) (B := onB' P c) (fun i j l hq => by
    rw [Bool.and_eq_true, Bool.and_eq_true, Bool.and_eq_true] at hq
    exact ⟨hq.1.1.1, hq.1.1.2, hq.1.2⟩) (numL P)
  rw [e1, ← e3, ← rim_num hI h]
  refine ft_congr (rimL_sort P c) ?_
  intro i hi j hj l hl hij hjl
  have oi : onB' P c i = true := decide_eq_true (rimL_mem.1 hi).2.1
  have oj : onB' P c j = true := decide_eq_true (rimL_mem.1 hj).2.1
  have ol : onB' P c l = true := decide_eq_true (rimL_mem.1 hl).2.1
  rw [oi, oj, ol]
  rfl
/-- a point's first number -/
theorem fi_idx {P : List Pt} {p : Pt} (h : p ∈ P) : fi P p < P.length ∧ ptAt P (fi P p) = p ∧ fi P (ptAt P (fi P p)) = fi P p := by
  have f := fi_fst h
  have e := ptAt_of f.at'
  exact ⟨(List.getElem?_eq_some_iff.1 f.at').1, e, by rw [e]⟩
theorem fi_rim {P : List Pt} {c : Ic} {p : Pt} (h : p ∈ P) (h0 : apt c p = c.N) : fi P p ∈ rimL P c := by
  obtain ⟨a, b, d⟩ := fi_idx h
  exact rimL_mem.2 ⟨a, by rw [b]; exact h0, d⟩
theorem fp_two {Q : Nat → Nat → Bool} {L : List Nat} (hs : L.Pairwise (· < ·)) {i j : Nat} (hi : i ∈ L) (hj : j ∈ L) (h : i < j) (hq : Q i j = true) : fp Q L ≠ none := by
  intro hn
  have hp := fp_none hn
  have two : ∀ {M : List Nat}, M.Pairwise (· < ·) → M.Pairwise (fun i j => Q i j = false) → ∀ x ∈ M, ∀ y ∈ M, x < y → Q x y = false := by
    intro M
    induction M with
    | nil => intro _ _ x hx; cases hx
    | cons m M ihm =>
      intro s1 s2 x hx y hy hxy
      have t1 := List.pairwise_cons.1 s1
      have t2 := List.pairwise_cons.1 s2
      rcases List.mem_cons.1 hy with ey | ey
      · rcases List.mem_cons.1 hx with ex | ex
        · omega
        · have := t1.1 x ex; omega
      · rcases List.mem_cons.1 hx with ex | ex
        · rw [ex]; exact t2.1 y ey
        · exact ihm t1.2 t2.2 x ex y ey hxy
  have := two hs hp i hi j hj h
  rw [hq] at this
  cases this
theorem thr_mid {c : Ic} {k : Ci} {a b : Pt} (hI : Is c k) (ha : pw k a = 0) (hx : k.x * 2 = (a.1 : Rat) + (b.1 : Rat)) (hy : k.y * 2 = (a.2 : Rat) + (b.2 : Rat)) : thr [a, b] = c := by
  obtain ⟨k2, hI2, hM2, hx2, hy2⟩ := thr2 a b
  have e : k2 = k := by
    have p2 := hM2.fea.rim a (by simp)
    obtain ⟨x, y, n⟩ := k
    obtain ⟨x2, y2, n2⟩ := k2
    simp only [Ci.mk.injEq] at *
    have ex : x2 = x := by grind
    have ey : y2 = y := by grind
    refine ⟨ex, ey, ?_⟩
    unfold pw at ha p2
    simp only at ha p2
    rw [ex, ey] at p2
    grind
  rw [e] at hI2
  exact hI2.uniq hI
theorem sharp_perm {a b d : Pt} (h : Sharp a b d) : Sharp b d a ∧ Sharp a d b := by
  obtain ⟨h1, h2, h3⟩ := h
  have s : ∀ x y z : Pt, dt x z y = dt x y z := fun x y z => by unfold dt; grind
  refine ⟨⟨h2, h3, h1⟩, ⟨?_, ?_, ?_⟩⟩
  · rw [s]; exact h1
  · rw [s]; exact h3
  · rw [s]; exact h2
/-- where the points are not all one, a pair or a triple tells -/
theorem some_told {P S : List Pt} {c : Ic} {k : Ci} (hI : Is c k) (h : Md P [] S k) (hl : S.length ≤ 3) (hne : ∃ a ∈ P, ∃ b ∈ P, a ≠ b) : fp (qP2 P c) (rimL P c) ≠ none ∨ ft (qP3 P) (rimL P c) ≠ none := by
  rcases told h hl with ⟨s, hs, h0, hx, hy⟩ | ⟨a, ha, b, hb, hab, pa, pb, hx, hy⟩ | ⟨a, ha, b, hb, d, hd, ab, ad, bd, pa, pb, pd, hsh⟩
  · exfalso
    obtain ⟨a, ha, b, hb, hab⟩ := hne
    have one : ∀ q ∈ P, q = s := fun q hq => by
      by_cases e : q = s
      · exact e
      · have := tangent h0 (h.fea.has q hq) e
        rw [hx, hy] at this
        grind
    exact hab ((one a ha).trans (one b hb).symm)
  · left
    have ra := fi_rim ha ((hI.onr a).1 pa)
    have rb := fi_rim hb ((hI.onr b).1 pb)
    obtain ⟨_, ea, _⟩ := fi_idx ha
    obtain ⟨_, eb, _⟩ := fi_idx hb
    have hn : fi P a ≠ fi P b := fun e => hab (by rw [← ea, ← eb, e])
    rcases Nat.lt_or_gt_of_ne hn with g | g
    · exact fp_two (rimL_sort P c) ra rb g (by unfold qP2; rw [ea, eb]; exact decide_eq_true (thr_mid hI pa hx hy))
    · exact fp_two (rimL_sort P c) rb ra g (by unfold qP2; rw [ea, eb]; exact decide_eq_true (thr_mid hI pb (by rw [hx]; grind) (by rw [hy]; grind)))
  · right
    have ra := fi_rim ha ((hI.onr a).1 pa)
    have rb := fi_rim hb ((hI.onr b).1 pb)
    have rd := fi_rim hd ((hI.onr d).1 pd)
    obtain ⟨_, ea, _⟩ := fi_idx ha
    obtain ⟨_, eb, _⟩ := fi_idx hb
    obtain ⟨_, ed, _⟩ := fi_idx hd
    have nab : fi P a ≠ fi P b := fun e => ab (by rw [← ea, ← eb, e])
    have nad : fi P a ≠ fi P d := fun e => ad (by rw [← ea, ← ed, e])
    have nbd : fi P b ≠ fi P d := fun e => bd (by rw [← eb, ← ed, e])
    intro hn
    have no := ft_none (rimL_sort P c) hn
    have q : ∀ x y z : Pt, ptAt P (fi P x) = x → ptAt P (fi P y) = y → ptAt P (fi P z) = z → Sharp x y z → qP3 P (fi P x) (fi P y) (fi P z) = true := fun x y z hx hy hz hq => by
      unfold qP3
      rw [hx, hy, hz]
      exact decide_eq_true hq
    have s1 := hsh
    obtain ⟨s2, s3⟩ := sharp_perm s1
    obtain ⟨s4, _⟩ := sharp_perm s2
    obtain ⟨s5, _⟩ := sharp_perm s3
    obtain ⟨s6, _⟩ := sharp_perm s5
    rcases Nat.lt_or_gt_of_ne nab with g1 | g1 <;> rcases Nat.lt_or_gt_of_ne nad with g2 | g2 <;> rcases Nat.lt_or_gt_of_ne nbd with g3 | g3
    · have := no _ ra _ rb _ rd g1 g3; rw [q a b d ea eb ed s1] at this; cases this
    · have := no _ ra _ rd _ rb g2 g3; rw [q a d b ea ed eb s3] at this; cases this
    · omega
    · have := no _ rd _ ra _ rb g2 g1; rw [q d a b ed ea eb s4] at this; cases this
    · have := no _ rb _ ra _ rd g1 g2; rw [q b a d eb ea ed s6] at this; cases this
    · omega
    · have := no _ rb _ rd _ ra g3 g2; rw [q b d a eb ed ea s2] at this; cases this
    · have := no _ rd _ rb _ ra g3 g1; rw [q d b a ed eb ea s5] at this; cases this
end Go.Proofs.Ytdcecfgmfmpeeaa

namespace Go.Proofs.Ytdcecfgmfmpeeaa
open Go.ChangeShapes Go.WideShapes Go.ChangeAt Go.RowKit
set_option linter.unusedVariables false
set_option linter.unusedSimpArgs false

def nums (A : List Nat) : List Int := A.map fun (i : Nat) => (i : Int)
theorem nums_len (A : List Nat) : (nums A).length = A.length := by simp [nums]
theorem int_info3 : (Try.prog.info? 3).map (fun i => (i.zero, i.size, i.bytes)) = some (some (.int .i64 0), 1, 8) := by kernel_rfl
def rl (P : List Pt) (c : Ic) (i : Nat) : List Nat := (List.range i).filter fun j => onB' P c j && decide (fi P (ptAt P j) = j)
theorem rl_all (P : List Pt) (c : Ic) : rl P c P.length = rimL P c := rfl
theorem rl_succ (P : List Pt) (c : Ic) (i : Nat) : rl P c (i + 1) = if onB' P c i = true ∧ fi P (ptAt P i) = i then rl P c i ++ [i] else rl P c i := by
  unfold rl
  rw [List.range_succ, List.filter_append]
  by_cases h : onB' P c i = true ∧ fi P (ptAt P i) = i
  · rw [if_pos h]
    simp [h.1, h.2]
  · rw [if_neg h]
    by_cases h1 : onB' P c i = true
    · have h2 : ¬ fi P (ptAt P i) = i := fun e => h ⟨h1, e⟩
      simp [h1, h2]
    · simp [h1]
theorem rl_len (P : List Pt) (c : Ic) (i : Nat) : (rl P c i).length ≤ i := by
  have := List.length_filter_le (fun j => onB' P c j && decide (fi P (ptAt P j) = j)) (List.range i)
  rw [List.length_range] at this
  exact this
set_option maxHeartbeats 4000000 in
set_option maxRecDepth 100000 in
theorem onRim_any (b cap n : Nat) (P : List Pt) (c : Ic) (w : World) (hL : P.length = n) (hn : n ≤ 200) (hb : b < w.heap.size) (hI : IntsAt w b 0 (flat2 P)) (hN : Nrl P) (hc : NrS (c.X, c.Y, c.D)) :
    Calls Try.prog 67 #[icV c, .slice (some ⟨b, 0, none⟩) n cap] w fun e w' => ∃ v, e = .returned v ∧ Row w' (w.heap.size + 1) 3 1 v (rimL P c).length (nums (rimL P c)) ∧ Below w.heap.size w w' := by
  obtain ⟨iP, hi1, hy0, hy1, hy2⟩ := info_parts int_info3
  have HL := hide hL
  have HI := hide hI
  have HN := hide hN
  have HAP := hide (fun i Xw (h : i < n) => apart_any c (ptAt P i) Xw hc (hN.at (by omega)))
  have HIX := hide (fun i (X : World) (h : i < n) (hX : Below w.heap.size w X) => idxP_any b cap n P (ptAt P i).1 (ptAt P i).2 (fi P (ptAt P i)) X (hide hL) (by omega) (Nat.lt_of_lt_of_le hb hX.size) (hide (hI.below hX hb)) (hide (fi_fst (List.mem_of_getElem? (ptAt_some (L := P) (i := i) (by omega))))))
  have HFI := hide (fun i (h : i < n) => (List.getElem?_eq_some_iff.1 (fi_fst (List.mem_of_getElem? (ptAt_some (L := P) (i := i) (by omega)))).at').1)
  have HRS := hide (fun i => rl_succ P c i)
  have HRL := hide (fun i => rl_len P c i)
  have HAL : Hid (rl P c n = rimL P c) := hide (by rw [← hL]; rfl)
  have HON : Hid (∀ i, (onB' P c i = true ↔ apt c (ptAt P i) = c.N)) := hide (fun i => by unfold onB'; simp)
  obtain ⟨A, hA⟩ : ∃ A, rl P c = A := ⟨_, rfl⟩
  simp only [hA] at HRS HRL HAL
  have hA0 : A 0 = [] := by rw [← hA]; rfl
  have HA0 := hide hA0
  obtain ⟨X, Y, D, N⟩ := c
  have K0 : Hid (Below w.heap.size w (w.alloc (.cells #[.int .i64 X, .int .i64 Y, .int .i64 D, .int .i64 N] 72))) := hide (ba (Below.refl _ _) _)
  have R2 : Hid (cb (w.alloc (.cells #[.int .i64 X, .int .i64 Y, .int .i64 D, .int .i64 N] 72)) w.heap.size 72 [.int .i64 X, .int .i64 Y, .int .i64 D, .int .i64 N]) := hide (cb_new w 72 _ _ rfl)
  unfold icV at HAP ⊢
  simp only at HAP HON ⊢
  clear hA hA0 hL hI hN hc
  go_enter Try.func67, Try.ntmps67
  go_wp2_with fail
  generalize w.alloc (.cells #[.int .i64 X, .int .i64 Y, .int .i64 D, .int .i64 N] 72) = V0 at *
  go_loopw [5, 10] (fun z5 z X' => ∃ i : Nat, z = .int .i64 (i : Int) ∧ i ≤ n ∧ Row X' (w.heap.size + 1) 3 1 z5 (A i).length (nums (A i)) ∧ cb X' w.heap.size 72 [.int .i64 X, .int .i64 Y, .int .i64 D, .int .i64 N] ∧ Below w.heap.size w X') (fun _ z _ => n - (intOf z).toNat)
  case atStart => exact ⟨0, rfl, Nat.zero_le _, by rw [unhide HA0]; exact World.ownsRow_nil _ _ _ _, unhide R2, unhide K0⟩
  case round =>
    obtain ⟨i, rfl, hi, h5, h2, hw⟩ := hrel
    obtain ⟨ku, kc, rfl, _⟩ := h5.form
    have H5 := hide h5
    have H2 := hide h2
    have HW := hide hw
    clear h5 h2 hw
    by_cases h : i < n
    · have i1 : (i : Int) < (n : Int) := by omega
      have i0 : (0 : Int) ≤ (i : Int) := Int.natCast_nonneg _
      have iz : decide ((i : Int) < (n : Int)) = true := decide_eq_true i1
      have hx := ptAt_some (L := P) (i := i) (by rw [unhide HL]; exact h)
      have HAPi := hide (fun Xw => unhide HAP i Xw h)
      have HIXi := hide (fun X => unhide HIX i X h)
      have hfi := unhide HFI i h
      have hrs := unhide HRS i
      have hon := unhide HON i
      have hrl := unhide HRL i
      obtain ⟨⟨px, py⟩, hxy⟩ : ∃ q, ptAt P i = q := ⟨_, rfl⟩
      rw [hxy] at hx hrs hon hfi HAPi HIXi
      obtain ⟨c0, c1⟩ := pts_at ((unhide HI).below (unhide HW) hb) hx
      obtain ⟨ap, hap⟩ : ∃ ap, apt ⟨X, Y, D, N⟩ (px, py) = ap := ⟨_, rfl⟩
      obtain ⟨j, hj⟩ : ∃ j, fi P (px, py) = j := ⟨_, rfl⟩
      rw [hap] at hon HAPi
      rw [hj] at hrs hfi HIXi
      have HRSi := hide hrs
      have HONi := hide hon
      have hAl : Below wr.heap.size wr (wr.alloc (.cells #[.int .i64 px, .int .i64 py] 30)) := ba (Below.refl _ _) _
      have KX : Hid (Below w.heap.size w (wr.alloc (.cells #[.int .i64 px, .int .i64 py] 30))) := hide (ba (unhide HW) _)
      have X2 := hide ((unhide H2).bel hAl)
      have X5 := hide ((unhide H5).below hAl)
      have X7 : Hid (cb (wr.alloc (.cells #[.int .i64 px, .int .i64 py] 30)) wr.heap.size 30 [.int .i64 px, .int .i64 py]) := hide (cb_new wr 30 _ _ rfl)
      clear hx hxy hap hj hrs hon hAl H5 H2 HW
      go_wp2_with fail
      generalize wr.alloc (.cells #[.int .i64 px, .int .i64 py] 30) = Wx at *
      generalize wr.heap.size = g7 at *
      clear c0 c1
      by_cases hr : ap = N
      · refine Go.Code.wp_mono (Only.to (fun _ _ h => h)) (on5t (j := j) (r := ap) (x := px) (y := py) hr (hide ((unhide X2).cell (m := 0) rfl)) (hide ((unhide X2).cell (m := 1) rfl)) (hide ((unhide X2).cell (m := 2) rfl)) (hide ((unhide X2).cell (m := 3) rfl)) (hide ((unhide X7).cell (m := 0) rfl)) (hide ((unhide X7).cell (m := 1) rfl)) (hide fun Xw _ => unhide HAPi Xw) (hide fun Xw hX => unhide HIXi Xw (bc (unhide KX) hX)) (fun Wy hBy => ?_))
        have KY := hide (bc (unhide KX) hBy)
        have Y2 := hide ((unhide X2).bel hBy)
        have Y5 := hide ((unhide X5).below hBy)
        have lY := (unhide Y2).lt
        clear hBy KX X2 X5 X7 HAPi HIXi
        by_cases hij : j = i
        · have e1 : ((j : Int) == (i : Int)) = true := beq_iff_eq.2 (by omega)
          have hAi : A (i + 1) = A i ++ [i] := by rw [unhide HRSi, if_pos ⟨(unhide HONi).2 hr, hij⟩]
          have HAi := hide hAi
          clear hAi
          go_wp2_with (at_builtin; refine unhide ?_)
          refine hide ?_
          refine wpList_append_own _ rfl _ _ 37 rfl (w.heap.size + 1) 3 iP _ 1 8 Try.underlying37 hi1 hy0 hy1 hy2 rfl (by decide) _ (A i).length ((nums (A i)).map (Value.int .i64)) rfl ((unhide Y5).alloc _) _ 1 1 ([(i : Int)].map (Value.int .i64)) rfl rfl (by first | exact news_cells _ _ rfl | exact news_cells _ _ (by simp)) ints_one (by unfold maxLen; omega) (by omega) (by first | omega | (simp; omega)) ?_
          intro v1 w1 hown' hgrow _
          have R1 := own_more (wr := Wy) (news := [(i : Int)]) (by repeat (first | exact Below.refl _ _ | refine Below.alloc ?_ (by first | omega | (simp; omega)) _ | refine Below.drew ?_)) (by simp; omega) (unhide Y5) hown' hgrow
          have HR1 := hide R1.1
          have hB1 := R1.2
          have Q2 : Hid (cb w1 w.heap.size 72 [.int .i64 X, .int .i64 Y, .int .i64 D, .int .i64 N]) := hide ((hB1.block _ (Nat.lt_succ_self _)).trans (unhide Y2))
          have KQ : Hid (Below w.heap.size w w1) := hide ((unhide KY).trans (Below.mono hB1 (by omega)))
          clear hown' hgrow R1 hB1
          go_wp2_with fail
          go_roundw
          case rel =>
            refine ⟨i + 1, by simp, h, ?_, unhide Q2, unhide KQ⟩
            rw [unhide HAi]
            have e : nums (A i ++ [i]) = nums (A i) ++ [(i : Int)] := by simp [nums]
            rw [e, List.length_append]
            exact unhide HR1
          case measure => simp only [intOf]; omega
        · have e1 : ((j : Int) == (i : Int)) = false := beq_eq_false_iff_ne.2 (by omega)
          have hAi : A (i + 1) = A i := by rw [unhide HRSi, if_neg (fun q => hij q.2)]
          have HAi := hide hAi
          clear hAi
          go_wp2_with fail
          go_roundw
          case rel => exact ⟨i + 1, by simp, h, by rw [unhide HAi]; exact unhide Y5, unhide Y2, unhide KY⟩
          case measure => simp only [intOf]; omega
      · refine Go.Code.wp_mono (Only.to (fun _ _ h => h)) (on5f (j := 0) (r := ap) (x := px) (y := py) hr (hide ((unhide X2).cell (m := 0) rfl)) (hide ((unhide X2).cell (m := 1) rfl)) (hide ((unhide X2).cell (m := 2) rfl)) (hide ((unhide X2).cell (m := 3) rfl)) (hide ((unhide X7).cell (m := 0) rfl)) (hide ((unhide X7).cell (m := 1) rfl)) (hide fun Xw _ => unhide HAPi Xw) (fun Wy hBy => ?_))
        have KY := hide (bc (unhide KX) hBy)
        have Y2 := hide ((unhide X2).bel hBy)
        have Y5 := hide ((unhide X5).below hBy)
        have hAi : A (i + 1) = A i := by rw [unhide HRSi, if_neg (fun q => hr ((unhide HONi).1 q.1))]
        have HAi := hide hAi
        clear hBy KX X2 X5 X7 HAPi HIXi hAi
        go_wp2_with fail
        go_roundw
        case rel => exact ⟨i + 1, by simp, h, by rw [unhide HAi]; exact unhide Y5, unhide Y2, unhide KY⟩
        case measure => simp only [intOf]; omega
    · obtain rfl : n = i := by omega
      have i1 : ¬ (n : Int) < (n : Int) := by omega
      have iz : decide ((n : Int) < (n : Int)) = false := decide_eq_false i1
      go_wp2_with fail
      go_ret
      exact ⟨_, rfl, by rw [← unhide HAL]; exact unhide H5, unhide HW⟩
end Go.Proofs.Ytdcecfgmfmpeeaa

namespace Go.Proofs.Ytdcecfgmfmpeeaa
open Go.ChangeShapes Go.WideShapes Go.ChangeAt Go.RowKit
set_option linter.unusedVariables false
set_option linter.unusedSimpArgs false

/-- what is told: nothing, or a new list of numbers -/
def Tel (w : World) (v : Value) : Option (List Nat) → Prop
  | none => v = .slice none 0 0
  | some L => ∃ g, v = .slice (some ⟨g, 0, none⟩) L.length L.length ∧ g < w.heap.size ∧ IntsAt w g 0 (nums L)
theorem fp_at {Q : Nat → Nat → Bool} {A : List Nat} {a i : Nat} (h : A[a]? = some i) : fp Q (A.drop a) = match (A.drop (a + 1)).find? (Q i) with | some j => some (i, j) | none => fp Q (A.drop (a + 1)) := by
  have hl := (List.getElem?_eq_some_iff.1 h).1
  have e : A.drop a = i :: A.drop (a + 1) := by
    rw [List.drop_eq_getElem_cons hl]
    rw [List.getElem?_eq_getElem hl] at h
    cases h
    rfl
  rw [e]
  rfl
theorem find_at {q : Nat → Bool} {A : List Nat} {a i : Nat} (h : A[a]? = some i) : (A.drop a).find? q = if q i = true then some i else (A.drop (a + 1)).find? q := by
  have hl := (List.getElem?_eq_some_iff.1 h).1
  have e : A.drop a = i :: A.drop (a + 1) := by
    rw [List.drop_eq_getElem_cons hl]
    rw [List.getElem?_eq_getElem hl] at h
    cases h
    rfl
  rw [e]
  by_cases hq : q i = true
  · rw [if_pos hq, List.find?_cons_of_pos hq]
  · rw [if_neg hq, List.find?_cons_of_neg hq]
theorem ic_eq (c d : Ic) : (decide (c.X = d.X) && (decide (c.Y = d.Y) && (decide (c.D = d.D) && decide (c.N = d.N)))) = decide (c = d) := by
  obtain ⟨a1, a2, a3, a4⟩ := c
  obtain ⟨b1, b2, b3, b4⟩ := d
  simp only [Ic.mk.injEq]
  by_cases h1 : a1 = b1 <;> by_cases h2 : a2 = b2 <;> by_cases h3 : a3 = b3 <;> by_cases h4 : a4 = b4 <;> simp [h1, h2, h3, h4]
set_option maxHeartbeats 4000000 in
set_option maxRecDepth 100000 in
theorem dia_core (b cap n rb m rc : Nat) (P : List Pt) (A : List Nat) (c : Ic) (T : Nat → Nat → Ic) (w : World) (HL : Hid (P.length = n)) (hn : n ≤ 200) (hb : b < w.heap.size) (HI : Hid (IntsAt w b 0 (flat2 P)))
    (HM : Hid (A.length = m)) (hm : m ≤ 200) (hrc : m ≤ rc) (hrc2 : rc ≤ 9223372036854775807) (hrb : rb < w.heap.size) (HRI : Hid (IntsAt w rb 0 (nums A))) (HA : Hid (∀ i ∈ A, i < n))
    (HT : Hid (∀ a k i j (X : World) (g : Nat), A[a]? = some i → A[a + 1 + k]? = some j → cb X g 30 [.int .i64 (ptAt P i).1, .int .i64 (ptAt P i).2, .int .i64 (ptAt P j).1, .int .i64 (ptAt P j).2] → Calls Try.prog 65 #[.slice (some ⟨g, 0, none⟩) 2 2] X fun e w' => e = .returned (icV (T i j)) ∧ Below X.heap.size X w')) :
    Calls Try.prog 68 #[icV c, .slice (some ⟨b, 0, none⟩) n cap, .slice (some ⟨rb, 0, none⟩) m rc] w fun e w' => ∃ v, e = .returned v ∧ Tel w' v ((fp (fun i j => decide (T i j = c)) A).map fun q => [q.1, q.2]) ∧ Below w.heap.size w w' := by
  obtain ⟨X, Y, D, N⟩ := c
  have K0 : Hid (Below w.heap.size w (w.alloc (.cells #[.int .i64 X, .int .i64 Y, .int .i64 D, .int .i64 N] 72))) := hide (ba (Below.refl _ _) _)
  have R2 : Hid (cb (w.alloc (.cells #[.int .i64 X, .int .i64 Y, .int .i64 D, .int .i64 N] 72)) w.heap.size 72 [.int .i64 X, .int .i64 Y, .int .i64 D, .int .i64 N]) := hide (cb_new w 72 _ _ rfl)
  obtain ⟨Q, hQ⟩ : ∃ Q, (fun i j => decide (T i j = ⟨X, Y, D, N⟩)) = Q := ⟨_, rfl⟩
  have HQ : Hid (∀ i j, Q i j = (decide ((T i j).X = X) && (decide ((T i j).Y = Y) && (decide ((T i j).D = D) && decide ((T i j).N = N))))) := hide (fun i j => by rw [← hQ]; exact (ic_eq (T i j) ⟨X, Y, D, N⟩).symm)
  rw [hQ]
  unfold icV
  simp only
  clear hQ
  go_enter Try.func68, Try.ntmps68
  go_wp2_with fail
  generalize w.alloc (.cells #[.int .i64 X, .int .i64 Y, .int .i64 D, .int .i64 N] 72) = V0 at *
  go_loopw [13] (fun z X' => ∃ a : Nat, z = .int .i64 (a : Int) ∧ a ≤ m ∧ fp Q A = fp Q (A.drop a) ∧ cb X' w.heap.size 72 [.int .i64 X, .int .i64 Y, .int .i64 D, .int .i64 N] ∧ Below w.heap.size w X') (fun z _ => m - (intOf z).toNat)
  case atStart => exact ⟨0, rfl, Nat.zero_le _, rfl, unhide R2, unhide K0⟩
  case round =>
    obtain ⟨a, rfl, ha, hfp, h2, hw⟩ := hrel
    have H2 := hide h2
    have HW := hide hw
    have HFP := hide hfp
    clear h2 hw hfp
    by_cases h : a < m
    · have i1 : (a : Int) < (m : Int) := by omega
      have i0 : (0 : Int) ≤ (a : Int) := Int.natCast_nonneg _
      have iz : decide ((a : Int) < (m : Int)) = true := decide_eq_true i1
      obtain ⟨i, hi⟩ : ∃ i, A[a]? = some i := ⟨_, List.getElem?_eq_getElem (by rw [unhide HM]; exact h)⟩
      have hci := cells_of ((unhide HRI).below (unhide HW) hrb) (j := a) (x := (i : Int)) (by unfold nums; rw [List.getElem?_map, hi]; rfl)
      have wa : IntKind.i64.wrap ((a : Int) + 1) = ((a + 1 : Nat) : Int) := (wr64 (by omega) (by omega)).trans (by omega)
      have la : ((a + 1 : Nat) : Int) ≤ (m : Int) := by omega
      have la' : a + 1 ≤ m := by omega
      have lc : ((a + 1 : Nat) : Int) ≤ (rc : Int) := by omega
      have HI' := hide hi
      clear hi
      by_cases hlast : a + 1 = m
      · have HF0 : Hid (fp Q A = fp Q (A.drop (a + 1))) := hide (by
          have h1 := unhide HFP
          rw [fp_at (unhide HI')] at h1
          have h2 : A.drop (a + 1) = [] := List.drop_eq_nil_of_le (by rw [unhide HM]; omega)
          rw [h1, h2]
          rfl)
        have z0 : ((m - (a + 1) : Nat) : Int) = 0 := by omega
        have z1 : m - (a + 1) = 0 := by omega
        clear HFP hlast
        by_cases hr : rc = a + 1
        · subst hr
          go_wp2_with fail
          go_loopw [23] (fun z X' => z = .int .i64 0 ∧ X' = wr) (fun _ _ => 0)
          case atStart => exact ⟨rfl, rfl⟩
          case round =>
            obtain ⟨rfl, rfl⟩ := hrel
            go_wp2_with fail
            go_roundw
            case rel =>
              have H : ∃ a' : Nat, Value.int .i64 ((a : Int) + 1) = .int .i64 (a' : Int) ∧ a' ≤ m ∧ fp Q A = fp Q (A.drop a') ∧ cb wr w.heap.size 72 [.int .i64 X, .int .i64 Y, .int .i64 D, .int .i64 N] ∧ Below w.heap.size w wr := ⟨a + 1, by simp, la', unhide HF0, unhide H2, unhide HW⟩
              first | exact H | ((repeat apply Exists.intro); refine ⟨?_, rfl⟩; exact H)
            case measure => first | (simp only [intOf]; omega) | (simp [intOf]; omega)
        · have r0 := hr
          have r1 : (rc == a + 1) = false := beq_eq_false_iff_ne.2 (by omega)
          have r2 : ¬ rc = a + 1 := by omega
          have r3 : ¬ a + 1 = rc := by omega
          have r4 : ¬ rc ≤ a + 1 := by omega
          have r5 : ¬ rc - (a + 1) = 0 := by omega
          have r6 : (rc - (a + 1) == 0) = false := beq_eq_false_iff_ne.2 r5
          go_wp2_with fail
          go_loopw [23] (fun z X' => z = .int .i64 0 ∧ X' = wr) (fun _ _ => 0)
          case atStart => exact ⟨rfl, rfl⟩
          case round =>
            obtain ⟨rfl, rfl⟩ := hrel
            go_wp2_with fail
            go_roundw
            case rel =>
              have H : ∃ a' : Nat, Value.int .i64 ((a : Int) + 1) = .int .i64 (a' : Int) ∧ a' ≤ m ∧ fp Q A = fp Q (A.drop a') ∧ cb wr w.heap.size 72 [.int .i64 X, .int .i64 Y, .int .i64 D, .int .i64 N] ∧ Below w.heap.size w wr := ⟨a + 1, by simp, la', unhide HF0, unhide H2, unhide HW⟩
              first | exact H | ((repeat apply Exists.intro); refine ⟨?_, rfl⟩; exact H)
            case measure => first | (simp only [intOf]; omega) | (simp [intOf]; omega)
      · have hroom : a + 1 < rc := by omega
        have r1 : (rc == a + 1) = false := beq_eq_false_iff_ne.2 (by omega)
        have r2 : ¬ rc = a + 1 := by omega
        have r3 : ¬ a + 1 = rc := by omega
        have r4 : ¬ rc ≤ a + 1 := by omega
        have r5 : ¬ rc - (a + 1) = 0 := by omega
        have r6 : (rc - (a + 1) == 0) = false := beq_eq_false_iff_ne.2 r5
        have hin : i < n := unhide HA i (List.mem_of_getElem? (unhide HI'))
        have hpi := ptAt_some (L := P) (i := i) (by rw [unhide HL]; exact hin)
        have HTi := hide (fun k j X g => unhide HT a k i j X g (unhide HI'))
        obtain ⟨⟨px, py⟩, hxy⟩ : ∃ q, ptAt P i = q := ⟨_, rfl⟩
        rw [hxy] at hpi HTi
        have HPI := hide hpi
        clear hpi hxy
        go_wp2_with fail
        go_loopw [23] (fun z X' => ∃ k : Nat, z = .int .i64 (k : Int) ∧ k ≤ m - (a + 1) ∧ (A.drop (a + 1)).find? (Q i) = (A.drop (a + 1 + k)).find? (Q i) ∧ cb X' w.heap.size 72 [.int .i64 X, .int .i64 Y, .int .i64 D, .int .i64 N] ∧ Below w.heap.size w X') (fun z _ => m - (a + 1) - (intOf z).toNat)
        case atStart => exact ⟨0, rfl, Nat.zero_le _, rfl, unhide H2, unhide HW⟩
        case round =>
          clear hci
          obtain ⟨k, rfl, hk, hfd, h2, hw⟩ := hrel
          have J2 := hide h2
          have JW := hide hw
          have HFD := hide hfd
          clear h2 hw hfd
          by_cases h' : k < m - (a + 1)
          · have k1 : (k : Int) < ((m - (a + 1) : Nat) : Int) := by omega
            have kz : decide ((k : Int) < ((m - (a + 1) : Nat) : Int)) = true := decide_eq_true k1
            have k0 : (0 : Int) ≤ (k : Int) := Int.natCast_nonneg _
            obtain ⟨j, hj⟩ : ∃ j, A[a + 1 + k]? = some j := ⟨_, List.getElem?_eq_getElem (by rw [unhide HM]; omega)⟩
            have hcj := cells_of ((unhide HRI).below (unhide JW) hrb) (j := a + 1 + k) (x := (j : Int)) (by unfold nums; rw [List.getElem?_map, hj]; rfl)
            have hjn : j < n := unhide HA j (List.mem_of_getElem? hj)
            have hpj := ptAt_some (L := P) (i := j) (by rw [unhide HL]; exact hjn)
            have HTj := hide (fun X g => unhide HTi k j X g hj)
            obtain ⟨⟨qx, qy⟩, hqxy⟩ : ∃ q, ptAt P j = q := ⟨_, rfl⟩
            rw [hqxy] at hpj HTj
            have hIw := (unhide HI).below (unhide JW) hb
            obtain ⟨p0, p1⟩ := pts_at hIw (unhide HPI)
            obtain ⟨q0, q1⟩ := pts_at hIw hpj
            have HP0 := hide p0
            have HP1 := hide p1
            have HQ0 := hide q0
            have HQ1 := hide q1
            have HJ := hide hj
            have HQij := hide (unhide HQ i j)
            clear hIw p0 p1 q0 q1 hpj hqxy hj
            go_wp2_with fail
            refine Go.Code.wp_mono (Only.to (fun _ _ h => h)) (di7 (X' := (T i j).X) (Y' := (T i j).Y) (D' := (T i j).D) (N' := (T i j).N) HP0 HP1 HQ0 HQ1 (hide ((unhide J2).cell (m := 0) rfl)) (hide ((unhide J2).cell (m := 1) rfl)) (hide ((unhide J2).cell (m := 2) rfl)) (hide ((unhide J2).cell (m := 3) rfl)) (hide hin) (hide hjn) (hide fun g Xw hX hcb => unhide HTj Xw g hcb) (fun g8 Wy hBy _ _ => ?_))
            have Y2 := hide ((unhide J2).bel hBy)
            have KY := hide (bc (unhide JW) hBy)
            rw [← unhide HQij]
            clear hBy J2 JW HTj
            cases hq : Q i j with
            | true =>
              have HRES : Hid (fp Q A = some (i, j)) := hide (by
                rw [unhide HFP, fp_at (unhide HI'), unhide HFD, find_at (unhide HJ), hq]
                rfl)
              go_wp2_with fail
              go_ret
              refine ⟨_, rfl, ?_, ba (unhide KY) _⟩
              rw [unhide HRES]
              exact ⟨_, rfl, by simp, (iblk_new Wy 3 [(i : Int), (j : Int)]).ints⟩
            | false =>
              have HNX : Hid ((A.drop (a + 1)).find? (Q i) = (A.drop (a + 1 + (k + 1))).find? (Q i)) := hide (by
                rw [unhide HFD, find_at (unhide HJ), hq]
                rfl)
              go_wp2_with fail
              go_roundw
              case rel =>
                have H : ∃ k' : Nat, Value.int .i64 ((k : Int) + 1) = .int .i64 (k' : Int) ∧ k' ≤ m - (a + 1) ∧ (A.drop (a + 1)).find? (Q i) = (A.drop (a + 1 + k')).find? (Q i) ∧ cb Wy w.heap.size 72 [.int .i64 X, .int .i64 Y, .int .i64 D, .int .i64 N] ∧ Below w.heap.size w Wy := ⟨k + 1, by simp, h', unhide HNX, unhide Y2, unhide KY⟩
                first | exact H | ((repeat apply Exists.intro); refine ⟨?_, rfl⟩; exact H)
              case measure => first | (simp only [intOf]; omega) | (simp [intOf]; omega)
          · have ek : k = m - (a + 1) := by omega
            have k1 : ¬ (k : Int) < ((m - (a + 1) : Nat) : Int) := by omega
            have kz : decide ((k : Int) < ((m - (a + 1) : Nat) : Int)) = false := decide_eq_false k1
            have HF0 : Hid (fp Q A = fp Q (A.drop (a + 1))) := hide (by
              rw [unhide HFP, fp_at (unhide HI'), unhide HFD]
              have h2 : A.drop (a + 1 + k) = [] := List.drop_eq_nil_of_le (by rw [unhide HM]; omega)
              rw [h2]
              rfl)
            clear ek
            go_wp2_with fail
            go_roundw
            case rel =>
              have H : ∃ a' : Nat, Value.int .i64 ((a : Int) + 1) = .int .i64 (a' : Int) ∧ a' ≤ m ∧ fp Q A = fp Q (A.drop a') ∧ cb wr w.heap.size 72 [.int .i64 X, .int .i64 Y, .int .i64 D, .int .i64 N] ∧ Below w.heap.size w wr := ⟨a + 1, by simp, la', unhide HF0, unhide J2, unhide JW⟩
              first | exact H | ((repeat apply Exists.intro); refine ⟨?_, rfl⟩; exact H)
            case measure => first | (simp only [intOf]; omega) | (simp [intOf]; omega)
    · obtain rfl : m = a := by omega
      have i1 : ¬ (m : Int) < (m : Int) := by omega
      have iz : decide ((m : Int) < (m : Int)) = false := decide_eq_false i1
      have HN0 : Hid (fp Q A = none) := hide (by
        rw [unhide HFP, List.drop_eq_nil_of_le (by rw [unhide HM]; exact Nat.le_refl _)]
        rfl)
      go_wp2_with fail
      go_ret
      exact ⟨_, rfl, by rw [unhide HN0]; rfl, unhide HW⟩
end Go.Proofs.Ytdcecfgmfmpeeaa

namespace Go.Proofs.Ytdcecfgmfmpeeaa
open Go.ChangeShapes Go.WideShapes Go.ChangeAt Go.RowKit
set_option linter.unusedVariables false
set_option linter.unusedSimpArgs false

theorem tm3 (i j : Nat) (h : j < 6) (e : j % 3 = i) : ((j : Int)).tmod 3 = (i : Int) := by
  have : ∀ j : Fin 6, (((j : Nat) : Int)).tmod 3 = (((j : Nat) % 3 : Nat) : Int) := by decide
  rw [← e]
  exact this ⟨j, h⟩
set_option maxHeartbeats 4000000 in
set_option maxRecDepth 100000 in
theorem obt_core (b : Nat) (p : Nat → Pt) (dd : Nat → Int) (ob : Bool) (w : World) (HO1 : Hid (∀ i, i < 3 → dd i < 0 → ob = true)) (HO2 : Hid ((∀ i, i < 3 → 0 ≤ dd i) → ob = false)) (hb : b < w.heap.size) (HI : Hid (∀ i, i < 3 → w.cell? ⟨b, i * 2, none⟩ = some (.int .i64 (p i).1) ∧ w.cell? ⟨b, i * 2 + 1, none⟩ = some (.int .i64 (p i).2)))
    (HS1 : Hid (∀ i (X : World), i < 3 → Calls Try.prog 52 #[.agg #[.int .i64 (p ((i + 1) % 3)).1, .int .i64 (p ((i + 1) % 3)).2], .agg #[.int .i64 (p i).1, .int .i64 (p i).2]] X fun e w' => e = .returned (.agg #[.int .i64 ((p ((i + 1) % 3)).1 - (p i).1), .int .i64 ((p ((i + 1) % 3)).2 - (p i).2)]) ∧ Below X.heap.size X w'))
    (HS2 : Hid (∀ i (X : World), i < 3 → Calls Try.prog 52 #[.agg #[.int .i64 (p ((i + 2) % 3)).1, .int .i64 (p ((i + 2) % 3)).2], .agg #[.int .i64 (p i).1, .int .i64 (p i).2]] X fun e w' => e = .returned (.agg #[.int .i64 ((p ((i + 2) % 3)).1 - (p i).1), .int .i64 ((p ((i + 2) % 3)).2 - (p i).2)]) ∧ Below X.heap.size X w'))
    (HS3 : Hid (∀ i (X : World), i < 3 → Calls Try.prog 54 #[.agg #[.int .i64 ((p ((i + 1) % 3)).1 - (p i).1), .int .i64 ((p ((i + 1) % 3)).2 - (p i).2)], .agg #[.int .i64 ((p ((i + 2) % 3)).1 - (p i).1), .int .i64 ((p ((i + 2) % 3)).2 - (p i).2)]] X fun e w' => e = .returned (.int .i64 (dd i)) ∧ Below X.heap.size X w')) :
    Calls Try.prog 90 #[.pointer (some ⟨b, 0, none⟩)] w fun e w' => e = .returned (.bool ob) ∧ Below w.heap.size w w' := by
  go_enter Try.func90, Try.ntmps90
  go_wp2_with fail
  go_loopw [9] (fun z X => ∃ i : Nat, z = .int .i64 (i : Int) ∧ i ≤ 3 ∧ (∀ t, t < i → 0 ≤ dd t) ∧ Below w.heap.size w X) (fun z _ => 3 - (intOf z).toNat)
  case atStart => exact ⟨0, rfl, Nat.zero_le _, (fun t h => absurd h (Nat.not_lt_zero t)), Below.refl _ _⟩
  case round =>
    obtain ⟨i, rfl, hi, hdd, hw⟩ := hrel
    have HD := hide hdd
    have HW := hide hw
    clear hdd hw
    by_cases h : i < 3
    · have i1 : (i : Int) < 3 := by omega
      have i0 : (0 : Int) ≤ (i : Int) := Int.natCast_nonneg _
      have iz : decide ((i : Int) < 3) = true := decide_eq_true i1
      obtain ⟨j, hj⟩ : ∃ j, (i + 1) % 3 = j := ⟨_, rfl⟩
      obtain ⟨l, hl⟩ : ∃ l, (i + 2) % 3 = l := ⟨_, rfl⟩
      have hj3 : j < 3 := by omega
      have hl3 : l < 3 := by omega
      have T1 := hide (fun X => unhide HS1 i X h)
      have T2 := hide (fun X => unhide HS2 i X h)
      have T3 := hide (fun X => unhide HS3 i X h)
      rw [hj] at T1 T3
      rw [hl] at T2 T3
      have W1 : Hid (IntKind.i64.wrap ((i : Int) + 1) = ((i + 1 : Nat) : Int)) := hide ((wr64 (by omega) (by omega)).trans (by omega))
      have W2 : Hid (IntKind.i64.wrap ((i : Int) + 2) = ((i + 2 : Nat) : Int)) := hide ((wr64 (by omega) (by omega)).trans (by omega))
      have M1 : Hid (((i + 1 : Nat) : Int).tmod 3 = (j : Int)) := hide (tm3 j (i + 1) (by omega) hj)
      have M2 : Hid (((i + 2 : Nat) : Int).tmod 3 = (l : Int)) := hide (tm3 l (i + 2) (by omega) hl)
      have C0 := hide (keep1 (unhide HW) (unhide HI i h).1)
      have C1 := hide (keep1 (unhide HW) (unhide HI i h).2)
      have J0 := hide (keep1 (unhide HW) (unhide HI j hj3).1)
      have J1 := hide (keep1 (unhide HW) (unhide HI j hj3).2)
      have L0 := hide (keep1 (unhide HW) (unhide HI l hl3).1)
      have L1 := hide (keep1 (unhide HW) (unhide HI l hl3).2)
      have HLi := hide h
      have HJ3 := hide hj3
      have HL3 := hide hl3
      clear hj hl hj3 hl3
      go_wp2_with fail
      refine Go.Code.wp_mono (Only.to (fun _ _ h => h)) (ob3 C0 C1 HLi (fun g4 Wx hBx v4 _ => ?_))
      have KX := hide (bc (unhide HW) hBx)
      have X4 := hide v4
      have J0x := hide (keep1 hBx (unhide J0))
      have J1x := hide (keep1 hBx (unhide J1))
      have L0x := hide (keep1 hBx (unhide L0))
      have L1x := hide (keep1 hBx (unhide L1))
      clear v4 hBx J0 J1 L0 L1 C0 C1 HW
      try go_wp2_with fail
      refine Go.Code.wp_mono (Only.to (fun _ _ h => h)) (ob4 J0x J1x L0x L1x W1 M1 HJ3 W2 M2 HL3 (fun g5 g6 Wy hBy v5 _ v6 _ _ => ?_))
      have KY := hide (bc (unhide KX) hBy)
      have Y4 := hide ((unhide X4).bel hBy)
      have Y5 := hide v5
      have Y6 := hide v6
      clear v5 v6 hBy KX X4 J0x J1x L0x L1x
      try go_wp2_with fail
      refine Go.Code.wp_mono (Only.to (fun _ _ h => h)) (ob5 (r := dd i) (hide ((unhide Y4).cell (m := 0) rfl)) (hide ((unhide Y4).cell (m := 1) rfl)) (hide ((unhide Y5).cell (m := 0) rfl)) (hide ((unhide Y5).cell (m := 1) rfl)) (hide ((unhide Y6).cell (m := 0) rfl)) (hide ((unhide Y6).cell (m := 1) rfl)) (hide fun X _ => unhide T1 X) (hide fun X _ => unhide T2 X) (hide fun X _ => unhide T3 X) (fun Wz hBz => ?_))
      have KZ := hide (bc (unhide KY) hBz)
      clear hBz KY Y4 Y5 Y6 T1 T2 T3
      by_cases hlt : dd i < 0
      · have d0 : decide (dd i < 0) = true := decide_eq_true hlt
        have HE : Hid (ob = true) := hide (unhide HO1 i h hlt)
        go_wp2_with fail
        go_ret
        exact ⟨by rw [unhide HE]; rfl, unhide KZ⟩
      · have d0 : decide (dd i < 0) = false := decide_eq_false hlt
        have HE : Hid (∀ t, t < i + 1 → 0 ≤ dd t) := hide (fun t ht => by
          rcases Nat.lt_or_ge t i with h1 | h1
          · exact unhide HD t h1
          · have : t = i := by omega
            rw [this]; omega)
        have w1 := unhide W1
        go_wp2_with fail
        go_roundw
        case rel =>
          have H : ∃ i' : Nat, Value.int .i64 ((i : Int) + 1) = .int .i64 (i' : Int) ∧ i' ≤ 3 ∧ (∀ t, t < i' → 0 ≤ dd t) ∧ Below w.heap.size w Wz := ⟨i + 1, by simp, h, unhide HE, unhide KZ⟩
          first | exact H | ((repeat apply Exists.intro); refine ⟨?_, rfl⟩; exact H)
        case measure => first | (simp only [intOf]; omega) | (simp [intOf]; omega)
    · have e3 : i = 3 := by omega
      have HE : Hid (ob = false) := hide (unhide HO2 (fun t ht => unhide HD t (by omega)))
      subst e3
      go_wp2_with fail
      go_ret
      exact ⟨by rw [unhide HE]; rfl, unhide HW⟩
/-- three points -/
def p3 (a q c : Pt) : Nat → Pt
  | 0 => a
  | 1 => q
  | _ => c
def dd3 (a q c : Pt) : Nat → Int
  | 0 => dt a q c
  | 1 => dt q c a
  | _ => dt c a q
theorem lt3 {Q : Nat → Prop} (h0 : Q 0) (h1 : Q 1) (h2 : Q 2) : ∀ i, i < 3 → Q i
  | 0, _ => h0
  | 1, _ => h1
  | 2, _ => h2
theorem obt_any (b : Nat) (a q c : Pt) (w : World) (ha : Nr1 a) (hq : Nr1 q) (hc : Nr1 c) (hb : cb w b 97 [.int .i64 a.1, .int .i64 a.2, .int .i64 q.1, .int .i64 q.2, .int .i64 c.1, .int .i64 c.2]) :
    Calls Try.prog 90 #[.pointer (some ⟨b, 0, none⟩)] w fun e w' => e = .returned (.bool (!decide (Sharp a q c))) ∧ Below w.heap.size w w' := by
  have key := obt_core b (p3 a q c) (dd3 a q c) (!decide (Sharp a q c)) w
    (hide (lt3 (Q := fun i => dd3 a q c i < 0 → (!decide (Sharp a q c)) = true) (fun h => by rw [decide_eq_false (fun hs : Sharp a q c => by have := hs.1; change dt a q c < 0 at h; omega)]; rfl) (fun h => by rw [decide_eq_false (fun hs : Sharp a q c => by have := hs.2.1; change dt q c a < 0 at h; omega)]; rfl) (fun h => by rw [decide_eq_false (fun hs : Sharp a q c => by have := hs.2.2; change dt c a q < 0 at h; omega)]; rfl)))
    (hide (fun h => by rw [decide_eq_true (show Sharp a q c from ⟨h 0 (by omega), h 1 (by omega), h 2 (by omega)⟩)]; rfl)) hb.lt (hide (lt3 ⟨hb.cell (m := 0) rfl, hb.cell (m := 1) rfl⟩ ⟨hb.cell (m := 2) rfl, hb.cell (m := 3) rfl⟩ ⟨hb.cell (m := 4) rfl, hb.cell (m := 5) rfl⟩))
    (hide fun i X h => lt3 (Q := fun i => Calls Try.prog 52 #[.agg #[.int .i64 (p3 a q c ((i + 1) % 3)).1, .int .i64 (p3 a q c ((i + 1) % 3)).2], .agg #[.int .i64 (p3 a q c i).1, .int .i64 (p3 a q c i).2]] X fun e w' => e = .returned (.agg #[.int .i64 ((p3 a q c ((i + 1) % 3)).1 - (p3 a q c i).1), .int .i64 ((p3 a q c ((i + 1) % 3)).2 - (p3 a q c i).2)]) ∧ Below X.heap.size X w') (sub_bel q.1 q.2 a.1 a.2 X (nr_ptOk hq) (nr_ptOk ha)) (sub_bel c.1 c.2 q.1 q.2 X (nr_ptOk hc) (nr_ptOk hq)) (sub_bel a.1 a.2 c.1 c.2 X (nr_ptOk ha) (nr_ptOk hc)) i h)
    (hide fun i X h => lt3 (Q := fun i => Calls Try.prog 52 #[.agg #[.int .i64 (p3 a q c ((i + 2) % 3)).1, .int .i64 (p3 a q c ((i + 2) % 3)).2], .agg #[.int .i64 (p3 a q c i).1, .int .i64 (p3 a q c i).2]] X fun e w' => e = .returned (.agg #[.int .i64 ((p3 a q c ((i + 2) % 3)).1 - (p3 a q c i).1), .int .i64 ((p3 a q c ((i + 2) % 3)).2 - (p3 a q c i).2)]) ∧ Below X.heap.size X w') (sub_bel c.1 c.2 a.1 a.2 X (nr_ptOk hc) (nr_ptOk ha)) (sub_bel a.1 a.2 q.1 q.2 X (nr_ptOk ha) (nr_ptOk hq)) (sub_bel q.1 q.2 c.1 c.2 X (nr_ptOk hq) (nr_ptOk hc)) i h)
    (hide fun i X h => by
      obtain ⟨a1, a2, a3, a4⟩ := ha
      obtain ⟨q1, q2, q3, q4⟩ := hq
      obtain ⟨c1, c2, c3, c4⟩ := hc
      exact lt3 (Q := fun i => Calls Try.prog 54 #[.agg #[.int .i64 ((p3 a q c ((i + 1) % 3)).1 - (p3 a q c i).1), .int .i64 ((p3 a q c ((i + 1) % 3)).2 - (p3 a q c i).2)], .agg #[.int .i64 ((p3 a q c ((i + 2) % 3)).1 - (p3 a q c i).1), .int .i64 ((p3 a q c ((i + 2) % 3)).2 - (p3 a q c i).2)]] X fun e w' => e = .returned (.int .i64 (dd3 a q c i)) ∧ Below X.heap.size X w') (alongW (q.1 - a.1) (q.2 - a.2) (c.1 - a.1) (c.2 - a.2) X (by omega) (by omega)) (alongW (c.1 - q.1) (c.2 - q.2) (a.1 - q.1) (a.2 - q.2) X (by omega) (by omega)) (alongW (a.1 - c.1) (a.2 - c.2) (q.1 - c.1) (q.2 - c.2) X (by omega) (by omega)) i h)
  exact key
end Go.Proofs.Ytdcecfgmfmpeeaa

namespace Go.Proofs.Ytdcecfgmfmpeeaa
open Go.ChangeShapes Go.WideShapes Go.ChangeAt Go.RowKit
set_option linter.unusedVariables false
set_option linter.unusedSimpArgs false

theorem ft_at {Q : Nat → Nat → Nat → Bool} {A : List Nat} {a i : Nat} (h : A[a]? = some i) : ft Q (A.drop a) = match fp (Q i) (A.drop (a + 1)) with | some (j, l) => some (i, j, l) | none => ft Q (A.drop (a + 1)) := by
  have hl := (List.getElem?_eq_some_iff.1 h).1
  have e : A.drop a = i :: A.drop (a + 1) := by
    rw [List.drop_eq_getElem_cons hl]
    rw [List.getElem?_eq_getElem hl] at h
    cases h
    rfl
  rw [e]
  rfl
set_option maxHeartbeats 4000000 in
set_option maxRecDepth 100000 in
theorem not_core (b cap n rb m rc : Nat) (P : List Pt) (A : List Nat) (Q : Nat → Nat → Nat → Bool) (w : World) (HL : Hid (P.length = n)) (hn : n ≤ 200) (hb : b < w.heap.size) (HI : Hid (IntsAt w b 0 (flat2 P)))
    (HM : Hid (A.length = m)) (hm : m ≤ 200) (hrc : m ≤ rc) (hrc2 : rc ≤ 9223372036854775807) (hrb : rb < w.heap.size) (HRI : Hid (IntsAt w rb 0 (nums A))) (HA : Hid (∀ i ∈ A, i < n))
    (HT : Hid (∀ i j l (X : World) (g : Nat), i < n → j < n → l < n → cb X g 97 [.int .i64 (ptAt P i).1, .int .i64 (ptAt P i).2, .int .i64 (ptAt P j).1, .int .i64 (ptAt P j).2, .int .i64 (ptAt P l).1, .int .i64 (ptAt P l).2] → Calls Try.prog 90 #[.pointer (some ⟨g, 0, none⟩)] X fun e w' => e = .returned (.bool (!Q i j l)) ∧ Below X.heap.size X w')) :
    Calls Try.prog 69 #[.slice (some ⟨b, 0, none⟩) n cap, .slice (some ⟨rb, 0, none⟩) m rc] w fun e w' => ∃ v, e = .returned v ∧ Tel w' v ((ft Q A).map fun q => [q.1, q.2.1, q.2.2]) ∧ Below w.heap.size w w' := by
  go_enter Try.func69, Try.ntmps69
  go_wp2_with fail
  go_loopw [12] (fun z X' => ∃ a : Nat, z = .int .i64 (a : Int) ∧ a ≤ m ∧ ft Q A = ft Q (A.drop a) ∧ Below w.heap.size w X') (fun z _ => m - (intOf z).toNat)
  case atStart => exact ⟨0, rfl, Nat.zero_le _, rfl, Below.refl _ _⟩
  case round =>
    obtain ⟨a, rfl, ha, hft, hw⟩ := hrel
    have HW := hide hw
    have HFT := hide hft
    clear hw hft
    by_cases h : a < m
    · have i1 : (a : Int) < (m : Int) := by omega
      have i0 : (0 : Int) ≤ (a : Int) := Int.natCast_nonneg _
      have iz : decide ((a : Int) < (m : Int)) = true := decide_eq_true i1
      obtain ⟨i, hi⟩ : ∃ i, A[a]? = some i := ⟨_, List.getElem?_eq_getElem (by rw [unhide HM]; exact h)⟩
      have hci := cells_of ((unhide HRI).below (unhide HW) hrb) (j := a) (x := (i : Int)) (by unfold nums; rw [List.getElem?_map, hi]; rfl)
      have wa : IntKind.i64.wrap ((a : Int) + 1) = ((a + 1 : Nat) : Int) := (wr64 (by omega) (by omega)).trans (by omega)
      have la : a + 1 ≤ m := by omega
      have hin : i < n := unhide HA i (List.mem_of_getElem? hi)
      have hpi := ptAt_some (L := P) (i := i) (by rw [unhide HL]; exact hin)
      have HTi := hide (fun j l X g => unhide HT i j l X g hin)
      obtain ⟨⟨px, py⟩, hxy⟩ : ∃ q, ptAt P i = q := ⟨_, rfl⟩
      rw [hxy] at hpi HTi
      have HPI := hide hpi
      have HI' := hide hi
      clear hi hpi hxy
      go_wp2_with fail
      go_loopw [7] (fun z X' => ∃ j : Nat, z = .int .i64 (j : Int) ∧ a + 1 ≤ j ∧ j ≤ m ∧ fp (Q i) (A.drop (a + 1)) = fp (Q i) (A.drop j) ∧ Below w.heap.size w X') (fun z _ => m - (intOf z).toNat)
      case atStart => exact ⟨a + 1, by simp, Nat.le_refl _, la, rfl, unhide HW⟩
      case round =>
        clear hci
        obtain ⟨j, rfl, hj1, hj2, hfp, hw⟩ := hrel
        have JW := hide hw
        have HFP := hide hfp
        clear hw hfp HW
        by_cases h' : j < m
        · have j1 : (j : Int) < (m : Int) := by omega
          have j0 : (0 : Int) ≤ (j : Int) := Int.natCast_nonneg _
          have jz : decide ((j : Int) < (m : Int)) = true := decide_eq_true j1
          obtain ⟨k, hk⟩ : ∃ k, A[j]? = some k := ⟨_, List.getElem?_eq_getElem (by rw [unhide HM]; exact h')⟩
          have wj : IntKind.i64.wrap ((j : Int) + 1) = ((j + 1 : Nat) : Int) := (wr64 (by omega) (by omega)).trans (by omega)
          have lj : j + 1 ≤ m := by omega
          have ljI : ((j + 1 : Nat) : Int) ≤ (m : Int) := by omega
          have lcI : ((j + 1 : Nat) : Int) ≤ (rc : Int) := by omega
          have HK' := hide hk
          clear hk
          by_cases hlast : j + 1 = m
          · have HF0 : Hid (fp (Q i) (A.drop (a + 1)) = fp (Q i) (A.drop (j + 1))) := hide (by
              rw [unhide HFP, fp_at (unhide HK')]
              have h2 : A.drop (j + 1) = [] := List.drop_eq_nil_of_le (by rw [unhide HM]; omega)
              rw [h2]
              rfl)
            have z0 : ((m - (j + 1) : Nat) : Int) = 0 := by omega
            have z1 : m - (j + 1) = 0 := by omega
            clear HFP hlast
            by_cases hr : rc = j + 1
            · subst hr
              go_wp2_with fail
              go_loopw [30] (fun z X' => z = .int .i64 0 ∧ X' = wr) (fun _ _ => 0)
              case atStart => exact ⟨rfl, rfl⟩
              case round =>
                obtain ⟨rfl, rfl⟩ := hrel
                go_wp2_with fail
                go_roundw
                case rel =>
                  have H : ∃ j' : Nat, Value.int .i64 ((j : Int) + 1) = .int .i64 (j' : Int) ∧ a + 1 ≤ j' ∧ j' ≤ m ∧ fp (Q i) (A.drop (a + 1)) = fp (Q i) (A.drop j') ∧ Below w.heap.size w wr := ⟨j + 1, by simp, by omega, lj, unhide HF0, unhide JW⟩
                  first | exact H | ((repeat apply Exists.intro); refine ⟨?_, rfl⟩; exact H)
                case measure => first | (simp only [intOf]; omega) | (simp [intOf]; omega)
            · have r0 := hr
              have r1 : (rc == j + 1) = false := beq_eq_false_iff_ne.2 (by omega)
              have r2 : ¬ rc = j + 1 := by omega
              have r3 : ¬ j + 1 = rc := by omega
              have r4 : ¬ rc ≤ j + 1 := by omega
              have r5 : ¬ rc - (j + 1) = 0 := by omega
              have r6 : (rc - (j + 1) == 0) = false := beq_eq_false_iff_ne.2 r5
              go_wp2_with fail
              go_loopw [30] (fun z X' => z = .int .i64 0 ∧ X' = wr) (fun _ _ => 0)
              case atStart => exact ⟨rfl, rfl⟩
              case round =>
                obtain ⟨rfl, rfl⟩ := hrel
                go_wp2_with fail
                go_roundw
                case rel =>
                  have H : ∃ j' : Nat, Value.int .i64 ((j : Int) + 1) = .int .i64 (j' : Int) ∧ a + 1 ≤ j' ∧ j' ≤ m ∧ fp (Q i) (A.drop (a + 1)) = fp (Q i) (A.drop j') ∧ Below w.heap.size w wr := ⟨j + 1, by simp, by omega, lj, unhide HF0, unhide JW⟩
                  first | exact H | ((repeat apply Exists.intro); refine ⟨?_, rfl⟩; exact H)
                case measure => first | (simp only [intOf]; omega) | (simp [intOf]; omega)
          · have hroom : j + 1 < rc := by omega
            have r1 : (rc == j + 1) = false := beq_eq_false_iff_ne.2 (by omega)
            have r2 : ¬ rc = j + 1 := by omega
            have r3 : ¬ j + 1 = rc := by omega
            have r4 : ¬ rc ≤ j + 1 := by omega
            have r5 : ¬ rc - (j + 1) = 0 := by omega
            have r6 : (rc - (j + 1) == 0) = false := beq_eq_false_iff_ne.2 r5
            have hkn : k < n := unhide HA k (List.mem_of_getElem? (unhide HK'))
            have hpk := ptAt_some (L := P) (i := k) (by rw [unhide HL]; exact hkn)
            have HTk := hide (fun l X g => unhide HTi k l X g hkn)
            obtain ⟨⟨kx, ky⟩, hkxy⟩ : ∃ q, ptAt P k = q := ⟨_, rfl⟩
            rw [hkxy] at hpk HTk
            have HPK := hide hpk
            clear hpk hkxy
            go_wp2_with fail
            go_loopw [30] (fun z X' => ∃ t : Nat, z = .int .i64 (t : Int) ∧ t ≤ m - (j + 1) ∧ (A.drop (j + 1)).find? (Q i k) = (A.drop (j + 1 + t)).find? (Q i k) ∧ Below w.heap.size w X') (fun z _ => m - (j + 1) - (intOf z).toNat)
            case atStart => exact ⟨0, rfl, Nat.zero_le _, rfl, unhide JW⟩
            case round =>
              obtain ⟨t, rfl, ht, hfd, hw⟩ := hrel
              have TW := hide hw
              have HFD := hide hfd
              clear hw hfd JW
              by_cases h'' : t < m - (j + 1)
              · have t1 : (t : Int) < ((m - (j + 1) : Nat) : Int) := by omega
                have tz : decide ((t : Int) < ((m - (j + 1) : Nat) : Int)) = true := decide_eq_true t1
                have t0 : (0 : Int) ≤ (t : Int) := Int.natCast_nonneg _
                obtain ⟨l, hl⟩ : ∃ l, A[j + 1 + t]? = some l := ⟨_, List.getElem?_eq_getElem (by rw [unhide HM]; omega)⟩
                have hRw := (unhide HRI).below (unhide TW) hrb
                have hcl := cells_of hRw (j := j + 1 + t) (x := (l : Int)) (by unfold nums; rw [List.getElem?_map, hl]; rfl)
                have hck := cells_of hRw (j := j) (x := (k : Int)) (by unfold nums; rw [List.getElem?_map, unhide HK']; rfl)
                have hln : l < n := unhide HA l (List.mem_of_getElem? hl)
                have hpl := ptAt_some (L := P) (i := l) (by rw [unhide HL]; exact hln)
                have HTl := hide (fun X g => unhide HTk l X g hln)
                obtain ⟨⟨lx, ly⟩, hlxy⟩ : ∃ q, ptAt P l = q := ⟨_, rfl⟩
                rw [hlxy] at hpl HTl
                have hIw := (unhide HI).below (unhide TW) hb
                obtain ⟨p0, p1⟩ := pts_at hIw (unhide HPI)
                obtain ⟨q0, q1⟩ := pts_at hIw (unhide HPK)
                obtain ⟨e0, e1⟩ := pts_at hIw hpl
                have HP0 := hide p0
                have HP1 := hide p1
                have HQ0 := hide q0
                have HQ1 := hide q1
                have HE0 := hide e0
                have HE1 := hide e1
                have HCK := hide hck
                have HLl := hide hl
                clear hIw p0 p1 q0 q1 e0 e1 hpl hlxy hl hRw hck
                go_wp2_with fail
                refine Go.Code.wp_mono (Only.to (fun _ _ h => h)) (no10 (ob := !Q i k l) HP0 HP1 HCK HQ0 HQ1 HE0 HE1 (hide hin) (hide h') (hide hkn) (hide hln) (hide fun g Xw hX hcb => unhide HTl Xw g hcb) (fun g16 Wy hBy _ _ => ?_))
                have KY := hide (bc (unhide TW) hBy)
                have CK := hide (keep1 hBy (unhide HCK))
                rw [Bool.not_not]
                clear hBy HTl TW HCK
                cases hq : Q i k l with
                | true =>
                  have HRES : Hid (ft Q A = some (i, k, l)) := hide (by
                    rw [unhide HFT, ft_at (unhide HI'), unhide HFP, fp_at (unhide HK'), unhide HFD, find_at (unhide HLl), hq]
                    rfl)
                  have ck := unhide CK
                  go_wp2_with fail
                  go_ret
                  refine ⟨_, rfl, ?_, ba (unhide KY) _⟩
                  rw [unhide HRES]
                  exact ⟨_, rfl, by simp, (iblk_new Wy 3 [(i : Int), (k : Int), (l : Int)]).ints⟩
                | false =>
                  have HNX : Hid ((A.drop (j + 1)).find? (Q i k) = (A.drop (j + 1 + (t + 1))).find? (Q i k)) := hide (by
                    rw [unhide HFD, find_at (unhide HLl), hq]
                    rfl)
                  go_wp2_with fail
                  go_roundw
                  case rel =>
                    have H : ∃ t' : Nat, Value.int .i64 ((t : Int) + 1) = .int .i64 (t' : Int) ∧ t' ≤ m - (j + 1) ∧ (A.drop (j + 1)).find? (Q i k) = (A.drop (j + 1 + t')).find? (Q i k) ∧ Below w.heap.size w Wy := ⟨t + 1, by simp, h'', unhide HNX, unhide KY⟩
                    first | exact H | ((repeat apply Exists.intro); refine ⟨?_, rfl⟩; exact H)
                  case measure => first | (simp only [intOf]; omega) | (simp [intOf]; omega)
              · have et : t = m - (j + 1) := by omega
                have t1 : ¬ (t : Int) < ((m - (j + 1) : Nat) : Int) := by omega
                have tz : decide ((t : Int) < ((m - (j + 1) : Nat) : Int)) = false := decide_eq_false t1
                have HF0 : Hid (fp (Q i) (A.drop (a + 1)) = fp (Q i) (A.drop (j + 1))) := hide (by
                  rw [unhide HFP, fp_at (unhide HK'), unhide HFD]
                  have h2 : A.drop (j + 1 + t) = [] := List.drop_eq_nil_of_le (by rw [unhide HM]; omega)
                  rw [h2]
                  rfl)
                clear et
                go_wp2_with fail
                go_roundw
                case rel =>
                  have H : ∃ j' : Nat, Value.int .i64 ((j : Int) + 1) = .int .i64 (j' : Int) ∧ a + 1 ≤ j' ∧ j' ≤ m ∧ fp (Q i) (A.drop (a + 1)) = fp (Q i) (A.drop j') ∧ Below w.heap.size w wr := ⟨j + 1, by simp, by omega, lj, unhide HF0, unhide TW⟩
                  first | exact H | ((repeat apply Exists.intro); refine ⟨?_, rfl⟩; exact H)
                case measure => first | (simp only [intOf]; omega) | (simp [intOf]; omega)
        · have ej : j = m := by omega
          have j1 : ¬ (j : Int) < (m : Int) := by omega
          have jz : decide ((j : Int) < (m : Int)) = false := decide_eq_false j1
          have HF0 : Hid (ft Q A = ft Q (A.drop (a + 1))) := hide (by
            rw [unhide HFT, ft_at (unhide HI'), unhide HFP]
            have h2 : A.drop j = [] := List.drop_eq_nil_of_le (by rw [unhide HM]; omega)
            rw [h2]
            rfl)
          clear ej
          go_wp2_with fail
          go_roundw
          case rel =>
            have H : ∃ a' : Nat, Value.int .i64 ((a : Int) + 1) = .int .i64 (a' : Int) ∧ a' ≤ m ∧ ft Q A = ft Q (A.drop a') ∧ Below w.heap.size w wr := ⟨a + 1, by simp, la, unhide HF0, unhide JW⟩
            first | exact H | ((repeat apply Exists.intro); refine ⟨?_, rfl⟩; exact H)
          case measure => first | (simp only [intOf]; omega) | (simp [intOf]; omega)
    · obtain rfl : m = a := by omega
      have i1 : ¬ (m : Int) < (m : Int) := by omega
      have iz : decide ((m : Int) < (m : Int)) = false := decide_eq_false i1
      have HN0 : Hid (ft Q A = none) := hide (by
        rw [unhide HFT, List.drop_eq_nil_of_le (by rw [unhide HM]; exact Nat.le_refl _)]
        rfl)
      go_wp2_with fail
      go_ret
      exact ⟨_, rfl, by rw [unhide HN0]; rfl, unhide HW⟩
end Go.Proofs.Ytdcecfgmfmpeeaa

namespace Go.Proofs.Ytdcecfgmfmpeeaa
open Go.ChangeShapes Go.WideShapes Go.ChangeAt Go.RowKit
set_option linter.unusedVariables false
set_option linter.unusedSimpArgs false

/-- the numbers that tell a circle -/
def tolL (P : List Pt) (c : Ic) : List Nat := if (rimL P c).length = 1 then rimL P c else match fp (qP2 P c) (rimL P c) with
  | some (i, j) => [i, j]
  | none => match ft (qP3 P) (rimL P c) with
    | some (i, j, l) => [i, j, l]
    | none => []
def Told (w : World) (v : Value) (L : List Nat) : Prop := ∃ g rc, v = .slice (some ⟨g, 0, none⟩) L.length rc ∧ g < w.heap.size ∧ IntsAt w g 0 (nums L)
theorem rimL_len (P : List Pt) (c : Ic) : (rimL P c).length ≤ P.length := by rw [← rl_all]; exact rl_len P c P.length
set_option maxHeartbeats 4000000 in
set_option maxRecDepth 100000 in
theorem tol_core (b cap n : Nat) (A : List Nat) (fo : Option (List Nat)) (tr : Option (List Nat)) (c : Ic) (w : World) (hb : b < w.heap.size)
    (H1 : Hid (∀ X : World, Below w.heap.size w X → Calls Try.prog 67 #[icV c, .slice (some ⟨b, 0, none⟩) n cap] X fun e w' => ∃ v, e = .returned v ∧ Row w' (X.heap.size + 1) 3 1 v A.length (nums A) ∧ Below X.heap.size X w'))
    (H2 : Hid (∀ (X : World) (rb rc : Nat), Below w.heap.size w X → rb < X.heap.size → IntsAt X rb 0 (nums A) → A.length ≤ rc → rc ≤ 9223372036854775807 → Calls Try.prog 68 #[icV c, .slice (some ⟨b, 0, none⟩) n cap, .slice (some ⟨rb, 0, none⟩) A.length rc] X fun e w' => ∃ v, e = .returned v ∧ Tel w' v fo ∧ Below X.heap.size X w'))
    (H3 : Hid (∀ (X : World) (rb rc : Nat), Below w.heap.size w X → rb < X.heap.size → IntsAt X rb 0 (nums A) → A.length ≤ rc → rc ≤ 9223372036854775807 → Calls Try.prog 69 #[.slice (some ⟨b, 0, none⟩) n cap, .slice (some ⟨rb, 0, none⟩) A.length rc] X fun e w' => ∃ v, e = .returned v ∧ Tel w' v tr ∧ Below X.heap.size X w'))
    (hA0 : A.length ≠ 0) (HN : Hid (A.length = 1 ∨ fo ≠ none ∨ tr ≠ none)) (L : List Nat) (HE1 : Hid (A.length = 1 → L = A)) (HE2 : Hid (A.length ≠ 1 → ∀ M, fo = some M → L = M)) (HE3 : Hid (A.length ≠ 1 → fo = none → ∀ M, tr = some M → L = M)) :
    Calls Try.prog 41 #[icV c, .slice (some ⟨b, 0, none⟩) n cap] w fun e w' => ∃ v, e = .returned v ∧ Told w' v L ∧ Below w.heap.size w w' := by
  obtain ⟨X, Y, D, N⟩ := c
  have K0 : Hid (Below w.heap.size w (w.alloc (.cells #[.int .i64 X, .int .i64 Y, .int .i64 D, .int .i64 N] 72))) := hide (ba (Below.refl _ _) _)
  have R2 : Hid (cb (w.alloc (.cells #[.int .i64 X, .int .i64 Y, .int .i64 D, .int .i64 N] 72)) w.heap.size 72 [.int .i64 X, .int .i64 Y, .int .i64 D, .int .i64 N]) := hide (cb_new w 72 _ _ rfl)
  unfold icV at H1 H2 ⊢
  simp only at H1 H2 ⊢
  obtain ⟨m, hm⟩ : ∃ m, A.length = m := ⟨_, rfl⟩
  rw [hm] at H1 H2 H3 hA0 HN HE1 HE2 HE3
  have HM := hide hm
  clear hm
  go_enter Try.func41, Try.ntmps41
  go_wp2_with fail
  generalize w.alloc (.cells #[.int .i64 X, .int .i64 Y, .int .i64 D, .int .i64 N] 72) = V0 at *
  refine (unhide H1 _ (unhide K0)).mono ?_
  rintro e V1 ⟨v, rfl, hr, hB1⟩
  obtain ⟨rb, rc, rfl, hg1, hg2, hri, hc1, hc2⟩ := hr.full hA0
  have K1 := hide (bc (unhide K0) hB1)
  have R2a := hide ((unhide R2).bel hB1)
  have HRI := hide hri
  clear hr hri hB1 K0 R2 hg1 H1
  by_cases h1 : m = 1
  · have b1 : ((m : Int) == 1) = true := beq_iff_eq.2 (by omega)
    have hz : (m : Int) = 1 := by omega
    have HL : Hid (L = A) := hide (unhide HE1 h1)
    have HM1 := hide h1
    clear h1
    go_wp2_with fail
    go_ret
    refine ⟨_, rfl, ?_, unhide K1⟩
    rw [unhide HL]
    refine ⟨rb, rc, ?_, hg2, unhide HRI⟩
    rw [unhide HM]
    rfl
  · have b1 : ((m : Int) == 1) = false := beq_eq_false_iff_ne.2 (by omega)
    have c0 := (unhide R2a).cell (m := 0) rfl
    have c1 := (unhide R2a).cell (m := 1) rfl
    have c2 := (unhide R2a).cell (m := 2) rfl
    have c3 := (unhide R2a).cell (m := 3) rfl
    have HM1 := hide h1
    clear h1
    go_wp2_with fail
    refine (unhide H2 _ rb rc (unhide K1) hg2 (unhide HRI) hc1 hc2).mono ?_
    rintro e V2 ⟨v2, rfl, ht, hB2⟩
    have K2 := hide (bc (unhide K1) hB2)
    have HRI2 := hide ((unhide HRI).below hB2 hg2)
    have hg3 : rb < V2.heap.size := Nat.lt_of_lt_of_le hg2 hB2.size
    clear hB2 K1 R2a HRI c0 c1 c2 c3 hg2 H2
    cases hfo : fo with
    | some M =>
      rw [hfo] at ht
      obtain ⟨g, rfl, hgl, hgi⟩ := ht
      have HL : Hid (L = M) := hide (unhide HE2 (unhide HM1) M hfo)
      have HGI := hide hgi
      clear hgi hfo HN HE1 HE2 HE3 H3
      go_wp2_with fail
      go_ret
      refine ⟨_, rfl, ?_, unhide K2⟩
      rw [unhide HL]
      exact ⟨g, _, rfl, hgl, unhide HGI⟩
    | none =>
      rw [hfo] at ht
      have ht' : v2 = .slice none 0 0 := ht
      subst ht'
      obtain ⟨M, hto⟩ : ∃ M, tr = some M := by
        rcases unhide HN with h | h | h
        · exact absurd h (unhide HM1)
        · exact absurd hfo h
        · cases hq : tr with
          | none => exact absurd hq h
          | some M => exact ⟨M, rfl⟩
      have HL : Hid (L = M) := hide (unhide HE3 (unhide HM1) hfo M hto)
      rw [hto] at H3
      clear ht hfo hto HN HE1 HE2 HE3
      go_wp2_with fail
      refine (unhide H3 _ rb rc (unhide K2) hg3 (unhide HRI2) hc1 hc2).mono ?_
      rintro e V3 ⟨v3, rfl, ht3, hB3⟩
      obtain ⟨g, rfl, hgl, hgi⟩ := ht3
      have K3 := hide (bc (unhide K2) hB3)
      have HGI := hide hgi
      clear hgi hB3
      go_wp2_with fail
      go_ret
      refine ⟨_, rfl, ?_, unhide K3⟩
      rw [unhide HL]
      exact ⟨g, _, rfl, hgl, unhide HGI⟩
theorem nrl_all {P : List Pt} (h : P.all nrP = true) : Nrl P := fun p hp => nr_near h p hp
/-- the smallest circle of a list, and the numbers that tell it -/
theorem smc_told {P : List Pt} (hne : P ≠ []) : (rimL P (smc 3 P [])).length ≠ 0 ∧ ((rimL P (smc 3 P [])).length = 1 ∨ fp (qP2 P (smc 3 P [])) (rimL P (smc 3 P [])) ≠ none ∨ ft (qP3 P) (rimL P (smc 3 P [])) ≠ none) := by
  obtain ⟨k, S, hI, hM, hS⟩ := ring_md hne
  by_cases htwo : ∃ a ∈ P, ∃ b ∈ P, a ≠ b
  · have ht := some_told hI hM hS htwo
    refine ⟨fun h0 => ?_, .inr ht⟩
    have hn : rimL P (smc 3 P []) = [] := List.eq_nil_of_length_eq_zero h0
    rw [hn] at ht
    rcases ht with h | h <;> exact h rfl
  · have one : ∀ a ∈ P, ∀ b ∈ P, a = b := fun a ha b hb => by
      by_cases e : a = b
      · exact e
      · exact absurd ⟨a, ha, b, hb, e⟩ htwo
    obtain ⟨s, hs, h0⟩ : ∃ s ∈ P, apt (smc 3 P []) s = (smc 3 P []).N := by
      rcases told hM hS with ⟨s, hs, h0, _, _⟩ | ⟨a, ha, b, hb, hab, _⟩ | ⟨a, ha, b, hb, d, hd, ab, _⟩
      · exact ⟨s, hs, (hI.onr s).1 h0⟩
      · exact absurd (one a ha b hb) hab
      · exact absurd (one a ha b hb) ab
    have hr := fi_rim hs h0
    have all : ∀ i ∈ rimL P (smc 3 P []), i = fi P s := fun i hi => by
      obtain ⟨h1, _, h3⟩ := rimL_mem.1 hi
      have : ptAt P i = s := one _ (ptAt_mem h1) s hs
      rw [this] at h3
      exact h3.symm
    have hso := rimL_sort P (smc 3 P [])
    generalize rimL P (smc 3 P []) = A at *
    match A, hr, all, hso with
    | [], hr, _, _ => cases hr
    | [a], _, _, _ => exact ⟨by simp, .inl rfl⟩
    | a :: b :: T, _, all, hso =>
      have h1 := all a (by simp)
      have h2 := all b (by simp)
      have h3 := (List.pairwise_cons.1 hso).1 b (by simp)
      omega
theorem tolP_any (b cap n : Nat) (P : List Pt) (w : World) (hL : P.length = n) (hn : n ≤ 200) (hne : P ≠ []) (hb : b < w.heap.size) (hI : IntsAt w b 0 (flat2 P)) (hN : Nrl P) :
    Calls Try.prog 41 #[icV (smc 3 P []), .slice (some ⟨b, 0, none⟩) n cap] w fun e w' => ∃ v, e = .returned v ∧ Told w' v (tolL P (smc 3 P [])) ∧ Below w.heap.size w w' := by
  obtain ⟨h0, ht⟩ := smc_told hne
  have hnr : NrS ((smc 3 P []).X, (smc 3 P []).Y, (smc 3 P []).D) := (smc_nr 3 P [] rfl trivial (fea_any P) hN (fun p hp => (nomatch hp))).1
  have hlen := rimL_len P (smc 3 P [])
  have hA : ∀ i ∈ rimL P (smc 3 P []), i < n := fun i hi => by rw [← hL]; exact (rimL_mem.1 hi).1
  refine tol_core b cap n (rimL P (smc 3 P [])) ((fp (qP2 P (smc 3 P [])) (rimL P (smc 3 P []))).map fun q => [q.1, q.2]) ((ft (qP3 P) (rimL P (smc 3 P []))).map fun q => [q.1, q.2.1, q.2.2]) (smc 3 P []) w hb
    (hide fun X hX => onRim_any b cap n P (smc 3 P []) X hL hn (Nat.lt_of_lt_of_le hb hX.size) (hI.below hX hb) hN hnr)
    (hide fun X rb rc hX hrb hri hc1 hc2 => dia_core b cap n rb (rimL P (smc 3 P [])).length rc P (rimL P (smc 3 P [])) (smc 3 P []) (fun i j => thr [ptAt P i, ptAt P j]) X (hide hL) hn (Nat.lt_of_lt_of_le hb hX.size) (hide (hI.below hX hb)) (hide rfl) (by omega) hc1 hc2 hrb (hide hri) (hide hA) (hide fun a k i j Y g ha hj hcb => ?_))
    (hide fun X rb rc hX hrb hri hc1 hc2 => not_core b cap n rb (rimL P (smc 3 P [])).length rc P (rimL P (smc 3 P [])) (qP3 P) X (hide hL) hn (Nat.lt_of_lt_of_le hb hX.size) (hide (hI.below hX hb)) (hide rfl) (by omega) hc1 hc2 hrb (hide hri) (hide hA) (hide fun i j l Y g h1 h2 h3 hcb => obt_any g _ _ _ Y (hN.at (by omega)) (hN.at (by omega)) (hN.at (by omega)) hcb))
    h0 (hide ?_) (tolL P (smc 3 P [])) (hide fun h => ?_) (hide fun h M hM => ?_) (hide fun h hf M hM => ?_)
  · have hi := List.mem_of_getElem? ha
    have hjm := List.mem_of_getElem? hj
    have hij : i < j := by
      have hs := rimL_sort P (smc 3 P [])
      have h1 := List.pairwise_iff_getElem.1 hs a (a + 1 + k) (List.getElem?_eq_some_iff.1 ha).1 (List.getElem?_eq_some_iff.1 hj).1 (by omega)
      rw [(List.getElem?_eq_some_iff.1 ha).2, (List.getElem?_eq_some_iff.1 hj).2] at h1
      exact h1
    have hne2 := fst_ne (rimL_mem.1 hi).2.2 (rimL_mem.1 hjm).2.2 hij
    have hNl : Nrl [ptAt P i, ptAt P j] := fun p hp => by
      rcases List.mem_cons.1 hp with h | h
      · rw [h]; exact hN.at (rimL_mem.1 hi).1
      · rw [List.mem_singleton.1 h]; exact hN.at (rimL_mem.1 hjm).1
    refine thrP_any (some ⟨g, 0, none⟩) 2 2 [ptAt P i, ptAt P j] Y ⟨rfl, .inr ⟨g, rfl, by decide, hcb.lt, ?_⟩⟩ (by decide) hNl hne2
    intro t x ht
    rw [Nat.zero_add]
    refine hcb.cell ?_
    have e : flat2 [ptAt P i, ptAt P j] = [(ptAt P i).1, (ptAt P i).2, (ptAt P j).1, (ptAt P j).2] := rfl
    rw [e] at ht
    have e2 : ([.int .i64 (ptAt P i).1, .int .i64 (ptAt P i).2, .int .i64 (ptAt P j).1, .int .i64 (ptAt P j).2] : List Value) = [(ptAt P i).1, (ptAt P i).2, (ptAt P j).1, (ptAt P j).2].map (Value.int .i64) := rfl
    rw [e2, List.getElem?_map, ht]
    rfl
  · rcases ht with h | h | h
    · exact .inl h
    · exact .inr (.inl (by simpa using h))
    · exact .inr (.inr (by simpa using h))
  · unfold tolL
    rw [if_pos h]
  · unfold tolL
    rw [if_neg h]
    cases hf : fp (qP2 P (smc 3 P [])) (rimL P (smc 3 P [])) with
    | none => rw [hf] at hM; cases hM
    | some q => rw [hf] at hM; cases hM; rfl
  · unfold tolL
    rw [if_neg h]
    cases hf' : fp (qP2 P (smc 3 P [])) (rimL P (smc 3 P [])) with
    | some q => rw [hf'] at hf; cases hf
    | none =>
      cases hg : ft (qP3 P) (rimL P (smc 3 P [])) with
      | none => rw [hg] at hM; cases hM
      | some q => rw [hg] at hM; cases hM; rfl
end Go.Proofs.Ytdcecfgmfmpeeaa

namespace Go.Proofs.Ytdcecfgmfmpeeaa
open Go.ChangeShapes Go.WideShapes Go.ChangeAt Go.RowKit
set_option linter.unusedVariables false
set_option linter.unusedSimpArgs false

/-- how a list of numbers stands in an answer -/
def nth (L : List Nat) (k : Nat) : Int := ((L.getD k 0 : Nat) : Int)
def rgA (P : List Pt) : Value := rgV ((tolL P (smc 3 P [])).length : Int) (nth (tolL P (smc 3 P [])) 0) (nth (tolL P (smc 3 P [])) 1) (nth (tolL P (smc 3 P [])) 2) (smc 3 P [])
def rgR (P : List Pt) : Value := if mcC P ≠ 0 then .agg #[.int .i64 0, .int .i64 0, .int .i64 0, .int .i64 0, .int .i64 0, .int .i64 0, .int .i64 0, .int .i64 0] else rgA P
theorem tol_len (P : List Pt) (c : Ic) : (tolL P c).length ≤ 3 := by
  unfold tolL
  split
  · omega
  · split
    · simp
    · split <;> simp
def three0 : List Value := [.int .i64 0, .int .i64 0, .int .i64 0]
set_option maxRecDepth 100000 in
theorem copy_told {W : World} {g g0 rc : Nat} {L : List Nat} (hl : L.length ≤ 3) (hne : L.length ≠ 0) (hs : IntsAt W g0 0 (nums L)) (hg : cb W g 75 three0) :
    ∃ W', (Builtin.copy_ #[37, 37] 3 #[.slice (some ⟨g, 0, none⟩) 3 3, .slice (some ⟨g0, 0, none⟩) L.length rc]).run Try.prog W = .ok (.int .i64 (L.length : Int)) W' ∧ cb W' g 75 [.int .i64 (nth L 0), .int .i64 (nth L 1), .int .i64 (nth L 2)] ∧ But g W W' := by
  have hmm : Nat.min L.length 3 = L.length := Nat.min_eq_left hl
  have hr := run_copy_row Try.prog W 37 37 3 3 g 0 3 3 ⟨g0, 0, none⟩ L.length rc three0.toArray 75 ((nums L).map (Value.int .i64)) Try.underlying37 (by kernel_rfl) hg (by rw [List.length_map, nums_len, hmm])
    (fun j v hv => by
      rw [add_none, Nat.zero_add]
      rw [List.getElem?_map] at hv
      cases hj : (nums L)[j]? with
      | none => rw [hj] at hv; cases hv
      | some q =>
        rw [hj] at hv
        have := hs j q hj
        simp only [Option.map_some, Option.some.injEq] at hv
        rw [← hv]
        simpa using this) (by rw [List.length_map, nums_len]; simp [three0]; omega) ints_one
  rw [List.length_map, nums_len] at hr
  obtain ⟨W', hW'⟩ : ∃ W', W' = W.setRow g (three0.toArray.toList.take 0 ++ (nums L).map (Value.int .i64) ++ three0.toArray.toList.drop (0 + L.length)).toArray := ⟨_, rfl⟩
  rw [← hW'] at hr
  refine ⟨W', hr, ?_, by rw [hW']; exact but_setRow _⟩
  have e := setRow_heap W g three0.toArray (three0.toArray.toList.take 0 ++ (nums L).map (Value.int .i64) ++ three0.toArray.toList.drop (0 + L.length)).toArray 75 (0, 0) hg
  unfold cb
  rw [hW', e]
  clear hr hW' e hs
  match L, hl, hne with
  | [a], _, _ => rfl
  | [a, b], _, _ => rfl
  | [a, b, c], _, _ => rfl
  | [], _, hne => exact absurd rfl hne
  | a :: b :: c :: d :: T, hl, _ => simp at hl
def z8 : List Value := [.int .i64 0, .int .i64 0, .int .i64 0, .int .i64 0, .int .i64 0, .int .i64 0, .int .i64 0, .int .i64 0]
set_option maxHeartbeats 4000000 in
set_option maxRecDepth 100000 in
theorem rgP_good (b cap n : Nat) (L : List Nat) (c : Ic) (w : World) (hb : b < w.heap.size)
    (HMC : Hid (∀ X : World, Below w.heap.size w X → Calls Try.prog 21 #[.slice (some ⟨b, 0, none⟩) n cap] X fun e w' => e = .returned (.int .i64 0) ∧ Below X.heap.size X w'))
    (HSM : Hid (∀ X : World, Below w.heap.size w X → Calls Try.prog 40 #[.slice (some ⟨b, 0, none⟩) n cap, .slice none 0 0] X fun e w' => e = .returned (icV c) ∧ Below X.heap.size X w'))
    (HTO : Hid (∀ X : World, Below w.heap.size w X → Calls Try.prog 41 #[icV c, .slice (some ⟨b, 0, none⟩) n cap] X fun e w' => ∃ v, e = .returned v ∧ Told w' v L ∧ Below X.heap.size X w')) (hl : L.length ≤ 3) (hne : L.length ≠ 0) :
    Calls Try.prog 10 #[.slice (some ⟨b, 0, none⟩) n cap] w fun e w' => e = .returned (.tuple #[rgV (L.length : Int) (nth L 0) (nth L 1) (nth L 2) c, .int .i64 0]) ∧ Below w.heap.size w w' := by
  obtain ⟨X, Y, D, N⟩ := c
  have K0 : Hid (Below w.heap.size w (w.alloc (.cells #[.int .i64 0, .int .i64 0, .int .i64 0, .int .i64 0, .int .i64 0, .int .i64 0, .int .i64 0, .int .i64 0] 34))) := hide (ba (Below.refl _ _) _)
  have R2 : Hid (cb (w.alloc (.cells #[.int .i64 0, .int .i64 0, .int .i64 0, .int .i64 0, .int .i64 0, .int .i64 0, .int .i64 0, .int .i64 0] 34)) w.heap.size 34 z8) := hide (cb_new w 34 z8 _ rfl)
  unfold icV at HSM HTO
  unfold rgV
  simp only at HSM HTO ⊢
  go_enter Try.func10, Try.ntmps10
  go_wp2_with fail
  generalize w.alloc (.cells #[.int .i64 0, .int .i64 0, .int .i64 0, .int .i64 0, .int .i64 0, .int .i64 0, .int .i64 0, .int .i64 0] 34) = V0 at *
  refine (unhide HMC _ (unhide K0)).mono ?_
  rintro e V1 ⟨rfl, hB1⟩
  have K1 := hide (bc (unhide K0) hB1)
  have R2a := hide ((unhide R2).bel hB1)
  clear hB1 K0 R2 HMC
  go_wp2_with fail
  refine (unhide HSM _ (unhide K1)).mono ?_
  rintro e V2 ⟨rfl, hB2⟩
  have hA : Below V2.heap.size V2 (V2.alloc (.cells #[.int .i64 X, .int .i64 Y, .int .i64 D, .int .i64 N] 72)) := ba (Below.refl _ _) _
  have K2 := hide (bc (unhide K1) (bc hB2 hA))
  have R2b := hide ((unhide R2a).bel (bc hB2 hA))
  have R5 : Hid (cb (V2.alloc (.cells #[.int .i64 X, .int .i64 Y, .int .i64 D, .int .i64 N] 72)) V2.heap.size 72 [.int .i64 X, .int .i64 Y, .int .i64 D, .int .i64 N]) := hide (cb_new V2 72 _ _ rfl)
  clear hB2 hA K1 R2a HSM
  go_upto_region 5 with fail
  generalize V2.alloc (.cells #[.int .i64 X, .int .i64 Y, .int .i64 D, .int .i64 N] 72) = V3 at *
  generalize V2.heap.size = g5 at *
  have c0 := (unhide R5).cell (m := 0) rfl
  have c1 := (unhide R5).cell (m := 1) rfl
  have c2 := (unhide R5).cell (m := 2) rfl
  have c3 := (unhide R5).cell (m := 3) rfl
  go_wp2_with fail
  refine (unhide HTO _ (unhide K2)).mono ?_
  rintro e V4 ⟨v, rfl, ⟨g0, rc, rfl, hg0, hgi⟩, hB4⟩
  clear c0 c1 c2 c3
  have hA : Below V4.heap.size V4 (V4.alloc (.cells #[.int .i64 0, .int .i64 0, .int .i64 0] 75)) := ba (Below.refl _ _) _
  have R7 : Hid (cb (V4.alloc (.cells #[.int .i64 0, .int .i64 0, .int .i64 0] 75)) V4.heap.size 75 three0) := hide (cb_new V4 75 three0 _ rfl)
  obtain ⟨W', hcp, hnx, hbt⟩ := copy_told (rc := rc) hl hne (hgi.below hA hg0) (unhide R7)
  have l5 : g5 < V4.heap.size := Nat.lt_of_lt_of_le (unhide R5).lt hB4.size
  have l2 : w.heap.size < V4.heap.size := Nat.lt_of_lt_of_le (unhide R2b).lt hB4.size
  have R5w := hbt.cb (g' := g5) (by omega) (((unhide R5).bel hB4).bel hA)
  have R2w : Hid (cb W' w.heap.size 34 z8) := hide (hbt.cb (by omega) (((unhide R2b).bel hB4).bel hA))
  have KW : Hid (Below w.heap.size w W') := hide ((ba (bc (unhide K2) hB4) _).trans (hbt.bel (by omega)))
  obtain ⟨m, hm⟩ : ∃ m, L.length = m := ⟨_, rfl⟩
  rw [hm] at hcp ⊢
  obtain ⟨n0, hn0⟩ : ∃ q, nth L 0 = q := ⟨_, rfl⟩
  obtain ⟨n1, hn1⟩ : ∃ q, nth L 1 = q := ⟨_, rfl⟩
  obtain ⟨n2, hn2⟩ : ∃ q, nth L 2 = q := ⟨_, rfl⟩
  rw [hn0, hn1, hn2] at hnx
  have HN := hide (⟨hn0, hn1, hn2⟩ : nth L 0 = n0 ∧ nth L 1 = n1 ∧ nth L 2 = n2)
  have d0 := R5w.cell (m := 0) rfl
  have d1 := R5w.cell (m := 1) rfl
  have d2 := R5w.cell (m := 2) rfl
  have d3 := R5w.cell (m := 3) rfl
  have e0 := hnx.cell (m := 0) rfl
  have e1 := hnx.cell (m := 1) rfl
  have e2 := hnx.cell (m := 2) rfl
  have f2 := (unhide R2w).frozen
  have o0 := (unhide R2w).cell (m := 0) rfl
  have o1 := (unhide R2w).cell (m := 1) rfl
  have o2 := (unhide R2w).cell (m := 2) rfl
  have o3 := (unhide R2w).cell (m := 3) rfl
  have o4 := (unhide R2w).cell (m := 4) rfl
  have o5 := (unhide R2w).cell (m := 5) rfl
  have o6 := (unhide R2w).cell (m := 6) rfl
  have o7 := (unhide R2w).cell (m := 7) rfl
  have HM := hide hm
  clear hn0 hn1 hn2 hm hl hne hgi hB4 hA R7 hnx hbt R5w R5 R2b K2 HTO
  go_wp2_with fail
  have T := ((((((((unhide R2w).set 0 (.int .i64 (m : Int))).set 1 (.int .i64 n0)).set 2 (.int .i64 n1)).set 3 (.int .i64 n2)).set 4 (.int .i64 X)).set 5 (.int .i64 Y)).set 6 (.int .i64 D)).set 7 (.int .i64 N)
  have hBV : Below w.heap.size w ((((((((W'.setCell ⟨w.heap.size, 0, none⟩ (.int .i64 (m : Int))).setCell ⟨w.heap.size, 1, none⟩ (.int .i64 n0)).setCell ⟨w.heap.size, 2, none⟩ (.int .i64 n1)).setCell ⟨w.heap.size, 3, none⟩ (.int .i64 n2)).setCell ⟨w.heap.size, 4, none⟩ (.int .i64 X)).setCell ⟨w.heap.size, 5, none⟩ (.int .i64 Y)).setCell ⟨w.heap.size, 6, none⟩ (.int .i64 D)).setCell ⟨w.heap.size, 7, none⟩ (.int .i64 N)) :=
    Below.setCell (Below.setCell (Below.setCell (Below.setCell (Below.setCell (Below.setCell (Below.setCell (Below.setCell (unhide KW) (Nat.le_refl _) _) (Nat.le_refl _) _) (Nat.le_refl _) _) (Nat.le_refl _) _) (Nat.le_refl _) _) (Nat.le_refl _) _) (Nat.le_refl _) _) (Nat.le_refl _) _
  generalize ((((((((W'.setCell ⟨w.heap.size, 0, none⟩ (.int .i64 (m : Int))).setCell ⟨w.heap.size, 1, none⟩ (.int .i64 n0)).setCell ⟨w.heap.size, 2, none⟩ (.int .i64 n1)).setCell ⟨w.heap.size, 3, none⟩ (.int .i64 n2)).setCell ⟨w.heap.size, 4, none⟩ (.int .i64 X)).setCell ⟨w.heap.size, 5, none⟩ (.int .i64 Y)).setCell ⟨w.heap.size, 6, none⟩ (.int .i64 D)).setCell ⟨w.heap.size, 7, none⟩ (.int .i64 N)) = V9 at *
  have s0 := T.cell (m := 0) rfl
  have s1 := T.cell (m := 1) rfl
  have s2 := T.cell (m := 2) rfl
  have s3 := T.cell (m := 3) rfl
  have s4 := T.cell (m := 4) rfl
  have s5 := T.cell (m := 5) rfl
  have s6 := T.cell (m := 6) rfl
  have s7 := T.cell (m := 7) rfl
  have ls := T.lt
  refine bodyPost_ret (v := .tuple #[.agg #[.int .i64 (m : Int), .int .i64 n0, .int .i64 n1, .int .i64 n2, .int .i64 X, .int .i64 Y, .int .i64 D, .int .i64 N], .int .i64 0]) (by simp [results, Try.results10, go_sem, s0, s1, s2, s3, s4, s5, s6, s7, ls]) rfl ⟨by rw [unhide HM, (unhide HN).1, (unhide HN).2.1, (unhide HN).2.2], hBV⟩
set_option maxHeartbeats 4000000 in
set_option maxRecDepth 100000 in
theorem rgP_bad (b cap n : Nat) (cd : Int) (w : World) (hcd : cd ≠ 0)
    (HMC : Hid (∀ X : World, Below w.heap.size w X → Calls Try.prog 21 #[.slice (some ⟨b, 0, none⟩) n cap] X fun e w' => e = .returned (.int .i64 cd) ∧ Below X.heap.size X w')) :
    Calls Try.prog 10 #[.slice (some ⟨b, 0, none⟩) n cap] w fun e w' => e = .returned (.tuple #[.agg #[.int .i64 0, .int .i64 0, .int .i64 0, .int .i64 0, .int .i64 0, .int .i64 0, .int .i64 0, .int .i64 0], .int .i64 cd]) ∧ Below w.heap.size w w' := by
  have K0 : Hid (Below w.heap.size w (w.alloc (.cells #[.int .i64 0, .int .i64 0, .int .i64 0, .int .i64 0, .int .i64 0, .int .i64 0, .int .i64 0, .int .i64 0] 34))) := hide (ba (Below.refl _ _) _)
  have R2 : Hid (cb (w.alloc (.cells #[.int .i64 0, .int .i64 0, .int .i64 0, .int .i64 0, .int .i64 0, .int .i64 0, .int .i64 0, .int .i64 0] 34)) w.heap.size 34 z8) := hide (cb_new w 34 z8 _ rfl)
  have hc : (cd != 0) = true := bne_iff_ne.2 hcd
  go_enter Try.func10, Try.ntmps10
  go_wp2_with fail
  generalize w.alloc (.cells #[.int .i64 0, .int .i64 0, .int .i64 0, .int .i64 0, .int .i64 0, .int .i64 0, .int .i64 0, .int .i64 0] 34) = V0 at *
  refine (unhide HMC _ (unhide K0)).mono ?_
  rintro e V1 ⟨rfl, hB1⟩
  have K1 := hide (bc (unhide K0) hB1)
  have R2w := hide ((unhide R2).bel hB1)
  clear hB1 K0 R2 HMC
  have f2 := (unhide R2w).frozen
  have o0 := (unhide R2w).cell (m := 0) rfl
  have o1 := (unhide R2w).cell (m := 1) rfl
  have o2 := (unhide R2w).cell (m := 2) rfl
  have o3 := (unhide R2w).cell (m := 3) rfl
  have o4 := (unhide R2w).cell (m := 4) rfl
  have o5 := (unhide R2w).cell (m := 5) rfl
  have o6 := (unhide R2w).cell (m := 6) rfl
  have o7 := (unhide R2w).cell (m := 7) rfl
  go_wp2_with fail
  have T := ((((((((unhide R2w).set 0 (.int .i64 0)).set 1 (.int .i64 0)).set 2 (.int .i64 0)).set 3 (.int .i64 0)).set 4 (.int .i64 0)).set 5 (.int .i64 0)).set 6 (.int .i64 0)).set 7 (.int .i64 0)
  have hBV : Below w.heap.size w ((((((((V1.setCell ⟨w.heap.size, 0, none⟩ (.int .i64 0)).setCell ⟨w.heap.size, 1, none⟩ (.int .i64 0)).setCell ⟨w.heap.size, 2, none⟩ (.int .i64 0)).setCell ⟨w.heap.size, 3, none⟩ (.int .i64 0)).setCell ⟨w.heap.size, 4, none⟩ (.int .i64 0)).setCell ⟨w.heap.size, 5, none⟩ (.int .i64 0)).setCell ⟨w.heap.size, 6, none⟩ (.int .i64 0)).setCell ⟨w.heap.size, 7, none⟩ (.int .i64 0)) :=
    Below.setCell (Below.setCell (Below.setCell (Below.setCell (Below.setCell (Below.setCell (Below.setCell (Below.setCell (unhide K1) (Nat.le_refl _) _) (Nat.le_refl _) _) (Nat.le_refl _) _) (Nat.le_refl _) _) (Nat.le_refl _) _) (Nat.le_refl _) _) (Nat.le_refl _) _) (Nat.le_refl _) _
  generalize ((((((((V1.setCell ⟨w.heap.size, 0, none⟩ (.int .i64 0)).setCell ⟨w.heap.size, 1, none⟩ (.int .i64 0)).setCell ⟨w.heap.size, 2, none⟩ (.int .i64 0)).setCell ⟨w.heap.size, 3, none⟩ (.int .i64 0)).setCell ⟨w.heap.size, 4, none⟩ (.int .i64 0)).setCell ⟨w.heap.size, 5, none⟩ (.int .i64 0)).setCell ⟨w.heap.size, 6, none⟩ (.int .i64 0)).setCell ⟨w.heap.size, 7, none⟩ (.int .i64 0)) = V9 at *
  have s0 := T.cell (m := 0) rfl
  have s1 := T.cell (m := 1) rfl
  have s2 := T.cell (m := 2) rfl
  have s3 := T.cell (m := 3) rfl
  have s4 := T.cell (m := 4) rfl
  have s5 := T.cell (m := 5) rfl
  have s6 := T.cell (m := 6) rfl
  have s7 := T.cell (m := 7) rfl
  have ls := T.lt
  refine bodyPost_ret (v := .tuple #[.agg #[.int .i64 0, .int .i64 0, .int .i64 0, .int .i64 0, .int .i64 0, .int .i64 0, .int .i64 0, .int .i64 0], .int .i64 cd]) (by simp [results, Try.results10, go_sem, s0, s1, s2, s3, s4, s5, s6, s7, ls]) rfl ⟨rfl, hBV⟩
theorem rgP_any (b cap : Nat) (P : List Pt) (w : World) (hn : P.length ≤ 1048576) (hcap : P.length ≤ cap) (hb : b < w.heap.size) (hI : IntsAt w b 0 (flat2 P)) :
    Calls Try.prog 10 #[.slice (some ⟨b, 0, none⟩) P.length cap] w fun e w' => e = .returned (.tuple #[rgR P, .int .i64 (mcC P)]) ∧ Below w.heap.size w w' := by
  have HMC : Hid (∀ X : World, Below w.heap.size w X → Calls Try.prog 21 #[.slice (some ⟨b, 0, none⟩) P.length cap] X fun e w' => e = .returned (.int .i64 (mcC P)) ∧ Below X.heap.size X w') := hide fun X hX => mcP_any b cap P X (by omega) (Nat.lt_of_lt_of_le hb hX.size) (ptsAt_flat (hI.below hX hb))
  by_cases h0 : mcC P = 0
  · have hall : 1 ≤ P.length ∧ P.length ≤ 200 ∧ P.all nrP = true := by
      unfold mcC at h0
      split at h0
      · omega
      · split at h0
        · assumption
        · omega
    have hne : P ≠ [] := fun e => by rw [e] at hall; simp at hall
    have hN := nrl_all hall.2.2
    have ht := smc_told hne
    have h3 : (tolL P (smc 3 P [])).length ≠ 0 := by
      unfold tolL
      by_cases h1 : (rimL P (smc 3 P [])).length = 1
      · rw [if_pos h1]; exact ht.1
      · rw [if_neg h1]
        rcases ht.2 with h | h | h
        · exact absurd h h1
        · cases hf : fp (qP2 P (smc 3 P [])) (rimL P (smc 3 P [])) with
          | none => exact absurd hf h
          | some q => simp
        · cases hf : fp (qP2 P (smc 3 P [])) (rimL P (smc 3 P [])) with
          | some q => simp
          | none =>
            cases hg : ft (qP3 P) (rimL P (smc 3 P [])) with
            | none => exact absurd hg h
            | some q => simp
    have er : rgR P = rgA P := by unfold rgR; rw [if_neg (fun h => h h0)]
    rw [er, h0]
    rw [h0] at HMC
    exact rgP_good b cap P.length (tolL P (smc 3 P [])) (smc 3 P []) w hb HMC
      (hide fun X hX => smP_any 3 b cap P.length 0 0 none P [] X rfl rfl hall.2.1 hcap (Nat.lt_of_lt_of_le hb hX.size) (hI.below hX hb) ⟨rfl, .inl ⟨rfl, rfl, rfl⟩⟩ hN (fun p hp => (nomatch hp)) trivial (fea_any P))
      (hide fun X hX => tolP_any b cap P.length P X rfl hall.2.1 hne (Nat.lt_of_lt_of_le hb hX.size) (hI.below hX hb) hN) (tol_len P _) h3
  · have er : rgR P = .agg #[.int .i64 0, .int .i64 0, .int .i64 0, .int .i64 0, .int .i64 0, .int .i64 0, .int .i64 0, .int .i64 0] := by unfold rgR; rw [if_pos h0]
    rw [er]
    exact rgP_bad b cap P.length (mcC P) w h0 HMC
end Go.Proofs.Ytdcecfgmfmpeeaa

namespace Go.Proofs.Ytdcecfgmfmpeeaa
open Go.ChangeShapes Go.WideShapes Go.ChangeAt Go.RowKit
set_option linter.unusedVariables false
set_option linter.unusedSimpArgs false

set_option maxHeartbeats 1000000 in
theorem fstM_none (b cap n : Nat) (L : List Pt) (p1 p2 : Int) (w : World) (HL : Hid (L.length = n)) (hn : n ≤ 4096) (hb : b < w.heap.size) (HI : Hid (IntsAt w b 0 (flat2 L))) (HF : Hid ((p1, p2) ∉ L)) :
    Calls Try.prog 29 #[.slice (some ⟨b, 0, none⟩) n cap, .agg #[.int .i64 p1, .int .i64 p2]] w fun e w' => e = .returned (.int .i64 0) ∧ Below w.heap.size w w' := by
  have HB := hide (ba (Below.refl w.heap.size w) (.cells #[.int .i64 p1, .int .i64 p2] 30))
  have HV : Hid ((w.alloc (.cells #[.int .i64 p1, .int .i64 p2] 30)).cell? ⟨w.heap.size, 0, none⟩ = some (.int .i64 p1) ∧ (w.alloc (.cells #[.int .i64 p1, .int .i64 p2] 30)).cell? ⟨w.heap.size, 1, none⟩ = some (.int .i64 p2)) := hide ⟨by simp only [World.cell?]; rw [heap_alloc_new]; rfl, by simp only [World.cell?]; rw [heap_alloc_new]; rfl⟩
  have HI2 : Hid (IntsAt (w.alloc (.cells #[.int .i64 p1, .int .i64 p2] 30)) b 0 (flat2 L)) := hide ((unhide HI).below (unhide HB) hb)
  go_enter Try.func29, Try.ntmps29
  go_wp2_with fail
  generalize w.alloc (.cells #[.int .i64 p1, .int .i64 p2] 30) = W1 at *
  go_loopw [5] (fun z X => ∃ i : Nat, z = .int .i64 (i : Int) ∧ i ≤ n ∧ Same W1 X) (fun z _ => n - (intOf z).toNat)
  case atStart => exact ⟨0, rfl, Nat.zero_le _, Same.refl _⟩
  case round =>
    obtain ⟨i, rfl, hi, hs⟩ := hrel
    have HS := hide hs
    by_cases hin : i < n
    · have i1 : (i : Int) < (n : Int) := by omega
      have i0 : (0 : Int) ≤ (i : Int) := Int.natCast_nonneg _
      have iz : decide ((i : Int) < (n : Int)) = true := decide_eq_true i1
      obtain ⟨⟨x, y⟩, hx⟩ : ∃ q, L[i]? = some q := ⟨_, List.getElem?_eq_getElem (by rw [unhide HL]; omega)⟩
      obtain ⟨c0, c1⟩ := pts_at (unhide HI2) hx
      obtain ⟨v0, v1⟩ := unhide HV
      rw [← hs.cell] at c0 c1 v0 v1
      have he : (x, y) ≠ (p1, p2) := fun e => unhide HF (by rw [← e]; exact List.mem_of_getElem? hx)
      have hq : ∀ X, (binOp .eql 30 (.agg #[.int .i64 x, .int .i64 y]) (.agg #[.int .i64 p1, .int .i64 p2])).run Try.prog X = .ok (.bool false) X := fun X => by rw [eq30, decide_eq_false he]
      clear hs hx he
      go_wp2_with fail
      go_quiet (fail)
      go_wp2_with fail
      go_roundw
      case rel => exact ⟨i + 1, by simp, hin, sameDn (unhide HS) _⟩
      case measure => simp only [intOf]; omega
    · have i1 : ¬ (i : Int) < (n : Int) := by omega
      have iz : decide ((i : Int) < (n : Int)) = false := decide_eq_false i1
      have HBS : Hid (Below W1.heap.size W1 wr) := hide hs.bel
      clear hs
      go_wp2_with fail
      go_ret
      exact ⟨rfl, bc (unhide HB) (unhide HBS)⟩
/-- where a point stands, or 0 -/
def fiO (L : List Pt) (p : Pt) : Nat := if p ∈ L then fi L p else 0
theorem fstM_or (b cap n : Nat) (L : List Pt) (p : Pt) (w : World) (hL : L.length = n) (hn : n ≤ 4096) (hb : b < w.heap.size) (hI : IntsAt w b 0 (flat2 L)) :
    Calls Try.prog 29 #[.slice (some ⟨b, 0, none⟩) n cap, .agg #[.int .i64 p.1, .int .i64 p.2]] w fun e w' => e = .returned (.int .i64 (fiO L p : Int)) ∧ Below w.heap.size w w' := by
  unfold fiO
  by_cases h : p ∈ L
  · rw [if_pos h]
    exact fstM_any b cap n L p.1 p.2 (fi L p) w (hide hL) hn hb (hide hI) (hide (fi_fst h))
  · rw [if_neg h]
    exact fstM_none b cap n L p.1 p.2 w (hide hL) hn hb (hide hI) (hide h)
theorem fiO_lt {L : List Pt} (hne : L ≠ []) (p : Pt) : fiO L p < L.length := by
  unfold fiO
  by_cases h : p ∈ L
  · rw [if_pos h]; exact (fi_idx h).1
  · rw [if_neg h]
    cases L with
    | nil => exact absurd rfl hne
    | cons a L => simp
theorem fiO_at {L : List Pt} (hne : L ≠ []) (p : Pt) : (decide ((ptAt L (fiO L p)).1 = p.1) && decide ((ptAt L (fiO L p)).2 = p.2)) = decide (p ∈ L) := by
  have e : (decide ((ptAt L (fiO L p)).1 = p.1) && decide ((ptAt L (fiO L p)).2 = p.2)) = decide (ptAt L (fiO L p) = p) := by
    rw [Bool.eq_iff_iff]
    simp [Prod.ext_iff]
  rw [e]
  by_cases h : p ∈ L
  · have : ptAt L (fiO L p) = p := by unfold fiO; rw [if_pos h]; exact (fi_idx h).2.1
    rw [decide_eq_true this, decide_eq_true h]
  · have : ¬ ptAt L (fiO L p) = p := fun e2 => h (by rw [← e2]; exact ptAt_mem (fiO_lt hne p))
    rw [decide_eq_false this, decide_eq_false h]
/-- the first numbers at corners of the hull, up to i -/
def nl (P H : List Pt) (i : Nat) : List Nat := (List.range i).filter fun j => decide (fi P (ptAt P j) = j) && decide (ptAt P j ∈ H)
theorem nl_all (P : List Pt) : nl P (hullM (srtU P)) P.length = numL P := rfl
theorem nl_succ (P H : List Pt) (i : Nat) : nl P H (i + 1) = if fi P (ptAt P i) = i ∧ ptAt P i ∈ H then nl P H i ++ [i] else nl P H i := by
  unfold nl
  rw [List.range_succ, List.filter_append]
  by_cases h : fi P (ptAt P i) = i ∧ ptAt P i ∈ H
  · rw [if_pos h]
    simp [h.1, h.2]
  · rw [if_neg h]
    by_cases h1 : fi P (ptAt P i) = i
    · have h2 : ¬ ptAt P i ∈ H := fun e => h ⟨h1, e⟩
      simp [h1, h2]
    · simp [h1]
theorem nl_len (P H : List Pt) (i : Nat) : (nl P H i).length ≤ i := by
  have := List.length_filter_le (fun j => decide (fi P (ptAt P j) = j) && decide (ptAt P j ∈ H)) (List.range i)
  rw [List.length_range] at this
  exact this
end Go.Proofs.Ytdcecfgmfmpeeaa

namespace Go.Proofs.Ytdcecfgmfmpeeaa
open Go.ChangeShapes Go.WideShapes Go.ChangeAt Go.RowKit
set_option linter.unusedVariables false
set_option linter.unusedSimpArgs false

set_option maxHeartbeats 8000000 in
set_option maxRecDepth 100000 in
theorem mrM_long (b cap n : Nat) (w : World) (h4 : 4096 < n) :
    Calls Try.prog 11 #[.slice (some ⟨b, 0, none⟩) n cap] w fun e w' => e = .returned (.tuple #[.agg #[.int .i64 0, .int .i64 0, .int .i64 0, .int .i64 0, .int .i64 0, .int .i64 0, .int .i64 0, .int .i64 0], .int .i64 2]) ∧ Below w.heap.size w w' := by
  have d4 : decide ((4096 : Int) < (n : Int)) = true := decide_eq_true (by omega)
  have d5 : (4096 : Int) < (n : Int) := by omega
  go_enter Try.func11, Try.ntmps11
  go_wp2_with fail
  refine bodyPost_ret (v := .tuple #[.agg #[.int .i64 0, .int .i64 0, .int .i64 0, .int .i64 0, .int .i64 0, .int .i64 0, .int .i64 0, .int .i64 0], .int .i64 2]) (by simp [results, Try.results11, go_sem]) rfl ⟨rfl, ba (Below.refl _ _) _⟩
set_option maxHeartbeats 8000000 in
set_option maxRecDepth 100000 in
theorem mrM_far (b cap n : Nat) (w : World) (h4 : n ≤ 4096)
    (HNR : Hid (∀ X : World, Below w.heap.size w X → Calls Try.prog 27 #[.slice (some ⟨b, 0, none⟩) n cap] X fun e w' => e = .returned (.bool false) ∧ Same X w')) :
    Calls Try.prog 11 #[.slice (some ⟨b, 0, none⟩) n cap] w fun e w' => e = .returned (.tuple #[.agg #[.int .i64 0, .int .i64 0, .int .i64 0, .int .i64 0, .int .i64 0, .int .i64 0, .int .i64 0, .int .i64 0], .int .i64 1]) ∧ Below w.heap.size w w' := by
  have d4 : decide ((4096 : Int) < (n : Int)) = false := decide_eq_false (by omega)
  have d5 : ¬ (4096 : Int) < (n : Int) := by omega
  have K0 : Hid (Below w.heap.size w (w.alloc (.cells #[.int .i64 0, .int .i64 0, .int .i64 0, .int .i64 0, .int .i64 0, .int .i64 0, .int .i64 0, .int .i64 0] 34))) := hide (ba (Below.refl _ _) _)
  have R2 : Hid (cb (w.alloc (.cells #[.int .i64 0, .int .i64 0, .int .i64 0, .int .i64 0, .int .i64 0, .int .i64 0, .int .i64 0, .int .i64 0] 34)) w.heap.size 34 z8) := hide (cb_new w 34 z8 _ rfl)
  go_enter Try.func11, Try.ntmps11
  go_wp2_with fail
  generalize w.alloc (.cells #[.int .i64 0, .int .i64 0, .int .i64 0, .int .i64 0, .int .i64 0, .int .i64 0, .int .i64 0, .int .i64 0] 34) = V0 at *
  refine (unhide HNR _ (unhide K0)).mono ?_
  rintro e V1 ⟨rfl, hs⟩
  have K1 := hide ((unhide K0).trans (hs.bel))
  have R2a : Hid (cb V1 w.heap.size 34 z8) := hide (by unfold cb; rw [hs.heap]; exact unhide R2)
  clear hs K0 R2
  have o0 := (unhide R2a).cell (m := 0) rfl
  have o1 := (unhide R2a).cell (m := 1) rfl
  have o2 := (unhide R2a).cell (m := 2) rfl
  have o3 := (unhide R2a).cell (m := 3) rfl
  have o4 := (unhide R2a).cell (m := 4) rfl
  have o5 := (unhide R2a).cell (m := 5) rfl
  have o6 := (unhide R2a).cell (m := 6) rfl
  have o7 := (unhide R2a).cell (m := 7) rfl
  have f2 := (unhide R2a).frozen
  go_wp2_with fail
  have T := (((((((((unhide R2a).set 0 (.int .i64 0)).set 1 (.int .i64 0)).set 2 (.int .i64 0)).set 3 (.int .i64 0)).set 4 (.int .i64 0)).set 5 (.int .i64 0)).set 6 (.int .i64 0)).set 7 (.int .i64 0))
  have hBV : Below w.heap.size w ((((((((V1.setCell ⟨w.heap.size, 0, none⟩ (.int .i64 0)).setCell ⟨w.heap.size, 1, none⟩ (.int .i64 0)).setCell ⟨w.heap.size, 2, none⟩ (.int .i64 0)).setCell ⟨w.heap.size, 3, none⟩ (.int .i64 0)).setCell ⟨w.heap.size, 4, none⟩ (.int .i64 0)).setCell ⟨w.heap.size, 5, none⟩ (.int .i64 0)).setCell ⟨w.heap.size, 6, none⟩ (.int .i64 0)).setCell ⟨w.heap.size, 7, none⟩ (.int .i64 0)) := (Below.setCell (Below.setCell (Below.setCell (Below.setCell (Below.setCell (Below.setCell (Below.setCell (Below.setCell (unhide K1) (Nat.le_refl _) _) (Nat.le_refl _) _) (Nat.le_refl _) _) (Nat.le_refl _) _) (Nat.le_refl _) _) (Nat.le_refl _) _) (Nat.le_refl _) _) (Nat.le_refl _) _)
  generalize ((((((((V1.setCell ⟨w.heap.size, 0, none⟩ (.int .i64 0)).setCell ⟨w.heap.size, 1, none⟩ (.int .i64 0)).setCell ⟨w.heap.size, 2, none⟩ (.int .i64 0)).setCell ⟨w.heap.size, 3, none⟩ (.int .i64 0)).setCell ⟨w.heap.size, 4, none⟩ (.int .i64 0)).setCell ⟨w.heap.size, 5, none⟩ (.int .i64 0)).setCell ⟨w.heap.size, 6, none⟩ (.int .i64 0)).setCell ⟨w.heap.size, 7, none⟩ (.int .i64 0)) = V9 at *
  have s0 := T.cell (m := 0) rfl
  have s1 := T.cell (m := 1) rfl
  have s2 := T.cell (m := 2) rfl
  have s3 := T.cell (m := 3) rfl
  have s4 := T.cell (m := 4) rfl
  have s5 := T.cell (m := 5) rfl
  have s6 := T.cell (m := 6) rfl
  have s7 := T.cell (m := 7) rfl
  have ls := T.lt
  refine bodyPost_ret (v := .tuple #[.agg #[.int .i64 0, .int .i64 0, .int .i64 0, .int .i64 0, .int .i64 0, .int .i64 0, .int .i64 0, .int .i64 0], .int .i64 1]) (by simp [results, Try.results11, go_sem, s0, s1, s2, s3, s4, s5, s6, s7, ls]) rfl ⟨rfl, hBV⟩
set_option maxHeartbeats 8000000 in
set_option maxRecDepth 100000 in
theorem mrM_one (b cap n hb hc : Nat) (p1 p2 X Y D N : Int) (w : World) (h4 : n ≤ 4096)
    (HNR : Hid (∀ X : World, Below w.heap.size w X → Calls Try.prog 27 #[.slice (some ⟨b, 0, none⟩) n cap] X fun e w' => e = .returned (.bool true) ∧ Same X w'))
    (HHU : Hid (∀ X : World, Below w.heap.size w X → Calls Try.prog 28 #[.slice (some ⟨b, 0, none⟩) n cap] X fun e w' => ∃ v, e = .returned v ∧ Row w' X.heap.size 30 2 v 1 [p1, p2] ∧ Below X.heap.size X w'))
    (HC : Hid (∀ W : World, Calls Try.prog 42 #[.int .i64 p1, .int .i64 p2, .int .i64 1, .agg #[.int .i64 p1, .int .i64 p2]] W fun e w' => e = .returned (rgV 0 0 0 0 ⟨X, Y, D, N⟩) ∧ Below W.heap.size W w')) :
    Calls Try.prog 11 #[.slice (some ⟨b, 0, none⟩) n cap] w fun e w' => e = .returned (.tuple #[rgV 1 0 0 0 ⟨X, Y, D, N⟩, .int .i64 0]) ∧ Below w.heap.size w w' := by
  have d4 : decide ((4096 : Int) < (n : Int)) = false := decide_eq_false (by omega)
  have d5 : ¬ (4096 : Int) < (n : Int) := by omega
  unfold rgV at HC ⊢
  simp only at HC ⊢
  have K0 : Hid (Below w.heap.size w (w.alloc (.cells #[.int .i64 0, .int .i64 0, .int .i64 0, .int .i64 0, .int .i64 0, .int .i64 0, .int .i64 0, .int .i64 0] 34))) := hide (ba (Below.refl _ _) _)
  have R2 : Hid (cb (w.alloc (.cells #[.int .i64 0, .int .i64 0, .int .i64 0, .int .i64 0, .int .i64 0, .int .i64 0, .int .i64 0, .int .i64 0] 34)) w.heap.size 34 z8) := hide (cb_new w 34 z8 _ rfl)
  go_enter Try.func11, Try.ntmps11
  go_wp2_with fail
  generalize w.alloc (.cells #[.int .i64 0, .int .i64 0, .int .i64 0, .int .i64 0, .int .i64 0, .int .i64 0, .int .i64 0, .int .i64 0] 34) = V0 at *
  refine (unhide HNR _ (unhide K0)).mono ?_
  rintro e V1 ⟨rfl, hs⟩
  have K1 := hide ((unhide K0).trans (hs.bel))
  have R2a : Hid (cb V1 w.heap.size 34 z8) := hide (by unfold cb; rw [hs.heap]; exact unhide R2)
  clear hs K0 R2 HNR
  go_wp2_with fail
  refine (unhide HHU _ (unhide K1)).mono ?_
  rintro e V2 ⟨v, rfl, hr, hB2⟩
  obtain ⟨gh, ch, rfl, hg1, hg2, hri, hc1, hc2⟩ := hr.full (by decide)
  have K2 := hide (bc (unhide K1) hB2)
  have R2b := hide ((unhide R2a).bel hB2)
  have H0 := hide (cells_of hri (j := 0) (x := p1) rfl)
  have H1 := hide (cells_of hri (j := 1) (x := p2) rfl)
  clear hr hB2 K1 R2a hri HHU
  go_wp2_with fail
  refine Go.Code.wp_mono (Only.to (fun _ _ h => h)) (mr7 (X := X) (Y := Y) (D := D) (N := N) H0 H1 (hide fun X _ => unhide HC X) (fun g5 V3 hB3 v5 g5s => ?_))
  have K3 := hide (bc (unhide K2) hB3)
  have R2c := hide ((unhide R2b).bel hB3)
  have R5 := hide v5
  have l2 : w.heap.size < g5 := Nat.lt_of_lt_of_le (unhide R2b).lt g5s
  clear hB3 K2 R2b v5 g5s H0 H1
  have f5 := (unhide R5).frozen
  have l5 := (unhide R5).lt
  have c0 := (unhide R5).cell (m := 0) rfl
  have c1 := (unhide R5).cell (m := 1) rfl
  have c2 := (unhide R5).cell (m := 2) rfl
  have c3 := (unhide R5).cell (m := 3) rfl
  have c4 := (unhide R5).cell (m := 4) rfl
  have c5 := (unhide R5).cell (m := 5) rfl
  have c6 := (unhide R5).cell (m := 6) rfl
  have c7 := (unhide R5).cell (m := 7) rfl
  go_upto_region 9 with fail
  have T5 := hide ((unhide R5).set 0 (.int .i64 1))
  have R2d : Hid (cb (V3.setCell ⟨g5, 0, none⟩ (.int .i64 1)) w.heap.size 34 z8) := hide ((unhide R2c).ne (by omega))
  have K4 : Hid (Below w.heap.size w (V3.setCell ⟨g5, 0, none⟩ (.int .i64 1))) := hide (Below.setCell (unhide K3) (Nat.le_of_lt l2) _)
  clear R5 R2c K3 f5 l5 c0 c1 c2 c3 c4 c5 c6 c7
  generalize V3.setCell ⟨g5, 0, none⟩ (.int .i64 1) = V4 at *
  have c0 := (unhide T5).cell (m := 0) rfl
  have c1 := (unhide T5).cell (m := 1) rfl
  have c2 := (unhide T5).cell (m := 2) rfl
  have c3 := (unhide T5).cell (m := 3) rfl
  have c4 := (unhide T5).cell (m := 4) rfl
  have c5 := (unhide T5).cell (m := 5) rfl
  have c6 := (unhide T5).cell (m := 6) rfl
  have c7 := (unhide T5).cell (m := 7) rfl
  have o0 := (unhide R2d).cell (m := 0) rfl
  have o1 := (unhide R2d).cell (m := 1) rfl
  have o2 := (unhide R2d).cell (m := 2) rfl
  have o3 := (unhide R2d).cell (m := 3) rfl
  have o4 := (unhide R2d).cell (m := 4) rfl
  have o5 := (unhide R2d).cell (m := 5) rfl
  have o6 := (unhide R2d).cell (m := 6) rfl
  have o7 := (unhide R2d).cell (m := 7) rfl
  have f2 := (unhide R2d).frozen
  go_wp2_with fail
  have T := (((((((((unhide R2d).set 0 (.int .i64 1)).set 1 (.int .i64 0)).set 2 (.int .i64 0)).set 3 (.int .i64 0)).set 4 (.int .i64 X)).set 5 (.int .i64 Y)).set 6 (.int .i64 D)).set 7 (.int .i64 N))
  have hBV : Below w.heap.size w ((((((((V4.setCell ⟨w.heap.size, 0, none⟩ (.int .i64 1)).setCell ⟨w.heap.size, 1, none⟩ (.int .i64 0)).setCell ⟨w.heap.size, 2, none⟩ (.int .i64 0)).setCell ⟨w.heap.size, 3, none⟩ (.int .i64 0)).setCell ⟨w.heap.size, 4, none⟩ (.int .i64 X)).setCell ⟨w.heap.size, 5, none⟩ (.int .i64 Y)).setCell ⟨w.heap.size, 6, none⟩ (.int .i64 D)).setCell ⟨w.heap.size, 7, none⟩ (.int .i64 N)) := (Below.setCell (Below.setCell (Below.setCell (Below.setCell (Below.setCell (Below.setCell (Below.setCell (Below.setCell (unhide K4) (Nat.le_refl _) _) (Nat.le_refl _) _) (Nat.le_refl _) _) (Nat.le_refl _) _) (Nat.le_refl _) _) (Nat.le_refl _) _) (Nat.le_refl _) _) (Nat.le_refl _) _)
  generalize ((((((((V4.setCell ⟨w.heap.size, 0, none⟩ (.int .i64 1)).setCell ⟨w.heap.size, 1, none⟩ (.int .i64 0)).setCell ⟨w.heap.size, 2, none⟩ (.int .i64 0)).setCell ⟨w.heap.size, 3, none⟩ (.int .i64 0)).setCell ⟨w.heap.size, 4, none⟩ (.int .i64 X)).setCell ⟨w.heap.size, 5, none⟩ (.int .i64 Y)).setCell ⟨w.heap.size, 6, none⟩ (.int .i64 D)).setCell ⟨w.heap.size, 7, none⟩ (.int .i64 N)) = V9 at *
  have s0 := T.cell (m := 0) rfl
  have s1 := T.cell (m := 1) rfl
  have s2 := T.cell (m := 2) rfl
  have s3 := T.cell (m := 3) rfl
  have s4 := T.cell (m := 4) rfl
  have s5 := T.cell (m := 5) rfl
  have s6 := T.cell (m := 6) rfl
  have s7 := T.cell (m := 7) rfl
  have ls := T.lt
  refine bodyPost_ret (v := .tuple #[.agg #[.int .i64 1, .int .i64 0, .int .i64 0, .int .i64 0, .int .i64 X, .int .i64 Y, .int .i64 D, .int .i64 N], .int .i64 0]) (by simp [results, Try.results11, go_sem, s0, s1, s2, s3, s4, s5, s6, s7, ls]) rfl ⟨rfl, hBV⟩
end Go.Proofs.Ytdcecfgmfmpeeaa
