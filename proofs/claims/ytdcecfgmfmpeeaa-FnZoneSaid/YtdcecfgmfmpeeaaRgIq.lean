/-
  circleThrough at none, one, two or three points. copy of up to two points into an array of three; circleThrough at any rim. smallestCircle at every list of near points and every rim that it is called with.
-/
import Derived.Test.YtdcecfgmfmpeeaaRgDq
import Derived.Test.YtdcecfgmfmpeeaaRgFq
import Derived.Test.YtdcecfgmfmpeeaaRgUq
import Derived.Laws.Cover3
import Derived.Laws.CopyRow
import Derived.Laws.CopyOwn
namespace Go.Proofs.Ytdcecfgmfmpeeaa
open Go.ChangeShapes Go.WideShapes Go.ChangeAt Go.RowKit
set_option linter.unusedVariables false
set_option linter.unusedSimpArgs false
theorem cenP_any (b : Nat) (a p c : Pt) (w : World) (ha : Nr1 a) (hp : Nr1 p) (hc : Nr1 c) (hs : side a p c ≠ 0)
  (h0 : w.cell? ⟨b, 0, none⟩ = some (.int .i64 a.1)) (h1 : w.cell? ⟨b, 1, none⟩ = some (.int .i64 a.2)) (h2 : w.cell? ⟨b, 2, none⟩ = some (.int .i64 p.1)) (h3 : w.cell? ⟨b, 3, none⟩ = some (.int .i64 p.2)) (h4 : w.cell? ⟨b, 4, none⟩ = some (.int .i64 c.1)) (h5 : w.cell? ⟨b, 5, none⟩ = some (.int .i64 c.2)) :
  Calls Try.prog 89 #[.pointer (some ⟨b, 0, none⟩)] w fun e w' => e = .returned (.agg #[.int .i64 (ctr a p c).1, .int .i64 (ctr a p c).2.1, .int .i64 (ctr a p c).2.2]) ∧ Below w.heap.size w w' := by
 have B := ctr_bd ha hp hc
 have hS := side_bd2 ha hp hc
 have s1 := sqs_bd ha hp
 have s2 := sqs_bd ha hc
 have ha' := ha
 have hp' := hp
 have hc' := hc
 obtain ⟨a1, a2, a3, a4⟩ := ha
 obtain ⟨p1, p2, p3, p4⟩ := hp
 obtain ⟨c1, c2, c3, c4⟩ := hc
 have H1 : Hid (∀ W : World, Calls Try.prog 52 #[.agg #[.int .i64 p.1, .int .i64 p.2], .agg #[.int .i64 a.1, .int .i64 a.2]] W fun e w' => e = .returned (.agg #[.int .i64 (p.1 - a.1), .int .i64 (p.2 - a.2)]) ∧ Below W.heap.size W w') := hide fun W => sub_bel p.1 p.2 a.1 a.2 W (nr_ptOk hp') (nr_ptOk ha')
 have H2 : Hid (∀ W : World, Calls Try.prog 52 #[.agg #[.int .i64 c.1, .int .i64 c.2], .agg #[.int .i64 a.1, .int .i64 a.2]] W fun e w' => e = .returned (.agg #[.int .i64 (c.1 - a.1), .int .i64 (c.2 - a.2)]) ∧ Below W.heap.size W w') := hide fun W => sub_bel c.1 c.2 a.1 a.2 W (nr_ptOk hc') (nr_ptOk ha')
 have H3 : Hid (∀ W : World, Calls Try.prog 55 #[.agg #[.int .i64 (p.1 - a.1), .int .i64 (p.2 - a.2)], .agg #[.int .i64 (c.1 - a.1), .int .i64 (c.2 - a.2)]] W fun e w' => e = .returned (.int .i64 (side a p c)) ∧ Below W.heap.size W w') := hide fun W => acr_bel (p.1 - a.1) (p.2 - a.2) (c.1 - a.1) (c.2 - a.2) W (by omega) (by omega)
 have H4 : Hid (∀ W : World, Calls Try.prog 54 #[.agg #[.int .i64 (p.1 - a.1), .int .i64 (p.2 - a.2)], .agg #[.int .i64 (p.1 - a.1), .int .i64 (p.2 - a.2)]] W fun e w' => e = .returned (.int .i64 (sq (sub p a))) ∧ Below W.heap.size W w') := hide fun W => alongW (p.1 - a.1) (p.2 - a.2) (p.1 - a.1) (p.2 - a.2) W (by omega) (by omega)
 have H5 : Hid (∀ W : World, Calls Try.prog 54 #[.agg #[.int .i64 (c.1 - a.1), .int .i64 (c.2 - a.2)], .agg #[.int .i64 (c.1 - a.1), .int .i64 (c.2 - a.2)]] W fun e w' => e = .returned (.int .i64 (sq (sub c a))) ∧ Below W.heap.size W w') := hide fun W => alongW (c.1 - a.1) (c.2 - a.2) (c.1 - a.1) (c.2 - a.2) W (by omega) (by omega)
 have hsg := sgn_cases (w := 2 * side a p c) (by omega)
 have H7 : Hid (∀ W : World, Calls Try.prog 88 #[.int .i64 ((a.1 * (2 * side a p c) + (c.2 - a.2) * sq (sub p a) - (p.2 - a.2) * sq (sub c a)) * sgn (2 * side a p c)), .int .i64 ((a.2 * (2 * side a p c) + (p.1 - a.1) * sq (sub c a) - (c.1 - a.1) * sq (sub p a)) * sgn (2 * side a p c)), .int .i64 (2 * side a p c * sgn (2 * side a p c))] W fun e w' => e = .returned (.agg #[.int .i64 (ctr a p c).1, .int .i64 (ctr a p c).2.1, .int .i64 (ctr a p c).2.2]) ∧ Below W.heap.size W w') := hide fun W => spotP _ _ _ W (by rcases hsg with ⟨h, e⟩ | ⟨h, e⟩ <;> rw [e] <;> omega) (by rcases hsg with ⟨h, e⟩ | ⟨h, e⟩ <;> rw [e] <;> omega) (by rcases hsg with ⟨h, e⟩ | ⟨h, e⟩ <;> rw [e] <;> omega) (by rcases hsg with ⟨h, e⟩ | ⟨h, e⟩ <;> rw [e] <;> omega)
 refine cenP_core b a.1 a.2 p.1 p.2 c.1 c.2 (p.1 - a.1) (p.2 - a.2) (c.1 - a.1) (c.2 - a.2) (side a p c) (2 * side a p c) (sq (sub p a)) (sq (sub c a)) _ _ _ _ _ _ _ _ _ _ (sgn (2 * side a p c)) _ _ _ _ _ _ w (hide h0) (hide h1) (hide h2) (hide h3) (hide h4) (hide h5) H1 H2 H3 H4 H5 (hide fun W => sign_any _ W) H7 (hide (wr64 (by omega) (by omega)))
  (hide (wr64 (by omega) (by omega))) (hide (wr64 (by omega) (by omega))) (hide (wr64 (by omega) (by omega))) (hide (wr64 (by omega) (by omega))) (hide (wr64 (by omega) (by omega)))
  (hide (wr64 (by omega) (by omega))) (hide (wr64 (by omega) (by omega))) (hide (wr64 (by omega) (by omega))) (hide (wr64 (by omega) (by omega))) (hide (wr64 (by omega) (by omega))) ?_ ?_ ?_
 all_goals
  rcases hsg with ⟨h, e⟩ | ⟨h, e⟩ <;> rw [e] <;> exact wr64 (by omega) (by omega)
set_option maxHeartbeats 2000000 in
set_option maxRecDepth 100000 in
theorem thr0P (w : World) : Calls Try.prog 65 #[.slice none 0 0] w fun e w' => e = .returned (.agg #[.int .i64 0, .int .i64 0, .int .i64 1, .int .i64 (-1)]) ∧ Below w.heap.size w w' := by
 go_enter Try.func65, Try.ntmps65
 go_wp2_with fail
 refine bodyPost_ret (v := .agg #[.int .i64 0, .int .i64 0, .int .i64 1, .int .i64 (-1)]) (by simp [results, Try.results65, go_sem]) rfl ⟨rfl, ba (ba (Below.refl _ _) _) _⟩
set_option maxHeartbeats 2000000 in
set_option maxRecDepth 100000 in
theorem thr1P_core (b cap : Nat) (x0 y0 X Y D r : Int) (w : World) (HA0 : Hid (w.cell? ⟨b, 0, none⟩ = some (.int .i64 x0))) (HA1 : Hid (w.cell? ⟨b, 1, none⟩ = some (.int .i64 y0)))
  (HF : Hid (∀ Xw : World, Calls Try.prog 88 #[.int .i64 x0, .int .i64 y0, .int .i64 1] Xw fun e w' => e = .returned (.agg #[.int .i64 X, .int .i64 Y, .int .i64 D]) ∧ Below Xw.heap.size Xw w')) (HP : Hid (∀ Xw : World, Calls Try.prog 66 #[.agg #[.int .i64 X, .int .i64 Y, .int .i64 D, .int .i64 0], .agg #[.int .i64 x0, .int .i64 y0]] Xw fun e w' => e = .returned (.int .i64 r) ∧ Below Xw.heap.size Xw w')) :
  Calls Try.prog 65 #[.slice (some ⟨b, 0, none⟩) 1 cap] w fun e w' => e = .returned (.agg #[.int .i64 X, .int .i64 Y, .int .i64 D, .int .i64 r]) ∧ Below w.heap.size w w' := by
 have K0 : Hid (Below w.heap.size w ((w.alloc (.cells #[.int .i64 0, .int .i64 0, .int .i64 0, .int .i64 0] 72)).alloc (.cells #[.int .i64 0, .int .i64 0, .int .i64 0, .int .i64 0] 72))) := hide (ba (ba (Below.refl _ _) _) _)
 have R2 : Hid (cb ((w.alloc (.cells #[.int .i64 0, .int .i64 0, .int .i64 0, .int .i64 0] 72)).alloc (.cells #[.int .i64 0, .int .i64 0, .int .i64 0, .int .i64 0] 72)) w.heap.size 72 [.int .i64 0, .int .i64 0, .int .i64 0, .int .i64 0]) := hide (cb_new1 w 72 [.int .i64 0, .int .i64 0, .int .i64 0, .int .i64 0] _)
 have R3 : Hid (cb ((w.alloc (.cells #[.int .i64 0, .int .i64 0, .int .i64 0, .int .i64 0] 72)).alloc (.cells #[.int .i64 0, .int .i64 0, .int .i64 0, .int .i64 0] 72)) (w.heap.size + 1) 72 [.int .i64 0, .int .i64 0, .int .i64 0, .int .i64 0]) := hide (cb_new2 w 72 [.int .i64 0, .int .i64 0, .int .i64 0, .int .i64 0] _)
 go_enter Try.func65, Try.ntmps65
 go_wp2_with fail
 have l3 := (zu R3).lt
 have hA0 : Hid (((w.alloc (.cells #[.int .i64 0, .int .i64 0, .int .i64 0, .int .i64 0] 72)).alloc (.cells #[.int .i64 0, .int .i64 0, .int .i64 0, .int .i64 0] 72)).cell? ⟨b, 0, none⟩ = some (.int .i64 x0)) := hide (keep1 (zu K0) (zu HA0))
 have hA1 : Hid (((w.alloc (.cells #[.int .i64 0, .int .i64 0, .int .i64 0, .int .i64 0] 72)).alloc (.cells #[.int .i64 0, .int .i64 0, .int .i64 0, .int .i64 0] 72)).cell? ⟨b, 1, none⟩ = some (.int .i64 y0)) := hide (keep1 (zu K0) (zu HA1))
 generalize ((w.alloc (.cells #[.int .i64 0, .int .i64 0, .int .i64 0, .int .i64 0] 72)).alloc (.cells #[.int .i64 0, .int .i64 0, .int .i64 0, .int .i64 0] 72)) = V0 at *
 refine Go.Code.wp_mono (Only.to (fun _ _ h => h)) (ci7 (X := X) (Y := Y) (D := D) hA0 hA1 l3 (hide ((zu R3).cell (m := 0) rfl)) (hide ((zu R3).cell (m := 1) rfl)) (hide ((zu R3).cell (m := 2) rfl)) (hide (zu R3).frozen) (hide fun Xw _ => zu HF Xw) (fun V1 V2 hV2 hB1 => ?_))
 clear hA0 hA1 l3
 have R3b : Hid (cb V2 (w.heap.size + 1) 72 [.int .i64 X, .int .i64 Y, .int .i64 D, .int .i64 0]) := hide (by rw [hV2]; exact ((((zu R3).bel hB1).set 0 (.int .i64 X)).set 1 (.int .i64 Y)).set 2 (.int .i64 D))
 have R2b : Hid (cb V2 w.heap.size 72 [.int .i64 0, .int .i64 0, .int .i64 0, .int .i64 0]) := hide (by rw [hV2]; exact ((((zu R2).bel hB1).ne (by omega)).ne (by omega)).ne (by omega))
 have K2 : Hid (Below w.heap.size w V2) := hide (by rw [hV2]; exact Below.setCell (Below.setCell (Below.setCell (bc (zu K0) hB1) (Nat.le_succ _) _) (Nat.le_succ _) _) (Nat.le_succ _) _)
 have hA0 : Hid (V2.cell? ⟨b, 0, none⟩ = some (.int .i64 x0)) := hide (keep1 (zu K2) (zu HA0))
 have hA1 : Hid (V2.cell? ⟨b, 1, none⟩ = some (.int .i64 y0)) := hide (keep1 (zu K2) (zu HA1))
 have l3 := (zu R3b).lt
 clear hB1 hV2 K0 R2 R3 V1
 try go_wp2_with fail
 refine Go.Code.wp_mono (Only.to (fun _ _ h => h)) (ci10 (n := 1) (r := r) hA0 hA1 (hide ((zu R3b).cell (m := 0) rfl)) (hide ((zu R3b).cell (m := 1) rfl)) (hide ((zu R3b).cell (m := 2) rfl)) (hide ((zu R3b).cell (m := 3) rfl)) l3 (hide ((zu R3b).cell (m := 3) rfl)) (hide (zu R3b).frozen) (hide (by decide)) (hide fun Xw _ => zu HP Xw) (fun V3 V4 hV4 hB3 => ?_))
 have R3c : Hid (cb V4 (w.heap.size + 1) 72 [.int .i64 X, .int .i64 Y, .int .i64 D, .int .i64 r]) := hide (by rw [hV4]; exact (((zu R3b).bel hB3).set 3 (.int .i64 r)))
 have R2c : Hid (cb V4 w.heap.size 72 [.int .i64 0, .int .i64 0, .int .i64 0, .int .i64 0]) := hide (by rw [hV4]; exact (((zu R2b).bel hB3).ne (by omega)))
 have K4 : Hid (Below w.heap.size w V4) := hide (by rw [hV4]; exact Below.setCell (bc (zu K2) hB3) (Nat.le_succ _) _)
 clear hB3 hV4 K2 R2b R3b V3
 have d0 := (zu R3c).cell (m := 0) rfl
 have d1 := (zu R3c).cell (m := 1) rfl
 have d2 := (zu R3c).cell (m := 2) rfl
 have d3 := (zu R3c).cell (m := 3) rfl
 have c0 := (zu R2c).cell (m := 0) rfl
 have c1 := (zu R2c).cell (m := 1) rfl
 have c2 := (zu R2c).cell (m := 2) rfl
 have c3 := (zu R2c).cell (m := 3) rfl
 have f2 := (zu R2c).frozen
 try go_wp2_with fail
 have T := (((((zu R2c).set 0 (.int .i64 X)).set 1 (.int .i64 Y)).set 2 (.int .i64 D)).set 3 (.int .i64 r))
 have hBV : Below w.heap.size w ((((V4.setCell ⟨w.heap.size, 0, none⟩ (.int .i64 X)).setCell ⟨w.heap.size, 1, none⟩ (.int .i64 Y)).setCell ⟨w.heap.size, 2, none⟩ (.int .i64 D)).setCell ⟨w.heap.size, 3, none⟩ (.int .i64 r)) := (Below.setCell (Below.setCell (Below.setCell (Below.setCell (zu K4) (Nat.le_refl _) _) (Nat.le_refl _) _) (Nat.le_refl _) _) (Nat.le_refl _) _)
 generalize ((((V4.setCell ⟨w.heap.size, 0, none⟩ (.int .i64 X)).setCell ⟨w.heap.size, 1, none⟩ (.int .i64 Y)).setCell ⟨w.heap.size, 2, none⟩ (.int .i64 D)).setCell ⟨w.heap.size, 3, none⟩ (.int .i64 r)) = V9 at *
 have s0 := T.cell (m := 0) rfl
 have s1 := T.cell (m := 1) rfl
 have s2 := T.cell (m := 2) rfl
 have s3 := T.cell (m := 3) rfl
 have ls := T.lt
 refine bodyPost_ret (v := .agg #[.int .i64 X, .int .i64 Y, .int .i64 D, .int .i64 r]) (by simp [results, Try.results65, go_sem, s0, s1, s2, s3, ls]) rfl ⟨rfl, hBV⟩
set_option maxHeartbeats 2000000 in
set_option maxRecDepth 100000 in
theorem thr2P_core (b cap : Nat) (x0 y0 x1 y1 X Y D r : Int) (w : World) (HA0 : Hid (w.cell? ⟨b, 0, none⟩ = some (.int .i64 x0))) (HA1 : Hid (w.cell? ⟨b, 1, none⟩ = some (.int .i64 y0))) (HA2 : Hid (w.cell? ⟨b, 2, none⟩ = some (.int .i64 x1))) (HA3 : Hid (w.cell? ⟨b, 3, none⟩ = some (.int .i64 y1)))
  (W1 : Hid (IntKind.i64.wrap (x0 + x1) = x0 + x1)) (W2 : Hid (IntKind.i64.wrap (y0 + y1) = y0 + y1))
  (HF : Hid (∀ Xw : World, Calls Try.prog 88 #[.int .i64 (x0 + x1), .int .i64 (y0 + y1), .int .i64 2] Xw fun e w' => e = .returned (.agg #[.int .i64 X, .int .i64 Y, .int .i64 D]) ∧ Below Xw.heap.size Xw w')) (HP : Hid (∀ Xw : World, Calls Try.prog 66 #[.agg #[.int .i64 X, .int .i64 Y, .int .i64 D, .int .i64 0], .agg #[.int .i64 x0, .int .i64 y0]] Xw fun e w' => e = .returned (.int .i64 r) ∧ Below Xw.heap.size Xw w')) :
  Calls Try.prog 65 #[.slice (some ⟨b, 0, none⟩) 2 cap] w fun e w' => e = .returned (.agg #[.int .i64 X, .int .i64 Y, .int .i64 D, .int .i64 r]) ∧ Below w.heap.size w w' := by
 have K0 : Hid (Below w.heap.size w ((w.alloc (.cells #[.int .i64 0, .int .i64 0, .int .i64 0, .int .i64 0] 72)).alloc (.cells #[.int .i64 0, .int .i64 0, .int .i64 0, .int .i64 0] 72))) := hide (ba (ba (Below.refl _ _) _) _)
 have R2 : Hid (cb ((w.alloc (.cells #[.int .i64 0, .int .i64 0, .int .i64 0, .int .i64 0] 72)).alloc (.cells #[.int .i64 0, .int .i64 0, .int .i64 0, .int .i64 0] 72)) w.heap.size 72 [.int .i64 0, .int .i64 0, .int .i64 0, .int .i64 0]) := hide (cb_new1 w 72 [.int .i64 0, .int .i64 0, .int .i64 0, .int .i64 0] _)
 have R3 : Hid (cb ((w.alloc (.cells #[.int .i64 0, .int .i64 0, .int .i64 0, .int .i64 0] 72)).alloc (.cells #[.int .i64 0, .int .i64 0, .int .i64 0, .int .i64 0] 72)) (w.heap.size + 1) 72 [.int .i64 0, .int .i64 0, .int .i64 0, .int .i64 0]) := hide (cb_new2 w 72 [.int .i64 0, .int .i64 0, .int .i64 0, .int .i64 0] _)
 go_enter Try.func65, Try.ntmps65
 go_wp2_with fail
 have l3 := (zu R3).lt
 have hA0 : Hid (((w.alloc (.cells #[.int .i64 0, .int .i64 0, .int .i64 0, .int .i64 0] 72)).alloc (.cells #[.int .i64 0, .int .i64 0, .int .i64 0, .int .i64 0] 72)).cell? ⟨b, 0, none⟩ = some (.int .i64 x0)) := hide (keep1 (zu K0) (zu HA0))
 have hA1 : Hid (((w.alloc (.cells #[.int .i64 0, .int .i64 0, .int .i64 0, .int .i64 0] 72)).alloc (.cells #[.int .i64 0, .int .i64 0, .int .i64 0, .int .i64 0] 72)).cell? ⟨b, 1, none⟩ = some (.int .i64 y0)) := hide (keep1 (zu K0) (zu HA1))
 have hA2 : Hid (((w.alloc (.cells #[.int .i64 0, .int .i64 0, .int .i64 0, .int .i64 0] 72)).alloc (.cells #[.int .i64 0, .int .i64 0, .int .i64 0, .int .i64 0] 72)).cell? ⟨b, 2, none⟩ = some (.int .i64 x1)) := hide (keep1 (zu K0) (zu HA2))
 have hA3 : Hid (((w.alloc (.cells #[.int .i64 0, .int .i64 0, .int .i64 0, .int .i64 0] 72)).alloc (.cells #[.int .i64 0, .int .i64 0, .int .i64 0, .int .i64 0] 72)).cell? ⟨b, 3, none⟩ = some (.int .i64 y1)) := hide (keep1 (zu K0) (zu HA3))
 generalize ((w.alloc (.cells #[.int .i64 0, .int .i64 0, .int .i64 0, .int .i64 0] 72)).alloc (.cells #[.int .i64 0, .int .i64 0, .int .i64 0, .int .i64 0] 72)) = V0 at *
 refine Go.Code.wp_mono (Only.to (fun _ _ h => h)) (ci9 (X := X) (Y := Y) (D := D) hA0 hA1 hA2 hA3 l3 (hide ((zu R3).cell (m := 0) rfl)) (hide ((zu R3).cell (m := 1) rfl)) (hide ((zu R3).cell (m := 2) rfl)) (hide (zu R3).frozen) W1 W2 (hide fun Xw _ => zu HF Xw) (fun V1 V2 hV2 hB1 => ?_))
 clear hA0 hA1 hA2 hA3 l3
 have R3b : Hid (cb V2 (w.heap.size + 1) 72 [.int .i64 X, .int .i64 Y, .int .i64 D, .int .i64 0]) := hide (by rw [hV2]; exact ((((zu R3).bel hB1).set 0 (.int .i64 X)).set 1 (.int .i64 Y)).set 2 (.int .i64 D))
 have R2b : Hid (cb V2 w.heap.size 72 [.int .i64 0, .int .i64 0, .int .i64 0, .int .i64 0]) := hide (by rw [hV2]; exact ((((zu R2).bel hB1).ne (by omega)).ne (by omega)).ne (by omega))
 have K2 : Hid (Below w.heap.size w V2) := hide (by rw [hV2]; exact Below.setCell (Below.setCell (Below.setCell (bc (zu K0) hB1) (Nat.le_succ _) _) (Nat.le_succ _) _) (Nat.le_succ _) _)
 have hA0 : Hid (V2.cell? ⟨b, 0, none⟩ = some (.int .i64 x0)) := hide (keep1 (zu K2) (zu HA0))
 have hA1 : Hid (V2.cell? ⟨b, 1, none⟩ = some (.int .i64 y0)) := hide (keep1 (zu K2) (zu HA1))
 have l3 := (zu R3b).lt
 clear hB1 hV2 K0 R2 R3 V1
 try go_wp2_with fail
 refine Go.Code.wp_mono (Only.to (fun _ _ h => h)) (ci10 (n := 2) (r := r) hA0 hA1 (hide ((zu R3b).cell (m := 0) rfl)) (hide ((zu R3b).cell (m := 1) rfl)) (hide ((zu R3b).cell (m := 2) rfl)) (hide ((zu R3b).cell (m := 3) rfl)) l3 (hide ((zu R3b).cell (m := 3) rfl)) (hide (zu R3b).frozen) (hide (by decide)) (hide fun Xw _ => zu HP Xw) (fun V3 V4 hV4 hB3 => ?_))
 have R3c : Hid (cb V4 (w.heap.size + 1) 72 [.int .i64 X, .int .i64 Y, .int .i64 D, .int .i64 r]) := hide (by rw [hV4]; exact (((zu R3b).bel hB3).set 3 (.int .i64 r)))
 have R2c : Hid (cb V4 w.heap.size 72 [.int .i64 0, .int .i64 0, .int .i64 0, .int .i64 0]) := hide (by rw [hV4]; exact (((zu R2b).bel hB3).ne (by omega)))
 have K4 : Hid (Below w.heap.size w V4) := hide (by rw [hV4]; exact Below.setCell (bc (zu K2) hB3) (Nat.le_succ _) _)
 clear hB3 hV4 K2 R2b R3b V3
 have d0 := (zu R3c).cell (m := 0) rfl
 have d1 := (zu R3c).cell (m := 1) rfl
 have d2 := (zu R3c).cell (m := 2) rfl
 have d3 := (zu R3c).cell (m := 3) rfl
 have c0 := (zu R2c).cell (m := 0) rfl
 have c1 := (zu R2c).cell (m := 1) rfl
 have c2 := (zu R2c).cell (m := 2) rfl
 have c3 := (zu R2c).cell (m := 3) rfl
 have f2 := (zu R2c).frozen
 try go_wp2_with fail
 have T := (((((zu R2c).set 0 (.int .i64 X)).set 1 (.int .i64 Y)).set 2 (.int .i64 D)).set 3 (.int .i64 r))
 have hBV : Below w.heap.size w ((((V4.setCell ⟨w.heap.size, 0, none⟩ (.int .i64 X)).setCell ⟨w.heap.size, 1, none⟩ (.int .i64 Y)).setCell ⟨w.heap.size, 2, none⟩ (.int .i64 D)).setCell ⟨w.heap.size, 3, none⟩ (.int .i64 r)) := (Below.setCell (Below.setCell (Below.setCell (Below.setCell (zu K4) (Nat.le_refl _) _) (Nat.le_refl _) _) (Nat.le_refl _) _) (Nat.le_refl _) _)
 generalize ((((V4.setCell ⟨w.heap.size, 0, none⟩ (.int .i64 X)).setCell ⟨w.heap.size, 1, none⟩ (.int .i64 Y)).setCell ⟨w.heap.size, 2, none⟩ (.int .i64 D)).setCell ⟨w.heap.size, 3, none⟩ (.int .i64 r)) = V9 at *
 have s0 := T.cell (m := 0) rfl
 have s1 := T.cell (m := 1) rfl
 have s2 := T.cell (m := 2) rfl
 have s3 := T.cell (m := 3) rfl
 have ls := T.lt
 refine bodyPost_ret (v := .agg #[.int .i64 X, .int .i64 Y, .int .i64 D, .int .i64 r]) (by simp [results, Try.results65, go_sem, s0, s1, s2, s3, ls]) rfl ⟨rfl, hBV⟩
set_option maxHeartbeats 2000000 in
set_option maxRecDepth 100000 in
theorem thr3P_core (b cap : Nat) (x0 y0 X Y D r : Int) (w : World) (HA0 : Hid (w.cell? ⟨b, 0, none⟩ = some (.int .i64 x0))) (HA1 : Hid (w.cell? ⟨b, 1, none⟩ = some (.int .i64 y0)))
  (HF : Hid (∀ Xw : World, Below w.heap.size w Xw → Calls Try.prog 89 #[.pointer (some ⟨b, 0, none⟩)] Xw fun e w' => e = .returned (.agg #[.int .i64 X, .int .i64 Y, .int .i64 D]) ∧ Below Xw.heap.size Xw w')) (HP : Hid (∀ Xw : World, Calls Try.prog 66 #[.agg #[.int .i64 X, .int .i64 Y, .int .i64 D, .int .i64 0], .agg #[.int .i64 x0, .int .i64 y0]] Xw fun e w' => e = .returned (.int .i64 r) ∧ Below Xw.heap.size Xw w')) :
  Calls Try.prog 65 #[.slice (some ⟨b, 0, none⟩) 3 cap] w fun e w' => e = .returned (.agg #[.int .i64 X, .int .i64 Y, .int .i64 D, .int .i64 r]) ∧ Below w.heap.size w w' := by
 have K0 : Hid (Below w.heap.size w ((w.alloc (.cells #[.int .i64 0, .int .i64 0, .int .i64 0, .int .i64 0] 72)).alloc (.cells #[.int .i64 0, .int .i64 0, .int .i64 0, .int .i64 0] 72))) := hide (ba (ba (Below.refl _ _) _) _)
 have R2 : Hid (cb ((w.alloc (.cells #[.int .i64 0, .int .i64 0, .int .i64 0, .int .i64 0] 72)).alloc (.cells #[.int .i64 0, .int .i64 0, .int .i64 0, .int .i64 0] 72)) w.heap.size 72 [.int .i64 0, .int .i64 0, .int .i64 0, .int .i64 0]) := hide (cb_new1 w 72 [.int .i64 0, .int .i64 0, .int .i64 0, .int .i64 0] _)
 have R3 : Hid (cb ((w.alloc (.cells #[.int .i64 0, .int .i64 0, .int .i64 0, .int .i64 0] 72)).alloc (.cells #[.int .i64 0, .int .i64 0, .int .i64 0, .int .i64 0] 72)) (w.heap.size + 1) 72 [.int .i64 0, .int .i64 0, .int .i64 0, .int .i64 0]) := hide (cb_new2 w 72 [.int .i64 0, .int .i64 0, .int .i64 0, .int .i64 0] _)
 have hAA := fun W => Go.run_arrayAt (P := Try.prog) W 97 30 3 (some ⟨b, 0, none⟩) 3 cap Try.underlying97 (Nat.le_refl _)
 go_enter Try.func65, Try.ntmps65
 go_wp2_with fail
 generalize ((w.alloc (.cells #[.int .i64 0, .int .i64 0, .int .i64 0, .int .i64 0] 72)).alloc (.cells #[.int .i64 0, .int .i64 0, .int .i64 0, .int .i64 0] 72)) = V0 at *
 refine (zu HF _ (zu K0)).mono ?_
 rintro e V1 ⟨rfl, hB1⟩
 have R3z := hide ((zu R3).bel hB1)
 have l3 := (zu R3z).lt
 have o0 := (zu R3z).cell (m := 0) rfl
 have o1 := (zu R3z).cell (m := 1) rfl
 have o2 := (zu R3z).cell (m := 2) rfl
 have f3 := (zu R3z).frozen
 go_wp2_with fail
 clear o0 o1 o2 f3 l3 R3z hAA
 obtain ⟨V2, hV2⟩ : ∃ V2, V2 = (((V1.setCell ⟨w.heap.size + 1, 0, none⟩ (.int .i64 X)).setCell ⟨w.heap.size + 1, 1, none⟩ (.int .i64 Y)).setCell ⟨w.heap.size + 1, 2, none⟩ (.int .i64 D)) := ⟨_, rfl⟩
 rw [← hV2]
 have R3b : Hid (cb V2 (w.heap.size + 1) 72 [.int .i64 X, .int .i64 Y, .int .i64 D, .int .i64 0]) := hide (by rw [hV2]; exact ((((zu R3).bel hB1).set 0 (.int .i64 X)).set 1 (.int .i64 Y)).set 2 (.int .i64 D))
 have R2b : Hid (cb V2 w.heap.size 72 [.int .i64 0, .int .i64 0, .int .i64 0, .int .i64 0]) := hide (by rw [hV2]; exact ((((zu R2).bel hB1).ne (by omega)).ne (by omega)).ne (by omega))
 have K2 : Hid (Below w.heap.size w V2) := hide (by rw [hV2]; exact Below.setCell (Below.setCell (Below.setCell (bc (zu K0) hB1) (Nat.le_succ _) _) (Nat.le_succ _) _) (Nat.le_succ _) _)
 have hA0 : Hid (V2.cell? ⟨b, 0, none⟩ = some (.int .i64 x0)) := hide (keep1 (zu K2) (zu HA0))
 have hA1 : Hid (V2.cell? ⟨b, 1, none⟩ = some (.int .i64 y0)) := hide (keep1 (zu K2) (zu HA1))
 have l3 := (zu R3b).lt
 clear hB1 hV2 K0 R2 R3 V1
 try go_wp2_with fail
 refine Go.Code.wp_mono (Only.to (fun _ _ h => h)) (ci10 (n := 3) (r := r) hA0 hA1 (hide ((zu R3b).cell (m := 0) rfl)) (hide ((zu R3b).cell (m := 1) rfl)) (hide ((zu R3b).cell (m := 2) rfl)) (hide ((zu R3b).cell (m := 3) rfl)) l3 (hide ((zu R3b).cell (m := 3) rfl)) (hide (zu R3b).frozen) (hide (by decide)) (hide fun Xw _ => zu HP Xw) (fun V3 V4 hV4 hB3 => ?_))
 have R3c : Hid (cb V4 (w.heap.size + 1) 72 [.int .i64 X, .int .i64 Y, .int .i64 D, .int .i64 r]) := hide (by rw [hV4]; exact (((zu R3b).bel hB3).set 3 (.int .i64 r)))
 have R2c : Hid (cb V4 w.heap.size 72 [.int .i64 0, .int .i64 0, .int .i64 0, .int .i64 0]) := hide (by rw [hV4]; exact (((zu R2b).bel hB3).ne (by omega)))
 have K4 : Hid (Below w.heap.size w V4) := hide (by rw [hV4]; exact Below.setCell (bc (zu K2) hB3) (Nat.le_succ _) _)
 clear hB3 hV4 K2 R2b R3b V3
 have d0 := (zu R3c).cell (m := 0) rfl
 have d1 := (zu R3c).cell (m := 1) rfl
 have d2 := (zu R3c).cell (m := 2) rfl
 have d3 := (zu R3c).cell (m := 3) rfl
 have c0 := (zu R2c).cell (m := 0) rfl
 have c1 := (zu R2c).cell (m := 1) rfl
 have c2 := (zu R2c).cell (m := 2) rfl
 have c3 := (zu R2c).cell (m := 3) rfl
 have f2 := (zu R2c).frozen
 try go_wp2_with fail
 have T := (((((zu R2c).set 0 (.int .i64 X)).set 1 (.int .i64 Y)).set 2 (.int .i64 D)).set 3 (.int .i64 r))
 have hBV : Below w.heap.size w ((((V4.setCell ⟨w.heap.size, 0, none⟩ (.int .i64 X)).setCell ⟨w.heap.size, 1, none⟩ (.int .i64 Y)).setCell ⟨w.heap.size, 2, none⟩ (.int .i64 D)).setCell ⟨w.heap.size, 3, none⟩ (.int .i64 r)) := (Below.setCell (Below.setCell (Below.setCell (Below.setCell (zu K4) (Nat.le_refl _) _) (Nat.le_refl _) _) (Nat.le_refl _) _) (Nat.le_refl _) _)
 generalize ((((V4.setCell ⟨w.heap.size, 0, none⟩ (.int .i64 X)).setCell ⟨w.heap.size, 1, none⟩ (.int .i64 Y)).setCell ⟨w.heap.size, 2, none⟩ (.int .i64 D)).setCell ⟨w.heap.size, 3, none⟩ (.int .i64 r)) = V9 at *
 have s0 := T.cell (m := 0) rfl
 have s1 := T.cell (m := 1) rfl
 have s2 := T.cell (m := 2) rfl
 have s3 := T.cell (m := 3) rfl
 have ls := T.lt
 refine bodyPost_ret (v := .agg #[.int .i64 X, .int .i64 Y, .int .i64 D, .int .i64 r]) (by simp [results, Try.results65, go_sem, s0, s1, s2, s3, ls]) rfl ⟨rfl, hBV⟩
theorem run_copy_k {P : Program} (w : World) (dT sT ty elem k : Nat) (g dLen dCap : Nat) (a : Addr) (sLen sCap : Nat) (cur : Array Value) (t : TypeId) (cs : List Value)
  (hu : P.underlying dT = some (.slice elem)) (hs : (P.info? elem).map (·.size) = some k)
  (hg : w.heap[g]? = some (.cells cur t (0, 0))) (hn : cs.length = Nat.min sLen dLen * k)
  (hsrc : ∀ j v, cs[j]? = some v → w.cell? (a.add j) = some v) (hfit : cs.length ≤ cur.size) (h1 : ∀ v ∈ cs, v.oneCell' = true) :
  (Builtin.copy_ #[dT, sT] ty #[.slice (some ⟨g, 0, none⟩) dLen dCap, .slice (some a) sLen sCap]).run P w =
   .ok (goInt (Nat.min sLen dLen)) (w.setRow g (cs ++ cur.toList.drop cs.length).toArray) := by
 have hl := run_loadCells_list (P := P) w a cs hsrc
 have hst := run_storeCells_at P g 0 t cs 0 cur w hg (by simpa using hfit) h1
 simp only [Nat.zero_add, List.take_zero, List.nil_append] at hst
 cases hq : P.info? elem with
 | none => simp [hq] at hs
 | some i =>
  have hi : i.size = k := by simpa [hq] using hs
  simp [Builtin.copy_, run_underlying hu, Builtin.lenOf, Builtin.firstCells, sizeOf, typeInfo, hq, hi, ← hn, hl, hst]
theorem but_setRow {w : World} {g : Nat} (cs : Array Value) : But g w (w.setRow g cs) := ⟨rfl, rfl, rfl, by simp [World.setRow], fun k hk => setRow_other w g k cs hk⟩
def Rim (w : World) (x : Option Addr) (m rc : Nat) (R : List Pt) : Prop := R.length = m ∧ (x = none ∧ m = 0 ∧ rc = 0 ∨ ∃ br, x = some ⟨br, 0, none⟩ ∧ m ≠ 0 ∧ br < w.heap.size ∧ IntsAt w br 0 (flat2 R))
theorem Rim.bel {w w' : World} {x : Option Addr} {m rc : Nat} {R : List Pt} (h : Rim w x m rc R) (hb : Below w.heap.size w w') : Rim w' x m rc R := by
 obtain ⟨h1, h2 | ⟨br, h3, h4, h5, h6⟩⟩ := h
 ·exact ⟨h1, .inl h2⟩
 ·exact ⟨h1, .inr ⟨br, h3, h4, Nat.lt_of_lt_of_le h5 hb.size, h6.below hb h5⟩⟩
theorem ptsz : (Try.prog.info? 30).map (·.size) = some 2 := by kernel_rfl
def six : List Value := [.int .i64 0, .int .i64 0, .int .i64 0, .int .i64 0, .int .i64 0, .int .i64 0]
def nxt (R : List Pt) : List Value := (flat2 R).map (Value.int .i64) ++ six.drop (R.length * 2)
theorem copy_rim {W : World} {g : Nat} {x : Option Addr} {m rc : Nat} {R : List Pt} (hR : Rim W x m rc R) (hm2 : m ≤ 2) (hg : cb W g 97 six) :
  ∃ W', (Builtin.copy_ #[23, 23] 3 #[.slice (some ⟨g, 0, none⟩) 3 3, .slice x m rc]).run Try.prog W = .ok (.int .i64 (m : Int)) W' ∧ cb W' g 97 (nxt R) ∧ But g W W' := by
 obtain ⟨h1, ⟨rfl, rfl, rfl⟩ | ⟨br, rfl, h4, h5, h6⟩⟩ := hR
 ·refine ⟨W, run_copy_nil Try.prog W 23 23 3 30 ⟨g, 0, none⟩ 3 3 Try.underlying23 (by rw [ptsz]; rfl), ?_, But.refl _ _⟩
  have : R = [] := List.eq_nil_of_length_eq_zero h1
  rw [this]
  exact hg
 ·have hl : ((flat2 R).map (Value.int .i64)).length = Nat.min m 3 * 2 := by
   rw [List.length_map, flat2_len, h1]
   have : Nat.min m 3 = m := Nat.min_eq_left (by omega)
   rw [this]
  have hr := run_copy_k (P := Try.prog) W 23 23 3 30 2 g 3 3 ⟨br, 0, none⟩ m rc six.toArray 97 ((flat2 R).map (Value.int .i64)) Try.underlying23 ptsz hg hl
   (fun j v hv => by
    rw [add_none, Nat.zero_add]
    rw [List.getElem?_map] at hv
    cases hj : (flat2 R)[j]? with
    | none => rw [hj] at hv; cases hv
    | some q =>
     rw [hj] at hv
     have := h6 j q hj
     simp only [Option.map_some, Option.some.injEq] at hv
     rw [← hv]
     simpa using this)
   (by rw [hl]; have : Nat.min m 3 = m := Nat.min_eq_left (by omega); rw [this]; simp [six]; omega) ints_one
  have hmm : Nat.min m 3 = m := Nat.min_eq_left (by omega)
  rw [hmm] at hr hl
  refine ⟨_, hr, ?_, but_setRow _⟩
  have e := setRow_heap W g six.toArray ((flat2 R).map (Value.int .i64) ++ six.toArray.toList.drop ((flat2 R).map (Value.int .i64)).length).toArray 97 (0, 0) hg
  unfold cb nxt
  rw [e, hl, h1]
theorem cells_of {w : World} {b : Nat} {L : List Int} (h : IntsAt w b 0 L) {j : Nat} {x : Int} (hj : L[j]? = some x) : w.cell? ⟨b, j, none⟩ = some (.int .i64 x) := by
 have := h j x hj
 rwa [Nat.zero_add] at this
theorem thrP_any (x : Option Addr) (m rc : Nat) (R : List Pt) (w : World) (hR : Rim w x m rc R) (hl : m ≤ 3) (hN : Nrl R) (hg : Gd R) :
  Calls Try.prog 65 #[.slice x m rc] w fun e w' => e = .returned (icV (thr R)) ∧ Below w.heap.size w w' := by
 have hnr := thr_nr hN hg
 obtain ⟨h1, ⟨rfl, rfl, rfl⟩ | ⟨br, rfl, h4, h5, h6⟩⟩ := hR
 ·have : R = [] := List.eq_nil_of_length_eq_zero h1
  rw [this]
  exact thr0P w
 ·match R, h1, h6, hN, hg, hnr with
  | [], h1, _, _, _, _ => exact absurd h1.symm h4
  | [a], h1, h6, hN, hg, hnr =>
   have h1' : m = 1 := h1.symm
   subst h1'
   have na := hN a (by simp)
   have nb := na
   obtain ⟨a1, a2, a3, a4⟩ := na
   exact thr1P_core br rc a.1 a.2 (red a.1 a.2 1).1 (red a.1 a.2 1).2.1 (red a.1 a.2 1).2.2 (aptS (red a.1 a.2 1) a) w (hide (cells_of h6 rfl)) (hide (cells_of h6 rfl))
    (hide fun X => spotP _ _ _ X (by omega) (by omega) (by omega) (by omega)) (hide fun X => apart_any ⟨(red a.1 a.2 1).1, (red a.1 a.2 1).2.1, (red a.1 a.2 1).2.2, 0⟩ a X hnr nb)
  | [a, p], h1, h6, hN, hg, hnr =>
   have h1' : m = 2 := h1.symm
   subst h1'
   have na := hN a (by simp)
   have nb := na
   obtain ⟨a1, a2, a3, a4⟩ := na
   obtain ⟨p1, p2, p3, p4⟩ := hN p (by simp)
   exact thr2P_core br rc a.1 a.2 p.1 p.2 (red (a.1 + p.1) (a.2 + p.2) 2).1 (red (a.1 + p.1) (a.2 + p.2) 2).2.1 (red (a.1 + p.1) (a.2 + p.2) 2).2.2 (aptS (red (a.1 + p.1) (a.2 + p.2) 2) a) w (hide (cells_of h6 rfl)) (hide (cells_of h6 rfl)) (hide (cells_of h6 rfl)) (hide (cells_of h6 rfl)) (hide (wr64 (by omega) (by omega))) (hide (wr64 (by omega) (by omega)))
    (hide fun X => spotP _ _ _ X (by omega) (by omega) (by omega) (by omega)) (hide fun X => apart_any ⟨(red (a.1 + p.1) (a.2 + p.2) 2).1, (red (a.1 + p.1) (a.2 + p.2) 2).2.1, (red (a.1 + p.1) (a.2 + p.2) 2).2.2, 0⟩ a X hnr nb)
  | [a, p, c], h1, h6, hN, hg, hnr =>
   have h1' : m = 3 := h1.symm
   subst h1'
   have na := hN a (by simp)
   exact thr3P_core br rc a.1 a.2 (ctr a p c).1 (ctr a p c).2.1 (ctr a p c).2.2 (aptS (ctr a p c) a) w (hide (cells_of h6 rfl)) (hide (cells_of h6 rfl))
    (hide fun X hX => cenP_any br a p c X na (hN p (by simp)) (hN c (by simp)) hg (cells_of (h6.below hX h5) rfl) (cells_of (h6.below hX h5) rfl) (cells_of (h6.below hX h5) rfl) (cells_of (h6.below hX h5) rfl) (cells_of (h6.below hX h5) rfl) (cells_of (h6.below hX h5) rfl))
    (hide fun X => apart_any ⟨(ctr a p c).1, (ctr a p c).2.1, (ctr a p c).2.2, 0⟩ a X hnr na)
  | a :: p :: c :: d :: T, h1, _, _, _, _ => simp at h1; omega
def z4 : List Value := [.int .i64 0, .int .i64 0, .int .i64 0, .int .i64 0]
def icL (c : Ic) : List Value := [.int .i64 c.X, .int .i64 c.Y, .int .i64 c.D, .int .i64 c.N]
theorem But.cb {g g' t : Nat} {w w' : World} {vs : List Value} (h : But g w w') (hg : g' ≠ g) (k : cb w g' t vs) : cb w' g' t vs := (h.block g' hg).trans k
set_option maxHeartbeats 4000000 in
set_option maxRecDepth 100000 in
theorem smP_three (b cap n rc br : Nat) (c : Ic) (w : World) (HT : Hid (∀ X : World, Below w.heap.size w X → Calls Try.prog 65 #[.slice (some ⟨br, 0, none⟩) 3 rc] X fun e w' => e = .returned (icV c) ∧ Below X.heap.size X w')) :
  Calls Try.prog 40 #[.slice (some ⟨b, 0, none⟩) n cap, .slice (some ⟨br, 0, none⟩) 3 rc] w fun e w' => e = .returned (icV c) ∧ Below w.heap.size w w' := by
 have K0 : Hid (Below w.heap.size w (w.alloc (.cells #[.int .i64 0, .int .i64 0, .int .i64 0, .int .i64 0] 72))) := hide (ba (Below.refl _ _) _)
 have R4 : Hid (cb (w.alloc (.cells #[.int .i64 0, .int .i64 0, .int .i64 0, .int .i64 0] 72)) w.heap.size 72 z4) := hide (cb_new w 72 z4 _ rfl)
 obtain ⟨X, Y, D, N⟩ := c
 go_enter Try.func40, Try.ntmps40
 go_wp2_with fail
 generalize w.alloc (.cells #[.int .i64 0, .int .i64 0, .int .i64 0, .int .i64 0] 72) = V0 at *
 refine (zu HT _ (zu K0)).mono ?_
 rintro e V1 ⟨rfl, hB1⟩
 unfold icV
 simp only
 have hA : Below V1.heap.size V1 (V1.alloc (.cells #[.int .i64 X, .int .i64 Y, .int .i64 D, .int .i64 N] 72)) := ba (Below.refl _ _) _
 have K1 := hide (bc (zu K0) (bc hB1 hA))
 have R4a := hide ((zu R4).bel (bc hB1 hA))
 have R5 : Hid (cb (V1.alloc (.cells #[.int .i64 X, .int .i64 Y, .int .i64 D, .int .i64 N] 72)) V1.heap.size 72 [.int .i64 X, .int .i64 Y, .int .i64 D, .int .i64 N]) := hide (cb_new V1 72 _ _ rfl)
 clear hB1 hA K0 R4
 go_upto_region 2 with fail
 generalize V1.alloc (.cells #[.int .i64 X, .int .i64 Y, .int .i64 D, .int .i64 N] 72) = V2 at *
 generalize V1.heap.size = g5 at *
 have c0 := (zu R5).cell (m := 0) rfl
 have c1 := (zu R5).cell (m := 1) rfl
 have c2 := (zu R5).cell (m := 2) rfl
 have c3 := (zu R5).cell (m := 3) rfl
 have d0 := (zu R4a).cell (m := 0) rfl
 have d1 := (zu R4a).cell (m := 1) rfl
 have d2 := (zu R4a).cell (m := 2) rfl
 have d3 := (zu R4a).cell (m := 3) rfl
 have f4 := (zu R4a).frozen
 go_wp2_with fail
 have T := ((((zu R4a).set 0 (.int .i64 X)).set 1 (.int .i64 Y)).set 2 (.int .i64 D)).set 3 (.int .i64 N)
 have hBV : Below w.heap.size w ((((V2.setCell ⟨w.heap.size, 0, none⟩ (.int .i64 X)).setCell ⟨w.heap.size, 1, none⟩ (.int .i64 Y)).setCell ⟨w.heap.size, 2, none⟩ (.int .i64 D)).setCell ⟨w.heap.size, 3, none⟩ (.int .i64 N)) :=
  Below.setCell (Below.setCell (Below.setCell (Below.setCell (zu K1) (Nat.le_refl _) _) (Nat.le_refl _) _) (Nat.le_refl _) _) (Nat.le_refl _) _
 generalize ((((V2.setCell ⟨w.heap.size, 0, none⟩ (.int .i64 X)).setCell ⟨w.heap.size, 1, none⟩ (.int .i64 Y)).setCell ⟨w.heap.size, 2, none⟩ (.int .i64 D)).setCell ⟨w.heap.size, 3, none⟩ (.int .i64 N)) = V9 at *
 have s0 := T.cell (m := 0) rfl
 have s1 := T.cell (m := 1) rfl
 have s2 := T.cell (m := 2) rfl
 have s3 := T.cell (m := 3) rfl
 have ls := T.lt
 refine bodyPost_ret (v := .agg #[.int .i64 X, .int .i64 Y, .int .i64 D, .int .i64 N]) (by simp [results, Try.results40, go_sem, s0, s1, s2, s3, ls]) rfl ⟨rfl, hBV⟩
set_option maxHeartbeats 4000000 in
set_option maxRecDepth 100000 in
theorem smP_loop (b cap n m rc : Nat) (x : Option Addr) (P R : List Pt) (C : Nat → Ic) (w : World) (HL : Hid (P.length = n)) (hn : n ≤ 200) (hcap : n ≤ cap) (hm2 : m ≤ 2) (hb : b < w.heap.size) (HI : Hid (IntsAt w b 0 (flat2 P))) (HR : Hid (Rim w x m rc R)) (HN : Hid (Nrl P))
  (HC : Hid (∀ i, i ≤ n → NrS ((C i).X, (C i).Y, (C i).D)))
  (HT : Hid (∀ X : World, Below w.heap.size w X → Calls Try.prog 65 #[.slice x m rc] X fun e w' => e = .returned (icV (C 0)) ∧ Below X.heap.size X w'))
  (HF : Hid (∀ i X g, i < n → Below w.heap.size w X → (C i).N < apt (C i) (ptAt P i) → cb X g 97 ((((nxt R).set (m * 2) (.int .i64 (ptAt P i).1)).set (m * 2 + 1) (.int .i64 (ptAt P i).2))) → Calls Try.prog 40 #[.slice (some ⟨b, 0, none⟩) i cap, .slice (some ⟨g, 0, none⟩) (m + 1) 3] X fun e w' => e = .returned (icV (C (i + 1))) ∧ Below X.heap.size X w'))
  (HS : Hid (∀ i, i < n → ¬ (C i).N < apt (C i) (ptAt P i) → C (i + 1) = C i)) :
  Calls Try.prog 40 #[.slice (some ⟨b, 0, none⟩) n cap, .slice x m rc] w fun e w' => e = .returned (icV (C n)) ∧ Below w.heap.size w w' := by
 have K0 : Hid (Below w.heap.size w (w.alloc (.cells #[.int .i64 0, .int .i64 0, .int .i64 0, .int .i64 0] 72))) := hide (ba (Below.refl _ _) _)
 have R4 : Hid (cb (w.alloc (.cells #[.int .i64 0, .int .i64 0, .int .i64 0, .int .i64 0] 72)) w.heap.size 72 z4) := hide (cb_new w 72 z4 _ rfl)
 have m3 : decide ((m : Int) = 3) = false := decide_eq_false (by omega)
 have m3' : ¬ (m : Int) = 3 := by omega
 have mb : ((m : Int) == 3) = false := beq_eq_false_iff_ne.2 m3'
 obtain ⟨X0, hX0⟩ : ∃ q, C 0 = q := ⟨_, rfl⟩
 rw [hX0] at HT
 have HX0 := hide hX0
 obtain ⟨X, Y, D, N⟩ := X0
 clear hX0
 go_enter Try.func40, Try.ntmps40
 go_wp2_with fail
 generalize w.alloc (.cells #[.int .i64 0, .int .i64 0, .int .i64 0, .int .i64 0] 72) = V0 at *
 refine (zu HT _ (zu K0)).mono ?_
 rintro e V1 ⟨rfl, hB1⟩
 unfold icV
 simp only
 have hA : Below V1.heap.size V1 (V1.alloc (.cells #[.int .i64 X, .int .i64 Y, .int .i64 D, .int .i64 N] 72)) := ba (Below.refl _ _) _
 have K1 := hide (bc (zu K0) (bc hB1 hA))
 have R4a := hide ((zu R4).bel (bc hB1 hA))
 have R5 : Hid (cb (V1.alloc (.cells #[.int .i64 X, .int .i64 Y, .int .i64 D, .int .i64 N] 72)) V1.heap.size 72 (icL (C 0))) := hide (by rw [zu HX0]; exact cb_new V1 72 _ _ rfl)
 have hg5 : w.heap.size < V1.heap.size := Nat.lt_of_lt_of_le (zu R4).lt hB1.size
 clear hB1 hA K0 R4 HX0
 go_upto_region 2 with fail
 generalize V1.alloc (.cells #[.int .i64 X, .int .i64 Y, .int .i64 D, .int .i64 N] 72) = V2 at *
 generalize V1.heap.size = g5 at *
 go_wp2_with fail
 go_loopw [18] (fun z X => ∃ i : Nat, z = .int .i64 (i : Int) ∧ i ≤ n ∧ cb X g5 72 (icL (C i)) ∧ cb X w.heap.size 72 z4 ∧ Below w.heap.size w X) (fun z _ => n - (intOf z).toNat)
 case atStart => exact ⟨0, rfl, Nat.zero_le _, zu R5, zu R4a, zu K1⟩
 case round =>
  obtain ⟨i, rfl, hi, h5, h4, hw⟩ := hrel
  have H5 := hide h5
  have H4 := hide h4
  have HW := hide hw
  clear h5 h4 hw
  by_cases h : i < n
  ·have i1 : (i : Int) < (n : Int) := by omega
   have i0 : (0 : Int) ≤ (i : Int) := Int.natCast_nonneg _
   have iz : decide ((i : Int) < (n : Int)) = true := decide_eq_true i1
   have hx := ptAt_some (L := P) (i := i) (by rw [zu HL]; exact h)
   have hnr := (zu HN).at (i := i) (by rw [zu HL]; exact h)
   have HFi := hide (fun X g hX => zu HF i X g h hX)
   have HSi := hide (zu HS i h)
   have hci := zu HC i hi
   obtain ⟨⟨px, py⟩, hxy⟩ : ∃ q, ptAt P i = q := ⟨_, rfl⟩
   rw [hxy] at hx hnr HFi HSi
   obtain ⟨c0, c1⟩ := pts_at ((zu HI).below (zu HW) hb) hx
   have HAP := hide (fun Xw => apart_any (C i) (px, py) Xw hci hnr)
   obtain ⟨ap, hap⟩ : ∃ ap, apt (C i) (px, py) = ap := ⟨_, rfl⟩
   rw [hap] at HAP HFi HSi
   have KX : Hid (Below w.heap.size w (wr.alloc (.cells #[.int .i64 px, .int .i64 py] 30))) := hide (ba (zu HW) _)
   have X5 : Hid (cb (wr.alloc (.cells #[.int .i64 px, .int .i64 py] 30)) g5 72 (icL (C i))) := hide ((zu H5).bel (ba (Below.refl _ _) _))
   have X4 : Hid (cb (wr.alloc (.cells #[.int .i64 px, .int .i64 py] 30)) w.heap.size 72 z4) := hide ((zu H4).bel (ba (Below.refl _ _) _))
   have X7 : Hid (cb (wr.alloc (.cells #[.int .i64 px, .int .i64 py] 30)) wr.heap.size 30 [.int .i64 px, .int .i64 py]) := hide (cb_new wr 30 _ _ rfl)
   have h57 : g5 < wr.heap.size := (zu H5).lt
   clear hx hxy hnr hci hap H5 H4 HW
   go_wp2_with fail
   generalize wr.alloc (.cells #[.int .i64 px, .int .i64 py] 30) = Wx at *
   generalize wr.heap.size = g7 at *
   clear c0 c1
   refine Go.Code.wp_mono (Only.to (fun _ _ h => h)) (sm7 (X := (C i).X) (Y := (C i).Y) (D := (C i).D) (N := (C i).N) (x := px) (y := py) (r := ap) (hide ((zu X5).cell (m := 0) rfl)) (hide ((zu X5).cell (m := 1) rfl)) (hide ((zu X5).cell (m := 2) rfl)) (hide ((zu X5).cell (m := 3) rfl)) (hide ((zu X7).cell (m := 0) rfl)) (hide ((zu X7).cell (m := 1) rfl)) (hide fun Xw _ => zu HAP Xw) (fun Wy hBy => ?_))
   have KY := hide (bc (zu KX) hBy)
   have Y5 := hide ((zu X5).bel hBy)
   have Y4 := hide ((zu X4).bel hBy)
   have Y7 := hide ((zu X7).bel hBy)
   clear hBy KX X5 X4 X7 HAP
   by_cases hout : (C i).N < ap
   ·have do1 : decide ((C i).N < ap) = true := decide_eq_true hout
    have G8 : Hid (cb (Wy.alloc (.cells #[.int .i64 0, .int .i64 0, .int .i64 0, .int .i64 0, .int .i64 0, .int .i64 0] 97)) Wy.heap.size 97 six) := hide (cb_new Wy 97 six _ rfl)
    have hAl : Below Wy.heap.size Wy (Wy.alloc (.cells #[.int .i64 0, .int .i64 0, .int .i64 0, .int .i64 0, .int .i64 0, .int .i64 0] 97)) := ba (Below.refl _ _) _
    have hRy : Rim (Wy.alloc (.cells #[.int .i64 0, .int .i64 0, .int .i64 0, .int .i64 0, .int .i64 0, .int .i64 0] 97)) x m rc R := (zu HR).bel (bc (zu KY) hAl)
    obtain ⟨W', hcp, hnx, hbt⟩ := copy_rim hRy hm2 (zu G8)
    have hg85 : g5 < Wy.heap.size := (zu Y5).lt
    have hg84 : w.heap.size < Wy.heap.size := (zu Y4).lt
    have hg87 : g7 < Wy.heap.size := (zu Y7).lt
    have Z5 : Hid (cb W' g5 72 (icL (C i))) := hide (hbt.cb (by omega) ((zu Y5).bel hAl))
    have Z4 : Hid (cb W' w.heap.size 72 z4) := hide (hbt.cb (by omega) ((zu Y4).bel hAl))
    have Z7 := hbt.cb (g' := g7) (by omega) ((zu Y7).bel hAl)
    have KZ : Hid (Below w.heap.size w W') := hide ((ba (zu KY) _).trans (hbt.bel (by omega)))
    have q7 := Z7.cell (m := 0) rfl
    have q8 := Z7.cell (m := 1) rfl
    have hlN : (nxt R).length = 6 := by
     unfold nxt
     rw [List.length_append, List.length_map, flat2_len, List.length_drop, (zu HR).1]
     simp [six]
     omega
    obtain ⟨o0, ho0⟩ : ∃ v, (nxt R)[m * 2]? = some v := ⟨_, List.getElem?_eq_getElem (by omega)⟩
    obtain ⟨o1, ho1⟩ : ∃ v, (nxt R)[m * 2 + 1]? = some v := ⟨_, List.getElem?_eq_getElem (by omega)⟩
    have q9 := hnx.cell ho0
    have q10 := hnx.cell ho1
    have fz := hnx.frozen
    have lg := hnx.lt
    have mi : (m : Int) < 3 := by omega
    have HNX := hide hnx
    clear hAl hRy hbt Z7 hnx ho0 ho1 hlN G8 Y5 Y4 Y7 KY
    go_wp2_with fail
    have U8 := hide (((zu HNX).set (m * 2) (.int .i64 px)).set (m * 2 + 1) (.int .i64 py))
    have U5 := hide (((zu Z5).ne (g' := Wy.heap.size) (o := m * 2) (x := .int .i64 px) (by omega)).ne (g' := Wy.heap.size) (o := m * 2 + 1) (x := .int .i64 py) (by omega))
    have U4 := hide (((zu Z4).ne (g' := Wy.heap.size) (o := m * 2) (x := .int .i64 px) (by omega)).ne (g' := Wy.heap.size) (o := m * 2 + 1) (x := .int .i64 py) (by omega))
    have KU : Hid (Below w.heap.size w ((W'.setCell ⟨Wy.heap.size, m * 2, none⟩ (.int .i64 px)).setCell ⟨Wy.heap.size, m * 2 + 1, none⟩ (.int .i64 py))) := hide (Below.setCell (Below.setCell (zu KZ) (Nat.le_of_lt hg84) _) (Nat.le_of_lt hg84) _)
    clear q7 q8 q9 q10 fz lg HNX Z5 Z4 KZ hcp
    generalize (W'.setCell ⟨Wy.heap.size, m * 2, none⟩ (.int .i64 px)).setCell ⟨Wy.heap.size, m * 2 + 1, none⟩ (.int .i64 py) = Wu at *
    generalize Wy.heap.size = g8 at *
    have hw1 : IntKind.i64.wrap ((m : Int) + 1) = ((m + 1 : Nat) : Int) := (wr64 (by omega) (by omega)).trans (by omega)
    have l5 := (zu U5).lt
    obtain ⟨c2, hc2⟩ : ∃ c2, C (i + 1) = c2 := ⟨_, rfl⟩
    rw [hc2] at HFi
    have HC2 := hide hc2
    obtain ⟨X2, Y2, D2, N2⟩ := c2
    refine Go.Code.wp_mono (Only.to (fun _ _ h => h)) (sm11 (m1 := m + 1) (X := X2) (Y := Y2) (D := D2) (N := N2) (by omega) (by omega) l5 (hide ((zu U5).cell (m := 0) rfl)) (hide ((zu U5).cell (m := 1) rfl)) (hide ((zu U5).cell (m := 2) rfl)) (hide ((zu U5).cell (m := 3) rfl)) (hide (zu U5).frozen) (hide hw1) (hide fun Xw hX => zu HFi Xw g8 (bc (zu KU) hX) hout ((zu U8).bel hX)) (fun W1 W9 hW9 hB9 => ?_))
    have Q5 : Hid (cb W9 g5 72 (icL (C (i + 1)))) := hide (by rw [hW9, zu HC2]; exact (((((zu U5).bel hB9).set 0 (.int .i64 X2)).set 1 (.int .i64 Y2)).set 2 (.int .i64 D2)).set 3 (.int .i64 N2))
    have Q4 : Hid (cb W9 w.heap.size 72 z4) := hide (by rw [hW9]; exact (((((zu U4).bel hB9).ne (by omega)).ne (by omega)).ne (by omega)).ne (by omega))
    have KQ : Hid (Below w.heap.size w W9) := hide (by rw [hW9]; exact Below.setCell (Below.setCell (Below.setCell (Below.setCell (bc (zu KU) hB9) (Nat.le_of_lt hg5) _) (Nat.le_of_lt hg5) _) (Nat.le_of_lt hg5) _) (Nat.le_of_lt hg5) _)
    clear hW9 hB9 hc2
    try go_wp2_with fail
    go_roundw
    case rel => exact ⟨i + 1, by simp, h, zu Q5, zu Q4, zu KQ⟩
    case measure => simp only [intOf]; omega
   ·have do1 : decide ((C i).N < ap) = false := decide_eq_false hout
    go_wp2_with fail
    go_roundw
    case rel => exact ⟨i + 1, by simp, h, by rw [zu HSi (by omega)]; exact zu Y5, zu Y4, zu KY⟩
    case measure => simp only [intOf]; omega
  ·obtain rfl : n = i := by omega
   have i1 : ¬ (n : Int) < (n : Int) := by omega
   have iz : decide ((n : Int) < (n : Int)) = false := decide_eq_false i1
   obtain ⟨cn, hcn⟩ : ∃ cn, C n = cn := ⟨_, rfl⟩
   rw [hcn] at H5
   have HCN := hide hcn
   obtain ⟨X2, Y2, D2, N2⟩ := cn
   have c0 := (zu H5).cell (m := 0) rfl
   have c1 := (zu H5).cell (m := 1) rfl
   have c2 := (zu H5).cell (m := 2) rfl
   have c3 := (zu H5).cell (m := 3) rfl
   have d0 := (zu H4).cell (m := 0) rfl
   have d1 := (zu H4).cell (m := 1) rfl
   have d2 := (zu H4).cell (m := 2) rfl
   have d3 := (zu H4).cell (m := 3) rfl
   have f4 := (zu H4).frozen
   simp only at c0 c1 c2 c3
   clear hcn
   go_wp2_with fail
   have T := ((((zu H4).set 0 (.int .i64 X2)).set 1 (.int .i64 Y2)).set 2 (.int .i64 D2)).set 3 (.int .i64 N2)
   have hBV : Below w.heap.size w ((((wr.setCell ⟨w.heap.size, 0, none⟩ (.int .i64 X2)).setCell ⟨w.heap.size, 1, none⟩ (.int .i64 Y2)).setCell ⟨w.heap.size, 2, none⟩ (.int .i64 D2)).setCell ⟨w.heap.size, 3, none⟩ (.int .i64 N2)) :=
    Below.setCell (Below.setCell (Below.setCell (Below.setCell (zu HW) (Nat.le_refl _) _) (Nat.le_refl _) _) (Nat.le_refl _) _) (Nat.le_refl _) _
   generalize ((((wr.setCell ⟨w.heap.size, 0, none⟩ (.int .i64 X2)).setCell ⟨w.heap.size, 1, none⟩ (.int .i64 Y2)).setCell ⟨w.heap.size, 2, none⟩ (.int .i64 D2)).setCell ⟨w.heap.size, 3, none⟩ (.int .i64 N2)) = V9 at *
   have s0 := T.cell (m := 0) rfl
   have s1 := T.cell (m := 1) rfl
   have s2 := T.cell (m := 2) rfl
   have s3 := T.cell (m := 3) rfl
   have ls := T.lt
   refine bodyPost_ret (v := .agg #[.int .i64 X2, .int .i64 Y2, .int .i64 D2, .int .i64 N2]) (by simp [results, Try.results40, go_sem, s0, s1, s2, s3, ls]) rfl ⟨by rw [zu HCN]; rfl, hBV⟩
theorem flat2_snoc (R : List Pt) (p : Pt) : flat2 (R ++ [p]) = flat2 R ++ [p.1, p.2] := by simp [flat2]
theorem nxt_ints {w : World} {g m : Nat} {R : List Pt} {p : Pt} (hm : R.length = m) (hm2 : m ≤ 2) (h : cb w g 97 (((nxt R).set (m * 2) (.int .i64 p.1)).set (m * 2 + 1) (.int .i64 p.2))) : IntsAt w g 0 (flat2 (R ++ [p])) := by
 intro j x hj
 rw [Nat.zero_add]
 refine h.cell ?_
 rw [flat2_snoc] at hj
 have hl : (flat2 R).length = m * 2 := by rw [flat2_len, hm]
 have hN : (nxt R).length = 6 := by
  unfold nxt
  rw [List.length_append, List.length_map, hl, List.length_drop, hm]
  simp [six]
  omega
 rcases Nat.lt_or_ge j (m * 2) with hlt | hge
 ·rw [List.getElem?_set_ne (by omega), List.getElem?_set_ne (by omega)]
  rw [List.getElem?_append_left (by omega)] at hj
  unfold nxt
  rw [List.getElem?_append_left (by rw [List.length_map, hl]; exact hlt), List.getElem?_map, hj]
  rfl
 ·rw [List.getElem?_append_right (by omega), hl] at hj
  rcases Nat.lt_or_ge (j - m * 2) 1 with h1 | h1
  ·have e0 : j = m * 2 := by omega
   subst e0
   simp only [Nat.sub_self] at hj
   rw [List.getElem?_set_ne (by omega), List.getElem?_set_self (by omega)]
   simp at hj
   rw [hj]
  ·rcases Nat.lt_or_ge (j - m * 2) 2 with h2 | h2
   ·have e0 : j = m * 2 + 1 := by omega
    subst e0
    have : m * 2 + 1 - m * 2 = 1 := by omega
    rw [this] at hj
    rw [List.getElem?_set_self (by rw [List.length_set]; omega)]
    simp at hj
    rw [hj]
   ·rw [List.getElem?_eq_none (by simp; omega)] at hj
    cases hj
theorem smP_any : ∀ (k : Nat) (b cap n m rc : Nat) (x : Option Addr) (P R : List Pt) (w : World), m + k = 3 → P.length = n → n ≤ 200 → n ≤ cap → b < w.heap.size → IntsAt w b 0 (flat2 P) → Rim w x m rc R → Nrl P → Nrl R → Gd R → (∃ c, Fea P R c) →
  Calls Try.prog 40 #[.slice (some ⟨b, 0, none⟩) n cap, .slice x m rc] w fun e w' => e = .returned (icV (smc k P R)) ∧ Below w.heap.size w w' := by
 intro k
 induction k with
 | zero =>
  intro b cap n m rc x P R w hk hl hn hcap hb hI hR hP hRn hg hF
  have hm : m = 3 := by omega
  subst hm
  have HT := hide (fun (X : World) (hX : Below w.heap.size w X) => thrP_any x 3 rc R X (hR.bel hX) (Nat.le_refl _) hRn hg)
  obtain ⟨h1, ⟨_, h0, _⟩ | ⟨br, rfl, h4, h5, h6⟩⟩ := hR
  ·cases h0
  ·exact smP_three b cap n rc br (thr R) w HT
 | succ k ih =>
  intro b cap n m rc x P R w hk hl hn hcap hb hI hR hP hRn hg hF
  have hlR : R.length + (k + 1) = 3 := by rw [hR.1]; omega
  have key := smP_loop b cap n m rc x P R (smcI (smc k) P R) w (hide hl) hn hcap (by omega) hb (hide hI) (hide hR) (hide hP)
   (hide fun i hi => (smc_nr (k + 1) P R hlR hg hF hP hRn).2 k rfl i (by omega))
   (hide fun X hX => thrP_any x m rc R X (hR.bel hX) (by omega) hRn hg)
   (hide fun i X g hi hX hout hcb => by
    obtain ⟨g1, f1⟩ := smc_next k P R hlR hg hF i (by omega) hout
    have e : smcI (smc k) P R (i + 1) = smc k (P.take i) (R ++ [ptAt P i]) := by
     show (if _ then _ else _) = _
     rw [if_pos hout]
    rw [e]
    have hlt : (P.take i).length = i := by rw [List.length_take, Nat.min_eq_left (by omega)]
    refine ih b cap i (m + 1) 3 (some ⟨g, 0, none⟩) (P.take i) (R ++ [ptAt P i]) X (by omega) hlt (by omega) (by omega) (Nat.lt_of_lt_of_le hb hX.size) ?_ ⟨by rw [List.length_append, hR.1]; rfl, .inr ⟨g, rfl, by omega, hcb.lt, nxt_ints hR.1 (by omega) hcb⟩⟩ (hP.take i) (hRn.snoc (hP.at (by omega))) g1 f1
    have hIX := hI.below hX hb
    intro j q hj
    refine hIX j q ?_
    have ef : flat2 P = flat2 (P.take i) ++ flat2 (P.drop i) := by rw [← flat2_app, List.take_append_drop]
    rw [ef, List.getElem?_append_left (List.getElem?_eq_some_iff.1 hj).1]
    exact hj)
   (hide fun i hi hout => by
    show (if _ then _ else _) = _
    rw [if_neg hout])
  rw [show smc (k + 1) P R = smcI (smc k) P R n by rw [← hl]; rfl]
  exact key
end Go.Proofs.Ytdcecfgmfmpeeaa
