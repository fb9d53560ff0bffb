/-
  FnFracs answers true at every two codes: the program's sums, products, order and texts of drawn fractions keep the laws of fractions.
-/
import Derived.Test.YtidafleegkofkaaDoorValues
import Derived.Deep.DeepCutAuto
namespace Go.Proofs.YtidafleegkofkaaDoor
open Go.ChangeShapes Go.WideShapes Go.ChangeAt Go.RowKit
set_option linter.unusedVariables false
set_option linter.unusedSimpArgs false

theorem less_right (n0 d0 n1 d1 : Int) (h0 : frOk n0 d0 = true) (h1 : frOk n1 d1 = true) : lessAns n0 d0 n1 d1 = .tuple #[.bool (decide (n0 * d1 < n1 * d0)), .int .i64 0] := by
  unfold lessAns; rw [if_pos ⟨h0, h1⟩]
theorem add_comm_ans (n0 d0 n1 d1 : Int) (h0 : frOk n0 d0 = true) (h1 : frOk n1 d1 = true) : pairAns n1 d1 n0 d0 (n1 * d0 + n0 * d1) (d1 * d0) = pairAns n0 d0 n1 d1 (n0 * d1 + n1 * d0) (d0 * d1) := by
  unfold pairAns
  rw [if_pos ⟨h1, h0⟩, if_pos ⟨h0, h1⟩, Int.add_comm (n1 * d0) (n0 * d1), Int.mul_comm d1 d0]
theorem mul_comm_ans (n0 d0 n1 d1 : Int) (h0 : frOk n0 d0 = true) (h1 : frOk n1 d1 = true) : pairAns n1 d1 n0 d0 (n1 * n0) (d1 * d0) = pairAns n0 d0 n1 d1 (n0 * n1) (d0 * d1) := by
  unfold pairAns
  rw [if_pos ⟨h1, h0⟩, if_pos ⟨h0, h1⟩, Int.mul_comm n1 n0, Int.mul_comm d1 d0]

theorem tab_on {w W : World} (h : Tab w.heap.size w) (hb : Below w.heap.size w W) : Tab W.heap.size W := fun w' h' => h w' (hb.trans (h'.mono hb.size))

/-- how two right fractions stand: the order's two answers, and whether they are one -/
def Stands (n0 d0 n1 d1 : Int) (l m : Bool) : Prop :=
  (l = false ∧ m = false ∧ n0 = n1 ∧ d0 = d1) ∨ (l = true ∧ m = false ∧ (n0 == n1) = false) ∨ (l = true ∧ m = false ∧ n0 = n1 ∧ (d0 == d1) = false) ∨ (l = false ∧ m = true ∧ (n0 == n1) = false) ∨ (l = false ∧ m = true ∧ n0 = n1 ∧ (d0 == d1) = false)
theorem stands (n0 d0 n1 d1 : Int) (h0 : frOk n0 d0 = true) (h1 : frOk n1 d1 = true) : Stands n0 d0 n1 d1 (decide (n0 * d1 < n1 * d0)) (decide (n1 * d0 < n0 * d1)) := by
  unfold Stands
  by_cases a : n0 * d1 < n1 * d0
  · have b : ¬ n1 * d0 < n0 * d1 := by omega
    rw [decide_eq_true a, decide_eq_false b]
    by_cases e : n0 = n1
    · by_cases f : d0 = d1
      · exfalso; subst e f; omega
      · exact .inr (.inr (.inl ⟨rfl, rfl, e, by rw [beq_eq_false_iff_ne]; exact f⟩))
    · exact .inr (.inl ⟨rfl, rfl, by rw [beq_eq_false_iff_ne]; exact e⟩)
  · by_cases b : n1 * d0 < n0 * d1
    · rw [decide_eq_false a, decide_eq_true b]
      by_cases e : n0 = n1
      · by_cases f : d0 = d1
        · exfalso; subst e f; omega
        · exact .inr (.inr (.inr (.inr ⟨rfl, rfl, e, by rw [beq_eq_false_iff_ne]; exact f⟩)))
      · exact .inr (.inr (.inr (.inl ⟨rfl, rfl, by rw [beq_eq_false_iff_ne]; exact e⟩)))
    · rw [decide_eq_false a, decide_eq_false b]
      obtain ⟨e, f⟩ := right_eq n0 d0 n1 d1 h0 h1 (by omega)
      exact .inl ⟨rfl, rfl, e, f⟩

set_option maxRecDepth 100000 in
set_option maxHeartbeats 4000000 in
theorem fracs_walk (a a' : Option Addr) (len cap len' cap' : Nat) (zs : List Int) (w : World) (hc : Code w.heap.size w a len cap zs) (ht0 : Tab w.heap.size w) (hl : len ≤ 1048576) (hl' : len' ≤ 1048576) :
    Calls Tryd.prog 3 #[.slice a len cap, .slice a' len' cap'] w fun e w' => e = .returned (.bool true) ∧ Below w.heap.size w w' := by
  have HT := hide ht0
  have HF := hide (fracs_any a len cap zs w hc (by omega))
  clear hc ht0
  have g1 : decide ((1048576 : Int) < (len : Int)) = false := decide_eq_false (by omega)
  have g2 : decide ((1048576 : Int) < (len' : Int)) = false := decide_eq_false (by omega)
  go_enter Tryd.func3, Tryd.ntmps3
  go_wp2_with fail
  refine (unhide HF).mono ?_
  rintro e v1 ⟨n0, d0, n1, d1, n2, d2, rfl, o0, o1, o2, hb⟩
  have B1 : Hid (Below w.heap.size w v1) := hide hb
  obtain ⟨⟨a1, a2⟩, a3, a4⟩ := ok_bd o0
  obtain ⟨⟨b1, b2⟩, b3, b4⟩ := ok_bd o1
  obtain ⟨⟨c1, c2⟩, c3, c4⟩ := ok_bd o2
  obtain ⟨xn, xd, E, eX, ⟨x1, x2⟩, ⟨x3, x4⟩, fX⟩ := pair_full n0 d0 n1 d1 (n0 * d1 + n1 * d0) (d0 * d1)
  obtain ⟨yn, yd, G, eY, ⟨y1, y2⟩, ⟨y3, y4⟩, fY⟩ := pair_full n0 d0 n1 d1 (n0 * n1) (d0 * d1)
  obtain ⟨pn, pd, C2, eP, ⟨p1, p2⟩, ⟨p3, p4⟩, fP⟩ := pair_full xn xd n2 d2 (xn * n2) (xd * d2)
  obtain ⟨mn, md, C3, eM, ⟨m1, m2⟩, ⟨m3, m4⟩, fM⟩ := pair_full n0 d0 n2 d2 (n0 * n2) (d0 * d2)
  obtain ⟨kn, kd, C4, eK, ⟨k1, k2⟩, ⟨k3, k4⟩, fK⟩ := pair_full n1 d1 n2 d2 (n1 * n2) (d1 * d2)
  obtain ⟨qn, qd, C5, eQ, ⟨q1, q2⟩, ⟨q3, q4⟩, fQ⟩ := pair_full mn md kn kd (mn * kd + kn * md) (md * kd)
  have I1 : Hid (∀ W, Calls Tryd.prog 5 #[.agg #[.int .i64 n0, .int .i64 d0], .agg #[.int .i64 n1, .int .i64 d1]] W fun e w' => e = .returned (.tuple #[.agg #[.int .i64 xn, .int .i64 xd], .int .i64 E]) ∧ Below W.heap.size W w') := hide (fun W => by rw [← eX]; exact implAdd_any n0 d0 n1 d1 W (by omega) (by omega) (by omega) (by omega) (by omega) (by omega) (by omega) (by omega))
  have S1 : Hid (∀ W, Calls Tryd.prog 6 #[.agg #[.int .i64 n0, .int .i64 d0], .agg #[.int .i64 n1, .int .i64 d1]] W fun e w' => e = .returned (.tuple #[.agg #[.int .i64 xn, .int .i64 xd], .int .i64 E]) ∧ Below W.heap.size W w') := hide (fun W => by rw [← eX]; exact specAdd_any n0 d0 n1 d1 W (by omega) (by omega) (by omega) (by omega) (by omega) (by omega) (by omega) (by omega))
  have I2 : Hid (∀ W, Calls Tryd.prog 7 #[.agg #[.int .i64 n0, .int .i64 d0], .agg #[.int .i64 n1, .int .i64 d1]] W fun e w' => e = .returned (.tuple #[.agg #[.int .i64 yn, .int .i64 yd], .int .i64 G]) ∧ Below W.heap.size W w') := hide (fun W => by rw [← eY]; exact implMul_any n0 d0 n1 d1 W (by omega) (by omega) (by omega) (by omega) (by omega) (by omega) (by omega) (by omega))
  have S2 : Hid (∀ W, Calls Tryd.prog 8 #[.agg #[.int .i64 n0, .int .i64 d0], .agg #[.int .i64 n1, .int .i64 d1]] W fun e w' => e = .returned (.tuple #[.agg #[.int .i64 yn, .int .i64 yd], .int .i64 G]) ∧ Below W.heap.size W w') := hide (fun W => by rw [← eY]; exact specMul_any n0 d0 n1 d1 W (by omega) (by omega) (by omega) (by omega) (by omega) (by omega) (by omega) (by omega))
  have I3 : Hid (∀ W, Calls Tryd.prog 5 #[.agg #[.int .i64 n1, .int .i64 d1], .agg #[.int .i64 n0, .int .i64 d0]] W fun e w' => e = .returned (.tuple #[.agg #[.int .i64 xn, .int .i64 xd], .int .i64 E]) ∧ Below W.heap.size W w') := hide (fun W => by rw [← eX, ← add_comm_ans n0 d0 n1 d1 o0 o1]; exact implAdd_any n1 d1 n0 d0 W (by omega) (by omega) (by omega) (by omega) (by omega) (by omega) (by omega) (by omega))
  have I4 : Hid (∀ W, Calls Tryd.prog 7 #[.agg #[.int .i64 n1, .int .i64 d1], .agg #[.int .i64 n0, .int .i64 d0]] W fun e w' => e = .returned (.tuple #[.agg #[.int .i64 yn, .int .i64 yd], .int .i64 G]) ∧ Below W.heap.size W w') := hide (fun W => by rw [← eY, ← mul_comm_ans n0 d0 n1 d1 o0 o1]; exact implMul_any n1 d1 n0 d0 W (by omega) (by omega) (by omega) (by omega) (by omega) (by omega) (by omega) (by omega))
  have X1 : Hid (∀ W, Below w.heap.size w W → Calls Tryd.prog 9 #[.agg #[.int .i64 n0, .int .i64 d0]] W fun e w' => e = .returned (.tuple #[.string (txt n0 d0), .int .i64 0]) ∧ Below W.heap.size W w') := hide (fun W hbW => by
    have := implText_any n0 d0 W (by omega) (by omega) (by omega) (by omega) HT (hide hbW) hbW.size
    unfold txAns at this
    rw [if_pos o0] at this
    exact this)
  have X2 : Hid (∀ W, Below w.heap.size w W → Calls Tryd.prog 10 #[.string (txt n0 d0)] W fun e w' => e = .returned (.tuple #[.agg #[.int .i64 n0, .int .i64 d0], .int .i64 0]) ∧ Below W.heap.size W w') := hide (fun W hbW => read_right n0 d0 W o0 (tab_on (unhide HT) hbW))
  have L1 : Hid (∀ W, Calls Tryd.prog 11 #[.agg #[.int .i64 n0, .int .i64 d0], .agg #[.int .i64 n1, .int .i64 d1]] W fun e w' => e = .returned (.tuple #[.bool (decide (n0 * d1 < n1 * d0)), .int .i64 0]) ∧ Below W.heap.size W w') := hide (fun W => by rw [← less_right n0 d0 n1 d1 o0 o1]; exact implLess_any n0 d0 n1 d1 W (by omega) (by omega) (by omega) (by omega) (by omega) (by omega) (by omega) (by omega))
  have L2 : Hid (∀ W, Calls Tryd.prog 11 #[.agg #[.int .i64 n1, .int .i64 d1], .agg #[.int .i64 n0, .int .i64 d0]] W fun e w' => e = .returned (.tuple #[.bool (decide (n1 * d0 < n0 * d1)), .int .i64 0]) ∧ Below W.heap.size W w') := hide (fun W => by rw [← less_right n1 d1 n0 d0 o1 o0]; exact implLess_any n1 d1 n0 d0 W (by omega) (by omega) (by omega) (by omega) (by omega) (by omega) (by omega) (by omega))
  have S3 : Hid (∀ W, Calls Tryd.prog 8 #[.agg #[.int .i64 xn, .int .i64 xd], .agg #[.int .i64 n2, .int .i64 d2]] W fun e w' => e = .returned (.tuple #[.agg #[.int .i64 pn, .int .i64 pd], .int .i64 C2]) ∧ Below W.heap.size W w') := hide (fun W => by rw [← eP]; exact specMul_any xn xd n2 d2 W (by omega) (by omega) (by omega) (by omega) (by omega) (by omega) (by omega) (by omega))
  have S4 : Hid (∀ W, Calls Tryd.prog 8 #[.agg #[.int .i64 n0, .int .i64 d0], .agg #[.int .i64 n2, .int .i64 d2]] W fun e w' => e = .returned (.tuple #[.agg #[.int .i64 mn, .int .i64 md], .int .i64 C3]) ∧ Below W.heap.size W w') := hide (fun W => by rw [← eM]; exact specMul_any n0 d0 n2 d2 W (by omega) (by omega) (by omega) (by omega) (by omega) (by omega) (by omega) (by omega))
  have S5 : Hid (∀ W, Calls Tryd.prog 8 #[.agg #[.int .i64 n1, .int .i64 d1], .agg #[.int .i64 n2, .int .i64 d2]] W fun e w' => e = .returned (.tuple #[.agg #[.int .i64 kn, .int .i64 kd], .int .i64 C4]) ∧ Below W.heap.size W w') := hide (fun W => by rw [← eK]; exact specMul_any n1 d1 n2 d2 W (by omega) (by omega) (by omega) (by omega) (by omega) (by omega) (by omega) (by omega))
  have S6 : Hid (∀ W, Calls Tryd.prog 6 #[.agg #[.int .i64 mn, .int .i64 md], .agg #[.int .i64 kn, .int .i64 kd]] W fun e w' => e = .returned (.tuple #[.agg #[.int .i64 qn, .int .i64 qd], .int .i64 C5]) ∧ Below W.heap.size W w') := hide (fun W => by rw [← eQ]; exact specAdd_any mn md kn kd W (by omega) (by omega) (by omega) (by omega) (by omega) (by omega) (by omega) (by omega))
  have J1 : Hid (∀ W, Calls Tryd.prog 7 #[.agg #[.int .i64 xn, .int .i64 xd], .agg #[.int .i64 n2, .int .i64 d2]] W fun e w' => e = .returned (.tuple #[.agg #[.int .i64 pn, .int .i64 pd], .int .i64 C2]) ∧ Below W.heap.size W w') := hide (fun W => by rw [← eP]; exact implMul_any xn xd n2 d2 W (by omega) (by omega) (by omega) (by omega) (by omega) (by omega) (by omega) (by omega))
  have J2 : Hid (∀ W, Calls Tryd.prog 7 #[.agg #[.int .i64 n0, .int .i64 d0], .agg #[.int .i64 n2, .int .i64 d2]] W fun e w' => e = .returned (.tuple #[.agg #[.int .i64 mn, .int .i64 md], .int .i64 C3]) ∧ Below W.heap.size W w') := hide (fun W => by rw [← eM]; exact implMul_any n0 d0 n2 d2 W (by omega) (by omega) (by omega) (by omega) (by omega) (by omega) (by omega) (by omega))
  have J3 : Hid (∀ W, Calls Tryd.prog 7 #[.agg #[.int .i64 n1, .int .i64 d1], .agg #[.int .i64 n2, .int .i64 d2]] W fun e w' => e = .returned (.tuple #[.agg #[.int .i64 kn, .int .i64 kd], .int .i64 C4]) ∧ Below W.heap.size W w') := hide (fun W => by rw [← eK]; exact implMul_any n1 d1 n2 d2 W (by omega) (by omega) (by omega) (by omega) (by omega) (by omega) (by omega) (by omega))
  have J4 : Hid (∀ W, Calls Tryd.prog 5 #[.agg #[.int .i64 mn, .int .i64 md], .agg #[.int .i64 kn, .int .i64 kd]] W fun e w' => e = .returned (.tuple #[.agg #[.int .i64 qn, .int .i64 qd], .int .i64 C5]) ∧ Below W.heap.size W w') := hide (fun W => by rw [← eQ]; exact implAdd_any mn md kn kd W (by omega) (by omega) (by omega) (by omega) (by omega) (by omega) (by omega) (by omega))
  have HS := hide (stands n0 d0 n1 d1 o0 o1)
  have HE : Hid (E = 0 → C2 = 0 → C3 = 0 → C4 = 0 → C5 = 0 → pn = qn ∧ pd = qd) := hide (fun e1 e2 e3 e4 e5 => by
    obtain ⟨_, _, hx, ox⟩ := fX e1
    obtain ⟨_, _, hp, op⟩ := fP e2
    obtain ⟨_, _, hm, om⟩ := fM e3
    obtain ⟨_, _, hk, ok⟩ := fK e4
    obtain ⟨_, _, hq, oq⟩ := fQ e5
    obtain ⟨_, bx, _⟩ := ok_bd ox
    obtain ⟨_, bm, _⟩ := ok_bd om
    obtain ⟨_, bk, _⟩ := ok_bd ok
    have pos : ∀ u v : Int, 1 ≤ u → 1 ≤ v → 0 < u * v := fun u v hu hv => Int.mul_pos (by omega) (by omega)
    exact dist_right n0 d0 n1 d1 n2 d2 xn xd pn pd mn md kn kd qn qd o0 o1 o2 ox op om ok oq (hx (pos _ _ a3 b3)) (hp (pos _ _ bx c3)) (hm (pos _ _ a3 c3)) (hk (pos _ _ b3 c3)) (hq (pos _ _ bm bk)))
  generalize decide (n0 * d1 < n1 * d0) = l at *
  generalize decide (n1 * d0 < n0 * d1) = m at *
  generalize txt n0 d0 = T at *
  clear hb eX eY eP eM eK eQ fX fY fP fM fK fQ o0 o1 o2 HF HT a1 a2 a3 a4 b1 b2 b3 b4 c1 c2 c3 c4 x1 x2 x3 x4 y1 y2 y3 y4 p1 p2 p3 p4 m1 m2 m3 m4 k1 k2 k3 k4 q1 q2 q3 q4
  go_wp2_with fail
  refine (unhide I1 _).mono ?_
  rintro e v2 ⟨rfl, hb⟩
  have ca0 := keep1 hb (b := v1.heap.size) (o := 0) (v := .int .i64 n0) (by simp [go_sem])
  have ca1 := keep1 hb (b := v1.heap.size) (o := 1) (v := .int .i64 d0) (by simp [go_sem])
  have cb0 := keep1 hb (b := v1.heap.size + 1) (o := 0) (v := .int .i64 n1) (by simp [go_sem])
  have cb1 := keep1 hb (b := v1.heap.size + 1) (o := 1) (v := .int .i64 d1) (by simp [go_sem])
  have cc0 := keep1 hb (b := v1.heap.size + 1 + 1) (o := 0) (v := .int .i64 n2) (by simp [go_sem])
  have cc1 := keep1 hb (b := v1.heap.size + 1 + 1) (o := 1) (v := .int .i64 d2) (by simp [go_sem])
  have la := cell_lt ca0
  have lb := cell_lt cb0
  have lc := cell_lt cc0
  have B2 : Hid (Below w.heap.size w v2) := hide (bel_call (bel_alloc (bel_alloc (bel_alloc (unhide B1) _) _) _) hb)
  clear hb B1
  go_wp2_with fail
  refine (unhide S1 _).mono ?_
  rintro e v3 ⟨rfl, hb⟩
  have ea0 := keep1 hb (ka ca0)
  have ea1 := keep1 hb (ka ca1)
  have eb0 := keep1 hb (ka cb0)
  have eb1 := keep1 hb (ka cb1)
  have ec0 := keep1 hb (ka cc0)
  have ec1 := keep1 hb (ka cc1)
  have ex0 := keep1 hb (two_at v2 _ _ 24).c0
  have ex1 := keep1 hb (two_at v2 _ _ 24).c1
  have B3 : Hid (Below w.heap.size w v3) := hide (bel_call (bel_alloc (unhide B2) _) hb)
  clear hb B2 ca0 ca1 la cb0 cb1 lb cc0 cc1 lc
  have ca0 := ea0
  have ca1 := ea1
  have la := cell_lt ca0
  clear ea0 ea1
  have cb0 := eb0
  have cb1 := eb1
  have lb := cell_lt cb0
  clear eb0 eb1
  have cc0 := ec0
  have cc1 := ec1
  have lc := cell_lt cc0
  clear ec0 ec1
  have cx0 := ex0
  have cx1 := ex1
  have lx := cell_lt cx0
  clear ex0 ex1
  go_wp2_with fail
  refine (unhide I2 _).mono ?_
  rintro e v4 ⟨rfl, hb⟩
  have ea0 := keep1 hb (ka ca0)
  have ea1 := keep1 hb (ka ca1)
  have eb0 := keep1 hb (ka cb0)
  have eb1 := keep1 hb (ka cb1)
  have ec0 := keep1 hb (ka cc0)
  have ec1 := keep1 hb (ka cc1)
  have ex0 := keep1 hb (ka cx0)
  have ex1 := keep1 hb (ka cx1)
  have es0 := keep1 hb (two_at v3 _ _ 24).c0
  have es1 := keep1 hb (two_at v3 _ _ 24).c1
  have B4 : Hid (Below w.heap.size w v4) := hide (bel_call (bel_alloc (unhide B3) _) hb)
  clear hb B3 ca0 ca1 la cb0 cb1 lb cc0 cc1 lc cx0 cx1 lx
  have ca0 := ea0
  have ca1 := ea1
  have la := cell_lt ca0
  clear ea0 ea1
  have cb0 := eb0
  have cb1 := eb1
  have lb := cell_lt cb0
  clear eb0 eb1
  have cc0 := ec0
  have cc1 := ec1
  have lc := cell_lt cc0
  clear ec0 ec1
  have cx0 := ex0
  have cx1 := ex1
  have lx := cell_lt cx0
  clear ex0 ex1
  have cs0 := es0
  have cs1 := es1
  have ls := cell_lt cs0
  clear es0 es1
  go_wp2_with fail
  refine (unhide S2 _).mono ?_
  rintro e v5 ⟨rfl, hb⟩
  have ea0 := keep1 hb (ka ca0)
  have ea1 := keep1 hb (ka ca1)
  have eb0 := keep1 hb (ka cb0)
  have eb1 := keep1 hb (ka cb1)
  have ec0 := keep1 hb (ka cc0)
  have ec1 := keep1 hb (ka cc1)
  have ex0 := keep1 hb (ka cx0)
  have ex1 := keep1 hb (ka cx1)
  have es0 := keep1 hb (ka cs0)
  have es1 := keep1 hb (ka cs1)
  have ey0 := keep1 hb (two_at v4 _ _ 24).c0
  have ey1 := keep1 hb (two_at v4 _ _ 24).c1
  have B5 : Hid (Below w.heap.size w v5) := hide (bel_call (bel_alloc (unhide B4) _) hb)
  clear hb B4 ca0 ca1 la cb0 cb1 lb cc0 cc1 lc cx0 cx1 lx cs0 cs1 ls
  have ca0 := ea0
  have ca1 := ea1
  have la := cell_lt ca0
  clear ea0 ea1
  have cb0 := eb0
  have cb1 := eb1
  have lb := cell_lt cb0
  clear eb0 eb1
  have cc0 := ec0
  have cc1 := ec1
  have lc := cell_lt cc0
  clear ec0 ec1
  have cx0 := ex0
  have cx1 := ex1
  have lx := cell_lt cx0
  clear ex0 ex1
  have cs0 := es0
  have cs1 := es1
  have ls := cell_lt cs0
  clear es0 es1
  have cy0 := ey0
  have cy1 := ey1
  have ly := cell_lt cy0
  clear ey0 ey1
  go_wp2_with fail
  refine (unhide I3 _).mono ?_
  rintro e v6 ⟨rfl, hb⟩
  have ea0 := keep1 hb (ka ca0)
  have ea1 := keep1 hb (ka ca1)
  have eb0 := keep1 hb (ka cb0)
  have eb1 := keep1 hb (ka cb1)
  have ec0 := keep1 hb (ka cc0)
  have ec1 := keep1 hb (ka cc1)
  have ex0 := keep1 hb (ka cx0)
  have ex1 := keep1 hb (ka cx1)
  have es0 := keep1 hb (ka cs0)
  have es1 := keep1 hb (ka cs1)
  have ey0 := keep1 hb (ka cy0)
  have ey1 := keep1 hb (ka cy1)
  have et0 := keep1 hb (two_at v5 _ _ 24).c0
  have et1 := keep1 hb (two_at v5 _ _ 24).c1
  have B6 : Hid (Below w.heap.size w v6) := hide (bel_call (bel_alloc (unhide B5) _) hb)
  clear hb B5 ca0 ca1 la cb0 cb1 lb cc0 cc1 lc cx0 cx1 lx cs0 cs1 ls cy0 cy1 ly
  clear es0 es1
  clear et0 et1
  have ca0 := ea0
  have ca1 := ea1
  have la := cell_lt ca0
  clear ea0 ea1
  have cb0 := eb0
  have cb1 := eb1
  have lb := cell_lt cb0
  clear eb0 eb1
  have cc0 := ec0
  have cc1 := ec1
  have lc := cell_lt cc0
  clear ec0 ec1
  have cx0 := ex0
  have cx1 := ex1
  have lx := cell_lt cx0
  clear ex0 ex1
  have cy0 := ey0
  have cy1 := ey1
  have ly := cell_lt cy0
  clear ey0 ey1
  go_wp2_with fail
  refine (unhide I4 _).mono ?_
  rintro e v7 ⟨rfl, hb⟩
  have ea0 := keep1 hb (ka ca0)
  have ea1 := keep1 hb (ka ca1)
  have eb0 := keep1 hb (ka cb0)
  have eb1 := keep1 hb (ka cb1)
  have ec0 := keep1 hb (ka cc0)
  have ec1 := keep1 hb (ka cc1)
  have ex0 := keep1 hb (ka cx0)
  have ex1 := keep1 hb (ka cx1)
  have ey0 := keep1 hb (ka cy0)
  have ey1 := keep1 hb (ka cy1)
  have eu0 := keep1 hb (two_at v6 _ _ 24).c0
  have eu1 := keep1 hb (two_at v6 _ _ 24).c1
  have B7 : Hid (Below w.heap.size w v7) := hide (bel_call (bel_alloc (unhide B6) _) hb)
  clear hb B6 ca0 ca1 la cb0 cb1 lb cc0 cc1 lc cx0 cx1 lx cy0 cy1 ly
  have ca0 := ea0
  have ca1 := ea1
  have la := cell_lt ca0
  clear ea0 ea1
  have cb0 := eb0
  have cb1 := eb1
  have lb := cell_lt cb0
  clear eb0 eb1
  have cc0 := ec0
  have cc1 := ec1
  have lc := cell_lt cc0
  clear ec0 ec1
  have cx0 := ex0
  have cx1 := ex1
  have lx := cell_lt cx0
  clear ex0 ex1
  have cy0 := ey0
  have cy1 := ey1
  have ly := cell_lt cy0
  clear ey0 ey1
  have cu0 := eu0
  have cu1 := eu1
  have lu := cell_lt cu0
  clear eu0 eu1
  go_wp2_with fail
  refine (unhide X1 _ (by exact (bel_alloc (unhide B7) _))).mono ?_
  rintro e v8 ⟨rfl, hb⟩
  have ea0 := keep1 hb (ka ca0)
  have ea1 := keep1 hb (ka ca1)
  have eb0 := keep1 hb (ka cb0)
  have eb1 := keep1 hb (ka cb1)
  have ec0 := keep1 hb (ka cc0)
  have ec1 := keep1 hb (ka cc1)
  have ex0 := keep1 hb (ka cx0)
  have ex1 := keep1 hb (ka cx1)
  have ey0 := keep1 hb (ka cy0)
  have ey1 := keep1 hb (ka cy1)
  have eu0 := keep1 hb (ka cu0)
  have eu1 := keep1 hb (ka cu1)
  have ev0 := keep1 hb (two_at v7 _ _ 24).c0
  have ev1 := keep1 hb (two_at v7 _ _ 24).c1
  have B8 : Hid (Below w.heap.size w v8) := hide (bel_call (bel_alloc (unhide B7) _) hb)
  clear hb B7 ca0 ca1 la cb0 cb1 lb cc0 cc1 lc cx0 cx1 lx cy0 cy1 ly cu0 cu1 lu
  clear eu0 eu1
  clear ev0 ev1
  clear ey0 ey1
  have ca0 := ea0
  have ca1 := ea1
  have la := cell_lt ca0
  clear ea0 ea1
  have cb0 := eb0
  have cb1 := eb1
  have lb := cell_lt cb0
  clear eb0 eb1
  have cc0 := ec0
  have cc1 := ec1
  have lc := cell_lt cc0
  clear ec0 ec1
  have cx0 := ex0
  have cx1 := ex1
  have lx := cell_lt cx0
  clear ex0 ex1
  go_wp2_with fail
  refine (unhide X2 _ (by exact (unhide B8))).mono ?_
  rintro e v9 ⟨rfl, hb⟩
  have ea0 := keep1 hb ca0
  have ea1 := keep1 hb ca1
  have eb0 := keep1 hb cb0
  have eb1 := keep1 hb cb1
  have ec0 := keep1 hb cc0
  have ec1 := keep1 hb cc1
  have ex0 := keep1 hb cx0
  have ex1 := keep1 hb cx1
  have B9 : Hid (Below w.heap.size w v9) := hide (bel_call (unhide B8) hb)
  clear hb B8 ca0 ca1 la cb0 cb1 lb cc0 cc1 lc cx0 cx1 lx
  have ca0 := ea0
  have ca1 := ea1
  have la := cell_lt ca0
  clear ea0 ea1
  have cb0 := eb0
  have cb1 := eb1
  have lb := cell_lt cb0
  clear eb0 eb1
  have cc0 := ec0
  have cc1 := ec1
  have lc := cell_lt cc0
  clear ec0 ec1
  have cx0 := ex0
  have cx1 := ex1
  have lx := cell_lt cx0
  clear ex0 ex1
  go_wp2_with fail
  refine (unhide L1 _).mono ?_
  rintro e v10 ⟨rfl, hb⟩
  have ea0 := keep1 hb (ka ca0)
  have ea1 := keep1 hb (ka ca1)
  have eb0 := keep1 hb (ka cb0)
  have eb1 := keep1 hb (ka cb1)
  have ec0 := keep1 hb (ka cc0)
  have ec1 := keep1 hb (ka cc1)
  have ex0 := keep1 hb (ka cx0)
  have ex1 := keep1 hb (ka cx1)
  have er0 := keep1 hb (two_at v9 _ _ 24).c0
  have er1 := keep1 hb (two_at v9 _ _ 24).c1
  have B10 : Hid (Below w.heap.size w v10) := hide (bel_call (bel_alloc (unhide B9) _) hb)
  clear hb B9 ca0 ca1 la cb0 cb1 lb cc0 cc1 lc cx0 cx1 lx
  clear er0 er1
  have ca0 := ea0
  have ca1 := ea1
  have la := cell_lt ca0
  clear ea0 ea1
  have cb0 := eb0
  have cb1 := eb1
  have lb := cell_lt cb0
  clear eb0 eb1
  have cc0 := ec0
  have cc1 := ec1
  have lc := cell_lt cc0
  clear ec0 ec1
  have cx0 := ex0
  have cx1 := ex1
  have lx := cell_lt cx0
  clear ex0 ex1
  go_wp2_with fail
  refine (unhide L2 _).mono ?_
  rintro e v11 ⟨rfl, hb⟩
  have ea0 := keep1 hb ca0
  have ea1 := keep1 hb ca1
  have eb0 := keep1 hb cb0
  have eb1 := keep1 hb cb1
  have ec0 := keep1 hb cc0
  have ec1 := keep1 hb cc1
  have ex0 := keep1 hb cx0
  have ex1 := keep1 hb cx1
  have B11 : Hid (Below w.heap.size w v11) := hide (bel_call (unhide B10) hb)
  clear hb B10 ca0 ca1 la cb0 cb1 lb cc0 cc1 lc cx0 cx1 lx
  have ca0 := ea0
  have ca1 := ea1
  have la := cell_lt ca0
  clear ea0 ea1
  have cb0 := eb0
  have cb1 := eb1
  have lb := cell_lt cb0
  clear eb0 eb1
  have cc0 := ec0
  have cc1 := ec1
  have lc := cell_lt cc0
  clear ec0 ec1
  have cx0 := ex0
  have cx1 := ex1
  have lx := cell_lt cx0
  clear ex0 ex1
  go_upto_region 20 with fail
  go_cut [188] (fun s188 wx => s188 = .bool false ∧ wx = v11)
  case first =>
    rcases unhide HS with ⟨rfl, rfl, rfl, rfl⟩ | ⟨rfl, rfl, e1⟩ | ⟨rfl, rfl, rfl, e2⟩ | ⟨rfl, rfl, e1⟩ | ⟨rfl, rfl, rfl, e2⟩
    all_goals
      go_wp2_with fail
      go_meet
      case rel => exact ⟨rfl, rfl⟩
  case rest =>
    obtain ⟨rfl, rfl⟩ := hcut
    go_wp2_with fail
    refine (unhide S1 _).mono ?_
    rintro e v12 ⟨rfl, hb⟩
    have ea0 := keep1 hb ca0
    have ea1 := keep1 hb ca1
    have eb0 := keep1 hb cb0
    have eb1 := keep1 hb cb1
    have ec0 := keep1 hb cc0
    have ec1 := keep1 hb cc1
    have ex0 := keep1 hb cx0
    have ex1 := keep1 hb cx1
    have B12 : Hid (Below w.heap.size w v12) := hide (bel_call (unhide B11) hb)
    clear hb B11 ca0 ca1 la cb0 cb1 lb cc0 cc1 lc cx0 cx1 lx
    have ca0 := ea0
    have ca1 := ea1
    have la := cell_lt ca0
    clear ea0 ea1
    have cb0 := eb0
    have cb1 := eb1
    have lb := cell_lt cb0
    clear eb0 eb1
    have cc0 := ec0
    have cc1 := ec1
    have lc := cell_lt cc0
    clear ec0 ec1
    have cx0 := ex0
    have cx1 := ex1
    have lx := cell_lt cx0
    clear ex0 ex1
    go_wp2_with fail
    refine (unhide S3 _).mono ?_
    rintro e v13 ⟨rfl, hb⟩
    have ea0 := keep1 hb (ka ca0)
    have ea1 := keep1 hb (ka ca1)
    have eb0 := keep1 hb (ka cb0)
    have eb1 := keep1 hb (ka cb1)
    have ec0 := keep1 hb (ka cc0)
    have ec1 := keep1 hb (ka cc1)
    have ex0 := keep1 hb (ka cx0)
    have ex1 := keep1 hb (ka cx1)
    have ez0 := keep1 hb (two_at v12 _ _ 24).c0
    have ez1 := keep1 hb (two_at v12 _ _ 24).c1
    have B13 : Hid (Below w.heap.size w v13) := hide (bel_call (bel_alloc (unhide B12) _) hb)
    clear hb B12 ca0 ca1 la cb0 cb1 lb cc0 cc1 lc cx0 cx1 lx
    have ca0 := ea0
    have ca1 := ea1
    have la := cell_lt ca0
    clear ea0 ea1
    have cb0 := eb0
    have cb1 := eb1
    have lb := cell_lt cb0
    clear eb0 eb1
    have cc0 := ec0
    have cc1 := ec1
    have lc := cell_lt cc0
    clear ec0 ec1
    have cx0 := ex0
    have cx1 := ex1
    have lx := cell_lt cx0
    clear ex0 ex1
    have cz0 := ez0
    have cz1 := ez1
    have lz := cell_lt cz0
    clear ez0 ez1
    go_wp2_with fail
    refine (unhide S4 _).mono ?_
    rintro e v14 ⟨rfl, hb⟩
    have ea0 := keep1 hb (ka ca0)
    have ea1 := keep1 hb (ka ca1)
    have eb0 := keep1 hb (ka cb0)
    have eb1 := keep1 hb (ka cb1)
    have ec0 := keep1 hb (ka cc0)
    have ec1 := keep1 hb (ka cc1)
    have ex0 := keep1 hb (ka cx0)
    have ex1 := keep1 hb (ka cx1)
    have ez0 := keep1 hb (ka cz0)
    have ez1 := keep1 hb (ka cz1)
    have ep0 := keep1 hb (two_at v13 _ _ 24).c0
    have ep1 := keep1 hb (two_at v13 _ _ 24).c1
    have B14 : Hid (Below w.heap.size w v14) := hide (bel_call (bel_alloc (unhide B13) _) hb)
    clear hb B13 ca0 ca1 la cb0 cb1 lb cc0 cc1 lc cx0 cx1 lx cz0 cz1 lz
    clear ez0 ez1
    have ca0 := ea0
    have ca1 := ea1
    have la := cell_lt ca0
    clear ea0 ea1
    have cb0 := eb0
    have cb1 := eb1
    have lb := cell_lt cb0
    clear eb0 eb1
    have cc0 := ec0
    have cc1 := ec1
    have lc := cell_lt cc0
    clear ec0 ec1
    have cx0 := ex0
    have cx1 := ex1
    have lx := cell_lt cx0
    clear ex0 ex1
    have cp0 := ep0
    have cp1 := ep1
    have lp := cell_lt cp0
    clear ep0 ep1
    go_wp2_with fail
    refine (unhide S5 _).mono ?_
    rintro e v15 ⟨rfl, hb⟩
    have ea0 := keep1 hb (ka ca0)
    have ea1 := keep1 hb (ka ca1)
    have eb0 := keep1 hb (ka cb0)
    have eb1 := keep1 hb (ka cb1)
    have ec0 := keep1 hb (ka cc0)
    have ec1 := keep1 hb (ka cc1)
    have ex0 := keep1 hb (ka cx0)
    have ex1 := keep1 hb (ka cx1)
    have ep0 := keep1 hb (ka cp0)
    have ep1 := keep1 hb (ka cp1)
    have eg0 := keep1 hb (two_at v14 _ _ 24).c0
    have eg1 := keep1 hb (two_at v14 _ _ 24).c1
    have B15 : Hid (Below w.heap.size w v15) := hide (bel_call (bel_alloc (unhide B14) _) hb)
    clear hb B14 ca0 ca1 la cb0 cb1 lb cc0 cc1 lc cx0 cx1 lx cp0 cp1 lp
    clear ep0 ep1
    have ca0 := ea0
    have ca1 := ea1
    have la := cell_lt ca0
    clear ea0 ea1
    have cb0 := eb0
    have cb1 := eb1
    have lb := cell_lt cb0
    clear eb0 eb1
    have cc0 := ec0
    have cc1 := ec1
    have lc := cell_lt cc0
    clear ec0 ec1
    have cx0 := ex0
    have cx1 := ex1
    have lx := cell_lt cx0
    clear ex0 ex1
    have cg0 := eg0
    have cg1 := eg1
    have lg := cell_lt cg0
    clear eg0 eg1
    go_wp2_with fail
    refine (unhide S6 _).mono ?_
    rintro e v16 ⟨rfl, hb⟩
    have ea0 := keep1 hb (ka ca0)
    have ea1 := keep1 hb (ka ca1)
    have eb0 := keep1 hb (ka cb0)
    have eb1 := keep1 hb (ka cb1)
    have ec0 := keep1 hb (ka cc0)
    have ec1 := keep1 hb (ka cc1)
    have ex0 := keep1 hb (ka cx0)
    have ex1 := keep1 hb (ka cx1)
    have eg0 := keep1 hb (ka cg0)
    have eg1 := keep1 hb (ka cg1)
    have eh0 := keep1 hb (two_at v15 _ _ 24).c0
    have eh1 := keep1 hb (two_at v15 _ _ 24).c1
    have B16 : Hid (Below w.heap.size w v16) := hide (bel_call (bel_alloc (unhide B15) _) hb)
    clear hb B15 ca0 ca1 la cb0 cb1 lb cc0 cc1 lc cx0 cx1 lx cg0 cg1 lg
    clear eg0 eg1
    clear eh0 eh1
    have ca0 := ea0
    have ca1 := ea1
    have la := cell_lt ca0
    clear ea0 ea1
    have cb0 := eb0
    have cb1 := eb1
    have lb := cell_lt cb0
    clear eb0 eb1
    have cc0 := ec0
    have cc1 := ec1
    have lc := cell_lt cc0
    clear ec0 ec1
    have cx0 := ex0
    have cx1 := ex1
    have lx := cell_lt cx0
    clear ex0 ex1
    by_cases qE : E = 0
    case neg =>
      have rE : (E != 0) = true := by rw [bne_iff_ne]; exact qE
      have tE : (E == 0) = false := by rw [beq_eq_false_iff_ne]; exact qE
      clear qE
      go_wp2
      go_ret
      exact ⟨rfl, by repeat (first | exact unhide B16 | refine bel_alloc ?_ _)⟩
    subst qE
    by_cases qC2 : C2 = 0
    case neg =>
      have rC2 : (C2 != 0) = true := by rw [bne_iff_ne]; exact qC2
      have tC2 : (C2 == 0) = false := by rw [beq_eq_false_iff_ne]; exact qC2
      clear qC2
      go_wp2
      go_ret
      exact ⟨rfl, by repeat (first | exact unhide B16 | refine bel_alloc ?_ _)⟩
    subst qC2
    by_cases qC3 : C3 = 0
    case neg =>
      have rC3 : (C3 != 0) = true := by rw [bne_iff_ne]; exact qC3
      have tC3 : (C3 == 0) = false := by rw [beq_eq_false_iff_ne]; exact qC3
      clear qC3
      go_wp2
      go_ret
      exact ⟨rfl, by repeat (first | exact unhide B16 | refine bel_alloc ?_ _)⟩
    subst qC3
    by_cases qC4 : C4 = 0
    case neg =>
      have rC4 : (C4 != 0) = true := by rw [bne_iff_ne]; exact qC4
      have tC4 : (C4 == 0) = false := by rw [beq_eq_false_iff_ne]; exact qC4
      clear qC4
      go_wp2
      go_ret
      exact ⟨rfl, by repeat (first | exact unhide B16 | refine bel_alloc ?_ _)⟩
    subst qC4
    by_cases qC5 : C5 = 0
    case neg =>
      have rC5 : (C5 != 0) = true := by rw [bne_iff_ne]; exact qC5
      have tC5 : (C5 == 0) = false := by rw [beq_eq_false_iff_ne]; exact qC5
      clear qC5
      go_wp2
      go_ret
      exact ⟨rfl, by repeat (first | exact unhide B16 | refine bel_alloc ?_ _)⟩
    subst qC5
    obtain ⟨rfl, rfl⟩ := unhide HE rfl rfl rfl rfl rfl
    go_wp2_with fail
    refine (unhide J1 _).mono ?_
    rintro e v17 ⟨rfl, hb⟩
    have ea0 := keep1 hb (ka ca0)
    have ea1 := keep1 hb (ka ca1)
    have eb0 := keep1 hb (ka cb0)
    have eb1 := keep1 hb (ka cb1)
    have ec0 := keep1 hb (ka cc0)
    have ec1 := keep1 hb (ka cc1)
    have ex0 := keep1 hb (ka cx0)
    have ex1 := keep1 hb (ka cx1)
    have eq0 := keep1 hb (two_at v16 _ _ 24).c0
    have eq1 := keep1 hb (two_at v16 _ _ 24).c1
    have B17 : Hid (Below w.heap.size w v17) := hide (bel_call (bel_alloc (unhide B16) _) hb)
    clear hb B16 ca0 ca1 la cb0 cb1 lb cc0 cc1 lc cx0 cx1 lx
    clear eq0 eq1
    have ca0 := ea0
    have ca1 := ea1
    have la := cell_lt ca0
    clear ea0 ea1
    have cb0 := eb0
    have cb1 := eb1
    have lb := cell_lt cb0
    clear eb0 eb1
    have cc0 := ec0
    have cc1 := ec1
    have lc := cell_lt cc0
    clear ec0 ec1
    have cx0 := ex0
    have cx1 := ex1
    have lx := cell_lt cx0
    clear ex0 ex1
    go_wp2_with fail
    refine (unhide J2 _).mono ?_
    rintro e v18 ⟨rfl, hb⟩
    have ea0 := keep1 hb (ka ca0)
    have ea1 := keep1 hb (ka ca1)
    have eb0 := keep1 hb (ka cb0)
    have eb1 := keep1 hb (ka cb1)
    have ec0 := keep1 hb (ka cc0)
    have ec1 := keep1 hb (ka cc1)
    have ex0 := keep1 hb (ka cx0)
    have ex1 := keep1 hb (ka cx1)
    have ew0 := keep1 hb (two_at v17 _ _ 24).c0
    have ew1 := keep1 hb (two_at v17 _ _ 24).c1
    have B18 : Hid (Below w.heap.size w v18) := hide (bel_call (bel_alloc (unhide B17) _) hb)
    clear hb B17 ca0 ca1 la cb0 cb1 lb cc0 cc1 lc cx0 cx1 lx
    clear ex0 ex1
    have ca0 := ea0
    have ca1 := ea1
    have la := cell_lt ca0
    clear ea0 ea1
    have cb0 := eb0
    have cb1 := eb1
    have lb := cell_lt cb0
    clear eb0 eb1
    have cc0 := ec0
    have cc1 := ec1
    have lc := cell_lt cc0
    clear ec0 ec1
    have cw0 := ew0
    have cw1 := ew1
    have lw := cell_lt cw0
    clear ew0 ew1
    go_wp2_with fail
    refine (unhide J3 _).mono ?_
    rintro e v19 ⟨rfl, hb⟩
    have ea0 := keep1 hb (ka ca0)
    have ea1 := keep1 hb (ka ca1)
    have eb0 := keep1 hb (ka cb0)
    have eb1 := keep1 hb (ka cb1)
    have ec0 := keep1 hb (ka cc0)
    have ec1 := keep1 hb (ka cc1)
    have ew0 := keep1 hb (ka cw0)
    have ew1 := keep1 hb (ka cw1)
    have ei0 := keep1 hb (two_at v18 _ _ 24).c0
    have ei1 := keep1 hb (two_at v18 _ _ 24).c1
    have B19 : Hid (Below w.heap.size w v19) := hide (bel_call (bel_alloc (unhide B18) _) hb)
    clear hb B18 ca0 ca1 la cb0 cb1 lb cc0 cc1 lc cw0 cw1 lw
    have ca0 := ea0
    have ca1 := ea1
    have la := cell_lt ca0
    clear ea0 ea1
    have cb0 := eb0
    have cb1 := eb1
    have lb := cell_lt cb0
    clear eb0 eb1
    have cc0 := ec0
    have cc1 := ec1
    have lc := cell_lt cc0
    clear ec0 ec1
    have cw0 := ew0
    have cw1 := ew1
    have lw := cell_lt cw0
    clear ew0 ew1
    have ci0 := ei0
    have ci1 := ei1
    have li := cell_lt ci0
    clear ei0 ei1
    go_wp2_with fail
    refine (unhide J4 _).mono ?_
    rintro e v20 ⟨rfl, hb⟩
    have ea0 := keep1 hb (ka ca0)
    have ea1 := keep1 hb (ka ca1)
    have eb0 := keep1 hb (ka cb0)
    have eb1 := keep1 hb (ka cb1)
    have ec0 := keep1 hb (ka cc0)
    have ec1 := keep1 hb (ka cc1)
    have ew0 := keep1 hb (ka cw0)
    have ew1 := keep1 hb (ka cw1)
    have ei0 := keep1 hb (ka ci0)
    have ei1 := keep1 hb (ka ci1)
    have ej0 := keep1 hb (two_at v19 _ _ 24).c0
    have ej1 := keep1 hb (two_at v19 _ _ 24).c1
    have B20 : Hid (Below w.heap.size w v20) := hide (bel_call (bel_alloc (unhide B19) _) hb)
    clear hb B19 ca0 ca1 la cb0 cb1 lb cc0 cc1 lc cw0 cw1 lw ci0 ci1 li
    have ca0 := ea0
    have ca1 := ea1
    have la := cell_lt ca0
    clear ea0 ea1
    have cb0 := eb0
    have cb1 := eb1
    have lb := cell_lt cb0
    clear eb0 eb1
    have cc0 := ec0
    have cc1 := ec1
    have lc := cell_lt cc0
    clear ec0 ec1
    have cw0 := ew0
    have cw1 := ew1
    have lw := cell_lt cw0
    clear ew0 ew1
    have ci0 := ei0
    have ci1 := ei1
    have li := cell_lt ci0
    clear ei0 ei1
    have cj0 := ej0
    have cj1 := ej1
    have lj := cell_lt cj0
    clear ej0 ej1
    go_wp2
    go_ret
    exact ⟨rfl, by repeat (first | exact unhide B20 | refine bel_alloc ?_ _)⟩
end Go.Proofs.YtidafleegkofkaaDoor
