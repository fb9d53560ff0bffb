/-
  What two segments have in common, as the program finds it.
-/
import Derived.Test.YtimkinpbimangaaAlongP
import Derived.Test.YtimkinpbimangaaInv
namespace Go.Proofs.Ytimkinpbimangaa
open Go.ChangeShapes Go.WideShapes Go.ChangeAt Go.RowKit
set_option linter.unusedVariables false
set_option linter.unusedSimpArgs false

theorem IsSpots.mono {A B : Nat} {w : World} {v : Value} {L : List Sp} (h : IsSpots B w v L) (hA : A ≤ B) : IsSpots A w v L := by
  rcases h with h | ⟨k, cap, h1, h2, h3⟩
  · exact .inl h
  · exact .inr ⟨k, cap, h1, Nat.le_trans hA h2, h3⟩
theorem sub_below (a1 a2 b1 b2 e1 e2 : Int) (w : World) (ha : Hid (ptOk (a1, a2) = true)) (hb : Hid (ptOk (b1, b2) = true)) (q1 : Hid (a1 - b1 = e1)) (q2 : Hid (a2 - b2 = e2)) :
    Calls Try.prog 64 #[.agg #[.int .i64 a1, .int .i64 a2], .agg #[.int .i64 b1, .int .i64 b2]] w fun e w' => e = .returned (.agg #[.int .i64 e1, .int .i64 e2]) ∧ Below w.heap.size w w' :=
  (sub_exact a1 a2 b1 b2 w (unhide ha) (unhide hb)).mono fun e w' ⟨he, hw⟩ => ⟨by rw [← unhide q1, ← unhide q2]; exact he, by subst hw; exact ba (ba (ba (Below.refl _ _) _) _) _⟩

set_option maxRecDepth 100000 in
set_option maxHeartbeats 4000000 in
theorem common_core (a1 a2 b1 b2 c1 c2 d1 d2 e1 e2 f1 f2 g1 g2 W0 : Int) (w : World) (ha : Hid (ptOk (a1, a2) = true)) (hb : Hid (ptOk (b1, b2) = true)) (hc : Hid (ptOk (c1, c2) = true)) (hd : Hid (ptOk (d1, d2) = true))
    (q1 : Hid (b1 - a1 = e1)) (q2 : Hid (b2 - a2 = e2)) (q3 : Hid (d1 - c1 = f1)) (q4 : Hid (d2 - c2 = f2)) (q5 : Hid (c1 - a1 = g1)) (q6 : Hid (c2 - a2 = g2))
    (HW : Hid (∀ W, Calls Try.prog 66 #[.agg #[.int .i64 e1, .int .i64 e2], .agg #[.int .i64 f1, .int .i64 f2]] W fun e w' => e = .returned (.int .i64 W0) ∧ Below W.heap.size W w'))
    (L : List Sp) (T U0 V0 : Int)
    (HT : Hid (∀ W, Calls Try.prog 65 #[.int .i64 W0] W fun e w' => e = .returned (.int .i64 T) ∧ w' = W))
    (HU : Hid (∀ W, Calls Try.prog 66 #[.agg #[.int .i64 g1, .int .i64 g2], .agg #[.int .i64 f1, .int .i64 f2]] W fun e w' => e = .returned (.int .i64 U0) ∧ Below W.heap.size W w'))
    (HV : Hid (∀ W, Calls Try.prog 66 #[.agg #[.int .i64 g1, .int .i64 g2], .agg #[.int .i64 e1, .int .i64 e2]] W fun e w' => e = .returned (.int .i64 V0) ∧ Below W.heap.size W w'))
    (M : Hid ((-80000000000 ≤ W0 * T ∧ W0 * T ≤ 80000000000) ∧ (-80000000000 ≤ U0 * T ∧ U0 * T ≤ 80000000000) ∧ (-80000000000 ≤ V0 * T ∧ V0 * T ≤ 80000000000)))
    (HD : Hid (((W0 == 0) = true ∧ ∀ W, Calls Try.prog 74 #[.agg #[.int .i64 a1, .int .i64 a2, .int .i64 b1, .int .i64 b2], .agg #[.int .i64 c1, .int .i64 c2, .int .i64 d1, .int .i64 d2]] W fun e w' => (∃ v, e = .returned v ∧ IsSpots W.heap.size w' v L) ∧ Below W.heap.size W w')
      ∨ ((W0 == 0) = false ∧ (decide (0 ≤ U0 * T) && decide (U0 * T ≤ W0 * T)) = false ∧ L = [])
      ∨ ((W0 == 0) = false ∧ (decide (0 ≤ U0 * T) && decide (U0 * T ≤ W0 * T)) = true ∧ (decide (0 ≤ V0 * T) && decide (V0 * T ≤ W0 * T)) = false ∧ L = [])
      ∨ ((W0 == 0) = false ∧ (decide (0 ≤ U0 * T) && decide (U0 * T ≤ W0 * T)) = true ∧ (decide (0 ≤ V0 * T) && decide (V0 * T ≤ W0 * T)) = true ∧
        ((-10000000000000000 ≤ a1 * (W0 * T) ∧ a1 * (W0 * T) ≤ 10000000000000000) ∧ (-20000000000000000 ≤ e1 * (U0 * T) ∧ e1 * (U0 * T) ≤ 20000000000000000) ∧ (-10000000000000000 ≤ a2 * (W0 * T) ∧ a2 * (W0 * T) ≤ 10000000000000000) ∧ (-20000000000000000 ≤ e2 * (U0 * T) ∧ e2 * (U0 * T) ≤ 20000000000000000)) ∧
        ∃ x y z : Int, L = [(x, y, z)] ∧ ∀ W, Calls Try.prog 75 #[.int .i64 (a1 * (W0 * T) + e1 * (U0 * T)), .int .i64 (a2 * (W0 * T) + e2 * (U0 * T)), .int .i64 (W0 * T)] W fun e w' => e = .returned (.agg #[.int .i64 x, .int .i64 y, .int .i64 z]) ∧ Below W.heap.size W w')))
    :
    Calls Try.prog 60 #[.agg #[.int .i64 a1, .int .i64 a2, .int .i64 b1, .int .i64 b2], .agg #[.int .i64 c1, .int .i64 c2, .int .i64 d1, .int .i64 d2]] w fun e w' => (∃ v, e = .returned v ∧ IsSpots w.heap.size w' v L) ∧ Below w.heap.size w w' := by
  go_enter Try.func60, Try.ntmps60
  go_upto_region 1 with fail
  go_cut [5, 6, 7] (fun s5 s6 s7 wx => ∃ p q r : Nat, s5 = .pointer (some ⟨p, 0, none⟩) ∧ s6 = .pointer (some ⟨q, 0, none⟩) ∧ s7 = .pointer (some ⟨r, 0, none⟩) ∧ wx.cell? ⟨p, 0, none⟩ = some (.int .i64 e1) ∧ wx.cell? ⟨p, 1, none⟩ = some (.int .i64 e2) ∧ wx.cell? ⟨q, 0, none⟩ = some (.int .i64 f1) ∧ wx.cell? ⟨q, 1, none⟩ = some (.int .i64 f2) ∧ wx.cell? ⟨r, 0, none⟩ = some (.int .i64 g1) ∧ wx.cell? ⟨r, 1, none⟩ = some (.int .i64 g2) ∧ wx.cell? ⟨w.heap.size, 0, none⟩ = some (.int .i64 a1) ∧ wx.cell? ⟨w.heap.size, 1, none⟩ = some (.int .i64 a2) ∧ wx.cell? ⟨w.heap.size, 2, none⟩ = some (.int .i64 b1) ∧ wx.cell? ⟨w.heap.size, 3, none⟩ = some (.int .i64 b2) ∧ wx.cell? ⟨w.heap.size + 1, 0, none⟩ = some (.int .i64 c1) ∧ wx.cell? ⟨w.heap.size + 1, 1, none⟩ = some (.int .i64 c2) ∧ wx.cell? ⟨w.heap.size + 1, 2, none⟩ = some (.int .i64 d1) ∧ wx.cell? ⟨w.heap.size + 1, 3, none⟩ = some (.int .i64 d2) ∧ Below w.heap.size w wx)
  case first =>
    refine wp_region_inv (fun L A W => ∃ (u0 u1 u2 u3 u4 u5 u6 u7 u8 u9 u10 u11 u12 u13 u14 u15 u16 u17 u18 u19 u20 : Bool) (p q r : Nat), L = #[u0, u1, u2, u3, u4, u5, u6, u7, u8, u9, u10, u11, u12, u13, u14, u15, u16, u17, u18, u19, u20] ∧ A = ({ tmps := #[.agg #[.int .i64 a1, .int .i64 a2, .int .i64 b1, .int .i64 b2], .agg #[.int .i64 c1, .int .i64 c2, .int .i64 d1, .int .i64 d2], .pointer (some ⟨w.heap.size, 0, none⟩), .pointer (some ⟨w.heap.size + 1, 0, none⟩), .slice none 0 0, (bif u15 then .pointer (some ⟨p, 0, none⟩) else undef), (bif u16 then .pointer (some ⟨q, 0, none⟩) else undef), (bif u17 then .pointer (some ⟨r, 0, none⟩) else undef), undef, undef, undef, undef, (bif u0 then .pointer (some ⟨w.heap.size, 2, none⟩) else undef), (bif u1 then .agg #[.int .i64 b1, .int .i64 b2] else undef), (bif u2 then .pointer (some ⟨w.heap.size, 0, none⟩) else undef), (bif u3 then .agg #[.int .i64 a1, .int .i64 a2] else undef), (bif u4 then .agg #[.int .i64 e1, .int .i64 e2] else undef), (bif u5 then .pointer (some ⟨w.heap.size + 1, 2, none⟩) else undef), (bif u6 then .agg #[.int .i64 d1, .int .i64 d2] else undef), (bif u7 then .pointer (some ⟨w.heap.size + 1, 0, none⟩) else undef), (bif u8 then .agg #[.int .i64 c1, .int .i64 c2] else undef), (bif u9 then .agg #[.int .i64 f1, .int .i64 f2] else undef), (bif u10 then .pointer (some ⟨w.heap.size + 1, 0, none⟩) else undef), (bif u11 then .agg #[.int .i64 c1, .int .i64 c2] else undef), (bif u12 then .pointer (some ⟨w.heap.size, 0, none⟩) else undef), (bif u13 then .agg #[.int .i64 a1, .int .i64 a2] else undef), (bif u14 then .agg #[.int .i64 g1, .int .i64 g2] else undef), undef, undef, undef, undef, undef, undef, undef, undef, undef, undef, undef, undef, undef, undef, undef, undef, undef, undef, undef, undef, undef, undef, undef, undef, undef, undef, undef, undef, undef, undef, undef, undef, undef, undef, undef, undef, undef, undef, undef, undef, undef, undef, undef, undef, undef, undef, undef, undef, undef, undef, undef, undef, undef, undef, undef, undef], defers := [] } : Act) ∧ (W.cell? ⟨w.heap.size, 0, none⟩ = some (.int .i64 a1) ∧ W.cell? ⟨w.heap.size, 1, none⟩ = some (.int .i64 a2) ∧ W.cell? ⟨w.heap.size, 2, none⟩ = some (.int .i64 b1) ∧ W.cell? ⟨w.heap.size, 3, none⟩ = some (.int .i64 b2) ∧ W.cell? ⟨w.heap.size + 1, 0, none⟩ = some (.int .i64 c1) ∧ W.cell? ⟨w.heap.size + 1, 1, none⟩ = some (.int .i64 c2) ∧ W.cell? ⟨w.heap.size + 1, 2, none⟩ = some (.int .i64 d1) ∧ W.cell? ⟨w.heap.size + 1, 3, none⟩ = some (.int .i64 d2)) ∧ Below w.heap.size w W ∧ w.heap.size + 2 ≤ W.heap.size ∧ Boxes W (w.heap.size + 2) [(u15, p, #[(bif u18 then .int .i64 e1 else .int .i64 0), (bif u18 then .int .i64 e2 else .int .i64 0)], 32), (u16, q, #[(bif u19 then .int .i64 f1 else .int .i64 0), (bif u19 then .int .i64 f2 else .int .i64 0)], 32), (u17, r, #[(bif u20 then .int .i64 g1 else .int .i64 0), (bif u20 then .int .i64 g2 else .int .i64 0)], 32)] ∧ ((u15 = false → u18 = false) ∧ (u16 = false → u19 = false) ∧ (u17 = false → u20 = false))) (by kernel_rfl) (by kernel_rfl) ?h0 ?hstep ?hend
    case h0 =>
      refine ⟨false, false, false, false, false, false, false, false, false, false, false, false, false, false, false, false, false, false, false, false, false, 0, 0, 0, rfl, rfl, ⟨by simp (maxDischargeDepth := 12) [go_sem, le1, lt1, *], by simp (maxDischargeDepth := 12) [go_sem, le1, lt1, *], by simp (maxDischargeDepth := 12) [go_sem, le1, lt1, *], by simp (maxDischargeDepth := 12) [go_sem, le1, lt1, *], by simp (maxDischargeDepth := 12) [go_sem, le1, lt1, *], by simp (maxDischargeDepth := 12) [go_sem, le1, lt1, *], by simp (maxDischargeDepth := 12) [go_sem, le1, lt1, *], by simp (maxDischargeDepth := 12) [go_sem, le1, lt1, *]⟩, Below.drew (ba (ba (Below.refl _ _) _) _), by simp [World.drew], ?_, fun _ => rfl, fun _ => rfl, fun _ => rfl⟩
      constructor
      · intro i x hx ht
        match i, hx with
        | 0, hx => simp at hx; subst hx; simp at ht
        | 1, hx => simp at hx; subst hx; simp at ht
        | 2, hx => simp at hx; subst hx; simp at ht
        | i + 3, hx => simp at hx
      · intro i j x y hx hy ht
        match i, hx with
        | 0, hx => simp at hx; subst hx; simp at ht
        | 1, hx => simp at hx; subst hx; simp at ht
        | 2, hx => simp at hx; subst hx; simp at ht
        | i + 3, hx => simp at hx
    case hstep =>
      rintro L A W ⟨u0, u1, u2, u3, u4, u5, u6, u7, u8, u9, u10, u11, u12, u13, u14, u15, u16, u17, u18, u19, u20, p, q, r, rfl, rfl, ⟨s0, s1, s2, s3, s4, s5, s6, s7⟩, hB, hle, hX, k0, k1, k2⟩
      refine ⟨?_, ?_, ?_, ?_, ?_, ?_, ?_, ?_, ?_, ?_, ?_, ?_, ?_, ?_, ?_, ?_, ?_, ?_, ?_, ?_, ?_, trivial⟩
      · intro h0 hd K hK
        have z : u0 = false := h0
        subst z
        clear h0 hd
        rw [if_pos (by rfl)]
        go_simp
        exact unhide hK _ _ ⟨true, u1, u2, u3, u4, u5, u6, u7, u8, u9, u10, u11, u12, u13, u14, u15, u16, u17, u18, u19, u20, p, q, r, rfl, rfl, ⟨s0, s1, s2, s3, s4, s5, s6, s7⟩, hB, hle, hX, k0, k1, k2⟩
      · intro h0 hd K hK
        have z : u1 = false := h0
        have zd : u0 = true := by
          simp [Region.binds] at hd
          simp [hd]
        obtain ⟨rfl⟩ := zd
        subst z
        clear h0 hd
        rw [if_pos (by rfl)]
        go_simp
        exact unhide hK _ _ ⟨true, true, u2, u3, u4, u5, u6, u7, u8, u9, u10, u11, u12, u13, u14, u15, u16, u17, u18, u19, u20, p, q, r, rfl, rfl, ⟨s0, s1, s2, s3, s4, s5, s6, s7⟩, hB, hle, hX, k0, k1, k2⟩
      · intro h0 hd K hK
        have z : u2 = false := h0
        subst z
        clear h0 hd
        rw [if_pos (by rfl)]
        go_simp
        exact unhide hK _ _ ⟨u0, u1, true, u3, u4, u5, u6, u7, u8, u9, u10, u11, u12, u13, u14, u15, u16, u17, u18, u19, u20, p, q, r, rfl, rfl, ⟨s0, s1, s2, s3, s4, s5, s6, s7⟩, hB, hle, hX, k0, k1, k2⟩
      · intro h0 hd K hK
        have z : u3 = false := h0
        have zd : u2 = true := by
          simp [Region.binds] at hd
          simp [hd]
        obtain ⟨rfl⟩ := zd
        subst z
        clear h0 hd
        rw [if_pos (by rfl)]
        go_simp
        exact unhide hK _ _ ⟨u0, u1, true, true, u4, u5, u6, u7, u8, u9, u10, u11, u12, u13, u14, u15, u16, u17, u18, u19, u20, p, q, r, rfl, rfl, ⟨s0, s1, s2, s3, s4, s5, s6, s7⟩, hB, hle, hX, k0, k1, k2⟩
      · intro h0 hd K hK
        have z : u4 = false := h0
        have zd : u1 = true ∧ u3 = true := by
          simp [Region.binds] at hd
          simp [hd]
        obtain ⟨rfl, rfl⟩ := zd
        subst z
        clear h0 hd
        rw [if_pos (by rfl)]
        go_simp
        refine (sub_below _ _ _ _ _ _ _ hb ha q1 q2).mono ?_
        rintro e w' ⟨rfl, hq⟩
        go_simp
        exact unhide hK _ _ ⟨u0, true, u2, true, true, u5, u6, u7, u8, u9, u10, u11, u12, u13, u14, u15, u16, u17, u18, u19, u20, p, q, r, rfl, rfl, ⟨keep1 hq s0, keep1 hq s1, keep1 hq s2, keep1 hq s3, keep1 hq s4, keep1 hq s5, keep1 hq s6, keep1 hq s7⟩, bc hB hq, Nat.le_trans hle hq.size, hX.below hq, k0, k1, k2⟩
      · intro h0 hd K hK
        have z : u5 = false := h0
        subst z
        clear h0 hd
        rw [if_pos (by rfl)]
        go_simp
        exact unhide hK _ _ ⟨u0, u1, u2, u3, u4, true, u6, u7, u8, u9, u10, u11, u12, u13, u14, u15, u16, u17, u18, u19, u20, p, q, r, rfl, rfl, ⟨s0, s1, s2, s3, s4, s5, s6, s7⟩, hB, hle, hX, k0, k1, k2⟩
      · intro h0 hd K hK
        have z : u6 = false := h0
        have zd : u5 = true := by
          simp [Region.binds] at hd
          simp [hd]
        obtain ⟨rfl⟩ := zd
        subst z
        clear h0 hd
        rw [if_pos (by rfl)]
        go_simp
        exact unhide hK _ _ ⟨u0, u1, u2, u3, u4, true, true, u7, u8, u9, u10, u11, u12, u13, u14, u15, u16, u17, u18, u19, u20, p, q, r, rfl, rfl, ⟨s0, s1, s2, s3, s4, s5, s6, s7⟩, hB, hle, hX, k0, k1, k2⟩
      · intro h0 hd K hK
        have z : u7 = false := h0
        subst z
        clear h0 hd
        rw [if_pos (by rfl)]
        go_simp
        exact unhide hK _ _ ⟨u0, u1, u2, u3, u4, u5, u6, true, u8, u9, u10, u11, u12, u13, u14, u15, u16, u17, u18, u19, u20, p, q, r, rfl, rfl, ⟨s0, s1, s2, s3, s4, s5, s6, s7⟩, hB, hle, hX, k0, k1, k2⟩
      · intro h0 hd K hK
        have z : u8 = false := h0
        have zd : u7 = true := by
          simp [Region.binds] at hd
          simp [hd]
        obtain ⟨rfl⟩ := zd
        subst z
        clear h0 hd
        rw [if_pos (by rfl)]
        go_simp
        exact unhide hK _ _ ⟨u0, u1, u2, u3, u4, u5, u6, true, true, u9, u10, u11, u12, u13, u14, u15, u16, u17, u18, u19, u20, p, q, r, rfl, rfl, ⟨s0, s1, s2, s3, s4, s5, s6, s7⟩, hB, hle, hX, k0, k1, k2⟩
      · intro h0 hd K hK
        have z : u9 = false := h0
        have zd : u4 = true ∧ u6 = true ∧ u8 = true := by
          simp [Region.binds] at hd
          simp [hd]
        obtain ⟨rfl, rfl, rfl⟩ := zd
        subst z
        clear h0 hd
        rw [if_pos (by rfl)]
        go_simp
        refine (sub_below _ _ _ _ _ _ _ hd hc q3 q4).mono ?_
        rintro e w' ⟨rfl, hq⟩
        go_simp
        exact unhide hK _ _ ⟨u0, u1, u2, u3, true, u5, true, u7, true, true, u10, u11, u12, u13, u14, u15, u16, u17, u18, u19, u20, p, q, r, rfl, rfl, ⟨keep1 hq s0, keep1 hq s1, keep1 hq s2, keep1 hq s3, keep1 hq s4, keep1 hq s5, keep1 hq s6, keep1 hq s7⟩, bc hB hq, Nat.le_trans hle hq.size, hX.below hq, k0, k1, k2⟩
      · intro h0 hd K hK
        have z : u10 = false := h0
        subst z
        clear h0 hd
        rw [if_pos (by rfl)]
        go_simp
        exact unhide hK _ _ ⟨u0, u1, u2, u3, u4, u5, u6, u7, u8, u9, true, u11, u12, u13, u14, u15, u16, u17, u18, u19, u20, p, q, r, rfl, rfl, ⟨s0, s1, s2, s3, s4, s5, s6, s7⟩, hB, hle, hX, k0, k1, k2⟩
      · intro h0 hd K hK
        have z : u11 = false := h0
        have zd : u10 = true := by
          simp [Region.binds] at hd
          simp [hd]
        obtain ⟨rfl⟩ := zd
        subst z
        clear h0 hd
        rw [if_pos (by rfl)]
        go_simp
        exact unhide hK _ _ ⟨u0, u1, u2, u3, u4, u5, u6, u7, u8, u9, true, true, u12, u13, u14, u15, u16, u17, u18, u19, u20, p, q, r, rfl, rfl, ⟨s0, s1, s2, s3, s4, s5, s6, s7⟩, hB, hle, hX, k0, k1, k2⟩
      · intro h0 hd K hK
        have z : u12 = false := h0
        subst z
        clear h0 hd
        rw [if_pos (by rfl)]
        go_simp
        exact unhide hK _ _ ⟨u0, u1, u2, u3, u4, u5, u6, u7, u8, u9, u10, u11, true, u13, u14, u15, u16, u17, u18, u19, u20, p, q, r, rfl, rfl, ⟨s0, s1, s2, s3, s4, s5, s6, s7⟩, hB, hle, hX, k0, k1, k2⟩
      · intro h0 hd K hK
        have z : u13 = false := h0
        have zd : u12 = true := by
          simp [Region.binds] at hd
          simp [hd]
        obtain ⟨rfl⟩ := zd
        subst z
        clear h0 hd
        rw [if_pos (by rfl)]
        go_simp
        exact unhide hK _ _ ⟨u0, u1, u2, u3, u4, u5, u6, u7, u8, u9, u10, u11, true, true, u14, u15, u16, u17, u18, u19, u20, p, q, r, rfl, rfl, ⟨s0, s1, s2, s3, s4, s5, s6, s7⟩, hB, hle, hX, k0, k1, k2⟩
      · intro h0 hd K hK
        have z : u14 = false := h0
        have zd : u9 = true ∧ u11 = true ∧ u13 = true := by
          simp [Region.binds] at hd
          simp [hd]
        obtain ⟨rfl, rfl, rfl⟩ := zd
        subst z
        clear h0 hd
        rw [if_pos (by rfl)]
        go_simp
        refine (sub_below _ _ _ _ _ _ _ hc ha q5 q6).mono ?_
        rintro e w' ⟨rfl, hq⟩
        go_simp
        exact unhide hK _ _ ⟨u0, u1, u2, u3, u4, u5, u6, u7, u8, true, u10, true, u12, true, true, u15, u16, u17, u18, u19, u20, p, q, r, rfl, rfl, ⟨keep1 hq s0, keep1 hq s1, keep1 hq s2, keep1 hq s3, keep1 hq s4, keep1 hq s5, keep1 hq s6, keep1 hq s7⟩, bc hB hq, Nat.le_trans hle hq.size, hX.below hq, k0, k1, k2⟩
      · intro h0 hd K hK
        have z : u15 = false := h0
        subst z
        clear h0 hd
        have zs := k0 rfl
        subst zs
        rw [if_pos (by rfl)]
        go_simp
        exact unhide hK _ _ ⟨u0, u1, u2, u3, u4, u5, u6, u7, u8, u9, u10, u11, u12, u13, u14, true, u16, u17, false, u19, u20, W.heap.size, q, r, rfl, rfl, ⟨ka s0, ka s1, ka s2, ka s3, ka s4, ka s5, ka s6, ka s7⟩, ba hB _, Nat.le_trans hle (Nat.le_of_lt (by simp)), hX.more 0 rfl hle, (fun _ => rfl), k1, k2⟩
      · intro h0 hd K hK
        have z : u16 = false := h0
        subst z
        clear h0 hd
        have zs := k1 rfl
        subst zs
        rw [if_pos (by rfl)]
        go_simp
        exact unhide hK _ _ ⟨u0, u1, u2, u3, u4, u5, u6, u7, u8, u9, u10, u11, u12, u13, u14, u15, true, u17, u18, false, u20, p, W.heap.size, r, rfl, rfl, ⟨ka s0, ka s1, ka s2, ka s3, ka s4, ka s5, ka s6, ka s7⟩, ba hB _, Nat.le_trans hle (Nat.le_of_lt (by simp)), hX.more 1 rfl hle, k0, (fun _ => rfl), k2⟩
      · intro h0 hd K hK
        have z : u17 = false := h0
        subst z
        clear h0 hd
        have zs := k2 rfl
        subst zs
        rw [if_pos (by rfl)]
        go_simp
        exact unhide hK _ _ ⟨u0, u1, u2, u3, u4, u5, u6, u7, u8, u9, u10, u11, u12, u13, u14, u15, u16, true, u18, u19, false, p, q, W.heap.size, rfl, rfl, ⟨ka s0, ka s1, ka s2, ka s3, ka s4, ka s5, ka s6, ka s7⟩, ba hB _, Nat.le_trans hle (Nat.le_of_lt (by simp)), hX.more 2 rfl hle, k0, k1, (fun _ => rfl)⟩
      · intro h0 hd K hK
        have z : u18 = false := h0
        have zd : u0 = true ∧ u1 = true ∧ u2 = true ∧ u3 = true ∧ u4 = true ∧ u14 = true ∧ u15 = true ∧ u16 = true ∧ u17 = true := by
          simp [Region.binds] at hd
          simp [hd]
        obtain ⟨rfl, rfl, rfl, rfl, rfl, rfl, rfl, rfl, rfl⟩ := zd
        subst z
        clear h0 hd
        rw [if_pos (by rfl)]
        have c0 := hX.cell 0 rfl 0 rfl
        have c1 := hX.cell 0 rfl 1 rfl
        have z0 := hX.frozen 0 rfl 0
        have z1 := hX.frozen 0 rfl 1
        have ble := hX.le 0 rfl
        simp only [cond_true, cond_false] at c0 c1
        have HX := hide hX
        have HBL := hide ble
        have HBB := hide hB
        have HLE := hide hle
        clear hX ble hB hle
        go_simp
        have ble := unhide HBL
        have f0 : ∀ o, (⟨p, o, none⟩ : Addr).block ≠ w.heap.size := fun o => by simp; omega
        have f1 : ∀ o, (⟨p, o, none⟩ : Addr).block ≠ w.heap.size + 1 := fun o => by simp; omega
        exact unhide hK _ _ ⟨true, true, true, true, true, u5, u6, u7, u8, u9, u10, u11, u12, u13, true, true, true, true, true, u19, u20, p, q, r, rfl, rfl, ⟨(World.cell?_setCell_far _ _ _ _ (f0 _)).trans ((World.cell?_setCell_far _ _ _ _ (f0 _)).trans s0), (World.cell?_setCell_far _ _ _ _ (f0 _)).trans ((World.cell?_setCell_far _ _ _ _ (f0 _)).trans s1), (World.cell?_setCell_far _ _ _ _ (f0 _)).trans ((World.cell?_setCell_far _ _ _ _ (f0 _)).trans s2), (World.cell?_setCell_far _ _ _ _ (f0 _)).trans ((World.cell?_setCell_far _ _ _ _ (f0 _)).trans s3), (World.cell?_setCell_far _ _ _ _ (f1 _)).trans ((World.cell?_setCell_far _ _ _ _ (f1 _)).trans s4), (World.cell?_setCell_far _ _ _ _ (f1 _)).trans ((World.cell?_setCell_far _ _ _ _ (f1 _)).trans s5), (World.cell?_setCell_far _ _ _ _ (f1 _)).trans ((World.cell?_setCell_far _ _ _ _ (f1 _)).trans s6), (World.cell?_setCell_far _ _ _ _ (f1 _)).trans ((World.cell?_setCell_far _ _ _ _ (f1 _)).trans s7)⟩, Below.setCell (Below.setCell (unhide HBB) (show w.heap.size ≤ p by omega) _) (show w.heap.size ≤ p by omega) _, by simpa using unhide HLE, Boxes.put 0 (Boxes.put 0 (unhide HX) rfl 0 _) rfl 1 _, (fun h => nomatch h), k1, k2⟩
      · intro h0 hd K hK
        have z : u19 = false := h0
        have zd : u0 = true ∧ u1 = true ∧ u2 = true ∧ u3 = true ∧ u4 = true ∧ u5 = true ∧ u6 = true ∧ u7 = true ∧ u8 = true ∧ u9 = true ∧ u15 = true ∧ u16 = true ∧ u17 = true ∧ u18 = true := by
          simp [Region.binds] at hd
          simp [hd]
        obtain ⟨rfl, rfl, rfl, rfl, rfl, rfl, rfl, rfl, rfl, rfl, rfl, rfl, rfl, rfl⟩ := zd
        subst z
        clear h0 hd
        rw [if_pos (by rfl)]
        have c0 := hX.cell 1 rfl 0 rfl
        have c1 := hX.cell 1 rfl 1 rfl
        have z0 := hX.frozen 1 rfl 0
        have z1 := hX.frozen 1 rfl 1
        have ble := hX.le 1 rfl
        simp only [cond_true, cond_false] at c0 c1
        have HX := hide hX
        have HBL := hide ble
        have HBB := hide hB
        have HLE := hide hle
        clear hX ble hB hle
        go_simp
        have ble := unhide HBL
        have f0 : ∀ o, (⟨q, o, none⟩ : Addr).block ≠ w.heap.size := fun o => by simp; omega
        have f1 : ∀ o, (⟨q, o, none⟩ : Addr).block ≠ w.heap.size + 1 := fun o => by simp; omega
        exact unhide hK _ _ ⟨true, true, true, true, true, true, true, true, true, true, u10, u11, u12, u13, u14, true, true, true, true, true, u20, p, q, r, rfl, rfl, ⟨(World.cell?_setCell_far _ _ _ _ (f0 _)).trans ((World.cell?_setCell_far _ _ _ _ (f0 _)).trans s0), (World.cell?_setCell_far _ _ _ _ (f0 _)).trans ((World.cell?_setCell_far _ _ _ _ (f0 _)).trans s1), (World.cell?_setCell_far _ _ _ _ (f0 _)).trans ((World.cell?_setCell_far _ _ _ _ (f0 _)).trans s2), (World.cell?_setCell_far _ _ _ _ (f0 _)).trans ((World.cell?_setCell_far _ _ _ _ (f0 _)).trans s3), (World.cell?_setCell_far _ _ _ _ (f1 _)).trans ((World.cell?_setCell_far _ _ _ _ (f1 _)).trans s4), (World.cell?_setCell_far _ _ _ _ (f1 _)).trans ((World.cell?_setCell_far _ _ _ _ (f1 _)).trans s5), (World.cell?_setCell_far _ _ _ _ (f1 _)).trans ((World.cell?_setCell_far _ _ _ _ (f1 _)).trans s6), (World.cell?_setCell_far _ _ _ _ (f1 _)).trans ((World.cell?_setCell_far _ _ _ _ (f1 _)).trans s7)⟩, Below.setCell (Below.setCell (unhide HBB) (show w.heap.size ≤ q by omega) _) (show w.heap.size ≤ q by omega) _, by simpa using unhide HLE, Boxes.put 1 (Boxes.put 1 (unhide HX) rfl 0 _) rfl 1 _, k0, (fun h => nomatch h), k2⟩
      · intro h0 hd K hK
        have z : u20 = false := h0
        have zd : u0 = true ∧ u1 = true ∧ u2 = true ∧ u3 = true ∧ u4 = true ∧ u5 = true ∧ u6 = true ∧ u7 = true ∧ u8 = true ∧ u9 = true ∧ u10 = true ∧ u11 = true ∧ u12 = true ∧ u13 = true ∧ u14 = true ∧ u15 = true ∧ u16 = true ∧ u17 = true ∧ u18 = true ∧ u19 = true := by
          simp [Region.binds] at hd
          simp [hd]
        obtain ⟨rfl, rfl, rfl, rfl, rfl, rfl, rfl, rfl, rfl, rfl, rfl, rfl, rfl, rfl, rfl, rfl, rfl, rfl, rfl, rfl⟩ := zd
        subst z
        clear h0 hd
        rw [if_pos (by rfl)]
        have c0 := hX.cell 2 rfl 0 rfl
        have c1 := hX.cell 2 rfl 1 rfl
        have z0 := hX.frozen 2 rfl 0
        have z1 := hX.frozen 2 rfl 1
        have ble := hX.le 2 rfl
        simp only [cond_true, cond_false] at c0 c1
        have HX := hide hX
        have HBL := hide ble
        have HBB := hide hB
        have HLE := hide hle
        clear hX ble hB hle
        go_simp
        have ble := unhide HBL
        have f0 : ∀ o, (⟨r, o, none⟩ : Addr).block ≠ w.heap.size := fun o => by simp; omega
        have f1 : ∀ o, (⟨r, o, none⟩ : Addr).block ≠ w.heap.size + 1 := fun o => by simp; omega
        exact unhide hK _ _ ⟨true, true, true, true, true, true, true, true, true, true, true, true, true, true, true, true, true, true, true, true, true, p, q, r, rfl, rfl, ⟨(World.cell?_setCell_far _ _ _ _ (f0 _)).trans ((World.cell?_setCell_far _ _ _ _ (f0 _)).trans s0), (World.cell?_setCell_far _ _ _ _ (f0 _)).trans ((World.cell?_setCell_far _ _ _ _ (f0 _)).trans s1), (World.cell?_setCell_far _ _ _ _ (f0 _)).trans ((World.cell?_setCell_far _ _ _ _ (f0 _)).trans s2), (World.cell?_setCell_far _ _ _ _ (f0 _)).trans ((World.cell?_setCell_far _ _ _ _ (f0 _)).trans s3), (World.cell?_setCell_far _ _ _ _ (f1 _)).trans ((World.cell?_setCell_far _ _ _ _ (f1 _)).trans s4), (World.cell?_setCell_far _ _ _ _ (f1 _)).trans ((World.cell?_setCell_far _ _ _ _ (f1 _)).trans s5), (World.cell?_setCell_far _ _ _ _ (f1 _)).trans ((World.cell?_setCell_far _ _ _ _ (f1 _)).trans s6), (World.cell?_setCell_far _ _ _ _ (f1 _)).trans ((World.cell?_setCell_far _ _ _ _ (f1 _)).trans s7)⟩, Below.setCell (Below.setCell (unhide HBB) (show w.heap.size ≤ r by omega) _) (show w.heap.size ≤ r by omega) _, by simpa using unhide HLE, Boxes.put 2 (Boxes.put 2 (unhide HX) rfl 0 _) rfl 1 _, k0, k1, (fun h => nomatch h)⟩
    case hend =>
      rintro L A W ⟨u0, u1, u2, u3, u4, u5, u6, u7, u8, u9, u10, u11, u12, u13, u14, u15, u16, u17, u18, u19, u20, p, q, r, rfl, rfl, ⟨s0, s1, s2, s3, s4, s5, s6, s7⟩, hB, hle, hX, k0, k1, k2⟩ hL
      have hl : u0 = true ∧ u1 = true ∧ u2 = true ∧ u3 = true ∧ u4 = true ∧ u5 = true ∧ u6 = true ∧ u7 = true ∧ u8 = true ∧ u9 = true ∧ u10 = true ∧ u11 = true ∧ u12 = true ∧ u13 = true ∧ u14 = true ∧ u15 = true ∧ u16 = true ∧ u17 = true ∧ u18 = true ∧ u19 = true ∧ u20 = true := by
        have h2 := congrArg Array.toList hL
        simpa [List.replicate] using h2
      obtain ⟨rfl, rfl, rfl, rfl, rfl, rfl, rfl, rfl, rfl, rfl, rfl, rfl, rfl, rfl, rfl, rfl, rfl, rfl, rfl, rfl, rfl⟩ := hl
      clear hL
      simp only [cond_true] at hX ⊢
      go_wp2_with fail
      go_meet
      case rel =>
        exact ⟨p, q, r, rfl, rfl, rfl, hX.cell 0 rfl 0 rfl, hX.cell 0 rfl 1 rfl, hX.cell 1 rfl 0 rfl, hX.cell 1 rfl 1 rfl, hX.cell 2 rfl 0 rfl, hX.cell 2 rfl 1 rfl, s0, s1, s2, s3, s4, s5, s6, s7, hB⟩
  case rest =>
    obtain ⟨p, q, r, rfl, rfl, rfl, x0, x1, x2, x3, x4, x5, x6, x7, x8, x9, x10, x11, x12, x13, hw⟩ := hcut
    have HX := hide hw
    clear hw q1 q2 q3 q4 q5 q6 ha hb hc hd
    go_wp2_with fail
    refine (unhide HW _).mono ?_
    rintro e W1 ⟨rfl, hq⟩
    have y0 := keep1 hq x0
    have y1 := keep1 hq x1
    have y2 := keep1 hq x2
    have y3 := keep1 hq x3
    have y4 := keep1 hq x4
    have y5 := keep1 hq x5
    have y6 := keep1 hq x6
    have y7 := keep1 hq x7
    have y8 := keep1 hq x8
    have y9 := keep1 hq x9
    have y10 := keep1 hq x10
    have y11 := keep1 hq x11
    have y12 := keep1 hq x12
    have y13 := keep1 hq x13
    have E1 := hide (bc (unhide HX) hq)
    clear hq HX HW x0 x1 x2 x3 x4 x5 x6 x7 x8 x9 x10 x11 x12 x13
    rcases unhide HD with ⟨n1, h67⟩ | ⟨n1, n2, rfl⟩ | ⟨n1, n2, n3, rfl⟩ | ⟨n1, n2, n3, n4, x, y, z, rfl, h68⟩
    · have H67 := hide h67
      clear h67 HD HT HU HV M
      go_wp2_with fail
      refine (unhide H67 _).mono ?_
      rintro e W2 ⟨⟨v, rfl, hv⟩, hq⟩
      have HQ := hide hq
      have HV := hide hv
      clear hq hv
      go_wp2_with fail
      go_ret
      exact ⟨⟨_, rfl, (unhide HV).mono (unhide E1).size⟩, bc (unhide E1) (unhide HQ)⟩
    · clear HD
      have M2 := unhide M
      obtain ⟨⟨m1, m2⟩, ⟨m3, m4⟩, m5, m6⟩ := M2
      clear y8 y9 y10 y11 y12 y13
      clear y6 y7
      clear M
      go_wp2_with fail
      refine (unhide HT _).mono ?_
      rintro e W2 ⟨rfl, rfl⟩
      go_wp2_with fail
      go_region_held3 (fun wx => wx.cell? ⟨p, 0, none⟩ = some (.int .i64 e1) ∧ wx.cell? ⟨p, 1, none⟩ = some (.int .i64 e2) ∧ wx.cell? ⟨q, 0, none⟩ = some (.int .i64 f1) ∧ wx.cell? ⟨q, 1, none⟩ = some (.int .i64 f2) ∧ wx.cell? ⟨r, 0, none⟩ = some (.int .i64 g1) ∧ wx.cell? ⟨r, 1, none⟩ = some (.int .i64 g2))
        (simp (maxDischargeDepth := 12) [go_sem, le1, lt1, *])
        (first
        | (go_at_call 66; (first | (with_reducible refine (unhide HU _).mono ?_) | (with_reducible refine (unhide HV _).mono ?_)); rintro e w' ⟨rfl, hq⟩; have EX := hide (show Below w.heap.size w w' from bc (by repeat (first | exact unhide E1 | refine ba ?_ _ | refine Below.drew ?_)) hq); clear E1; have E1 := EX; clear EX; have t0 := keep1 hq (b := p) (o := 0) (v := .int .i64 e1) (by simp (maxDischargeDepth := 12) [go_sem, le1, lt1, *]); have t1 := keep1 hq (b := p) (o := 1) (v := .int .i64 e2) (by simp (maxDischargeDepth := 12) [go_sem, le1, lt1, *]); have t2 := keep1 hq (b := q) (o := 0) (v := .int .i64 f1) (by simp (maxDischargeDepth := 12) [go_sem, le1, lt1, *]); have t3 := keep1 hq (b := q) (o := 1) (v := .int .i64 f2) (by simp (maxDischargeDepth := 12) [go_sem, le1, lt1, *]); have t4 := keep1 hq (b := r) (o := 0) (v := .int .i64 g1) (by simp (maxDischargeDepth := 12) [go_sem, le1, lt1, *]); have t5 := keep1 hq (b := r) (o := 1) (v := .int .i64 g2) (by simp (maxDischargeDepth := 12) [go_sem, le1, lt1, *]); clear hq))
      all_goals
        go_wp2_with fail
        refine (btw_any _ _ _ _).mono ?_
        rintro e w' ⟨rfl, rfl⟩
        rw [n2]
        go_wp2_with fail
        go_ret
        exact ⟨⟨_, rfl, .inl ⟨rfl, rfl⟩⟩, unhide E1⟩
    · clear HD
      have M2 := unhide M
      obtain ⟨⟨m1, m2⟩, ⟨m3, m4⟩, m5, m6⟩ := M2
      clear y8 y9 y10 y11 y12 y13
      clear y6 y7
      clear M
      go_wp2_with fail
      refine (unhide HT _).mono ?_
      rintro e W2 ⟨rfl, rfl⟩
      go_wp2_with fail
      go_region_held3 (fun wx => wx.cell? ⟨p, 0, none⟩ = some (.int .i64 e1) ∧ wx.cell? ⟨p, 1, none⟩ = some (.int .i64 e2) ∧ wx.cell? ⟨q, 0, none⟩ = some (.int .i64 f1) ∧ wx.cell? ⟨q, 1, none⟩ = some (.int .i64 f2) ∧ wx.cell? ⟨r, 0, none⟩ = some (.int .i64 g1) ∧ wx.cell? ⟨r, 1, none⟩ = some (.int .i64 g2))
        (simp (maxDischargeDepth := 12) [go_sem, le1, lt1, *])
        (first
        | (go_at_call 66; (first | (with_reducible refine (unhide HU _).mono ?_) | (with_reducible refine (unhide HV _).mono ?_)); rintro e w' ⟨rfl, hq⟩; have EX := hide (show Below w.heap.size w w' from bc (by repeat (first | exact unhide E1 | refine ba ?_ _ | refine Below.drew ?_)) hq); clear E1; have E1 := EX; clear EX; have t0 := keep1 hq (b := p) (o := 0) (v := .int .i64 e1) (by simp (maxDischargeDepth := 12) [go_sem, le1, lt1, *]); have t1 := keep1 hq (b := p) (o := 1) (v := .int .i64 e2) (by simp (maxDischargeDepth := 12) [go_sem, le1, lt1, *]); have t2 := keep1 hq (b := q) (o := 0) (v := .int .i64 f1) (by simp (maxDischargeDepth := 12) [go_sem, le1, lt1, *]); have t3 := keep1 hq (b := q) (o := 1) (v := .int .i64 f2) (by simp (maxDischargeDepth := 12) [go_sem, le1, lt1, *]); have t4 := keep1 hq (b := r) (o := 0) (v := .int .i64 g1) (by simp (maxDischargeDepth := 12) [go_sem, le1, lt1, *]); have t5 := keep1 hq (b := r) (o := 1) (v := .int .i64 g2) (by simp (maxDischargeDepth := 12) [go_sem, le1, lt1, *]); clear hq))
      all_goals
        go_wp2_with fail
        refine (btw_any _ _ _ _).mono ?_
        rintro e w' ⟨rfl, rfl⟩
        rw [n2]
        go_wp2_with fail
        refine (btw_any _ _ _ _).mono ?_
        rintro e w' ⟨rfl, rfl⟩
        rw [n3]
        go_wp2_with fail
        go_ret
        exact ⟨⟨_, rfl, .inl ⟨rfl, rfl⟩⟩, unhide E1⟩
    · clear HD
      have M2 := unhide M
      obtain ⟨⟨m1, m2⟩, ⟨m3, m4⟩, m5, m6⟩ := M2
      have N4 := hide n4
      have H68 := hide h68
      clear h68 n4
      clear y8 y9 y10 y11 y12 y13
      clear M
      go_wp2_with fail
      refine (unhide HT _).mono ?_
      rintro e W2 ⟨rfl, rfl⟩
      go_wp2_with fail
      go_region_held3 (fun wx => wx.cell? ⟨p, 0, none⟩ = some (.int .i64 e1) ∧ wx.cell? ⟨p, 1, none⟩ = some (.int .i64 e2) ∧ wx.cell? ⟨q, 0, none⟩ = some (.int .i64 f1) ∧ wx.cell? ⟨q, 1, none⟩ = some (.int .i64 f2) ∧ wx.cell? ⟨r, 0, none⟩ = some (.int .i64 g1) ∧ wx.cell? ⟨r, 1, none⟩ = some (.int .i64 g2))
        (simp (maxDischargeDepth := 12) [go_sem, le1, lt1, *])
        (first
        | (go_at_call 66; (first | (with_reducible refine (unhide HU _).mono ?_) | (with_reducible refine (unhide HV _).mono ?_)); rintro e w' ⟨rfl, hq⟩; have EX := hide (show Below w.heap.size w w' from bc (by repeat (first | exact unhide E1 | refine ba ?_ _ | refine Below.drew ?_)) hq); clear E1; have E1 := EX; clear EX; have t0 := keep1 hq (b := p) (o := 0) (v := .int .i64 e1) (by simp (maxDischargeDepth := 12) [go_sem, le1, lt1, *]); have t1 := keep1 hq (b := p) (o := 1) (v := .int .i64 e2) (by simp (maxDischargeDepth := 12) [go_sem, le1, lt1, *]); have t2 := keep1 hq (b := q) (o := 0) (v := .int .i64 f1) (by simp (maxDischargeDepth := 12) [go_sem, le1, lt1, *]); have t3 := keep1 hq (b := q) (o := 1) (v := .int .i64 f2) (by simp (maxDischargeDepth := 12) [go_sem, le1, lt1, *]); have t4 := keep1 hq (b := r) (o := 0) (v := .int .i64 g1) (by simp (maxDischargeDepth := 12) [go_sem, le1, lt1, *]); have t5 := keep1 hq (b := r) (o := 1) (v := .int .i64 g2) (by simp (maxDischargeDepth := 12) [go_sem, le1, lt1, *]); have t6 := keep1 hq (b := w.heap.size) (o := 0) (v := .int .i64 a1) (by simp (maxDischargeDepth := 12) [go_sem, le1, lt1, *]); have t7 := keep1 hq (b := w.heap.size) (o := 1) (v := .int .i64 a2) (by simp (maxDischargeDepth := 12) [go_sem, le1, lt1, *]); clear hq))
      all_goals
        go_wp2_with fail
        refine (btw_any _ _ _ _).mono ?_
        rintro e w' ⟨rfl, rfl⟩
        rw [n2]
        go_wp2_with fail
        refine (btw_any _ _ _ _).mono ?_
        rintro e w' ⟨rfl, rfl⟩
        rw [n3]
        have N5 := unhide N4
        obtain ⟨⟨l1, l2⟩, ⟨l3, l4⟩, ⟨l5, l6⟩, l7, l8⟩ := N5
        clear N4
        go_wp2_with fail
        refine (unhide H68 _).mono ?_
        rintro e W8 ⟨rfl, hq⟩
        have HQ := hide (bc (unhide E1) hq)
        clear hq
        go_wp2_with fail
        go_ret
        exact ⟨⟨_, rfl, .inr ⟨_, 1, rfl, (unhide HQ).size, blk_new _ _⟩⟩, ba (unhide HQ) _⟩

end Go.Proofs.Ytimkinpbimangaa
