/-
  FnCross's walk.
-/
import Derived.Test.YtmfgpipmkbkggaaCxa
import Derived.Deep.RegionHeld3
namespace Go.Proofs.Ytmfgpipmkbkggaa
open Go.ChangeShapes Go.WideShapes Go.ChangeAt Go.RowKit
set_option linter.unusedVariables false
set_option linter.unusedSimpArgs false

theorem turn_three {a b c : Pt} (ha : ptOk a = true) (hb : ptOk b = true) (hc : ptOk c = true) : turnS a b c = sgn (side a b c) ∧ turnC a b c = 0 := by
  unfold turnS turnC
  rw [if_pos (by simp [ha, hb, hc]), if_pos (by simp [ha, hb, hc])]
  exact ⟨rfl, rfl⟩
theorem cross_four {a b c d : Pt} (ha : ptOk a = true) (hb : ptOk b = true) (hc : ptOk c = true) (hd : ptOk d = true) : crossL a b c d = cross a b c d ∧ crossC a b c d = 0 := by
  unfold crossL crossC
  rw [if_pos (by simp [ha, hb, hc, hd]), if_pos (by simp [ha, hb, hc, hd])]
  exact ⟨rfl, rfl⟩

set_option maxHeartbeats 4000000 in
set_option maxRecDepth 100000 in
theorem fnCross_core (a0 : Option Addr) (len cap : Nat) (w : World) (hl : len ≤ 1048576)
    (HOF : Hid (∀ W, Below w.heap.size w W → Calls Try.prog 6 #[.slice a0 len cap] W fun e w' => ∃ (g c : Nat) (L : List Pt), e = .returned (.slice (some ⟨g, 0, none⟩) L.length c) ∧ 4 ≤ L.length ∧ L.length ≤ 100 ∧ (∀ p ∈ L, ptOk p = true) ∧ g < w'.heap.size ∧ IntsAt w' g 0 (flat2 L) ∧ Below W.heap.size W w')) :
    Calls Try.prog 3 #[.slice a0 len cap] w fun e w' => e = .returned (.bool true) ∧ Below w.heap.size w w' := by
  have hl1 : decide ((1048576 : Int) < (len : Int)) = false := decide_eq_false (by omega)
  go_enter Try.func3, Try.ntmps3
  go_wp2_with fail
  refine (unhide HOF _ (Below.refl _ _)).mono ?_
  rintro e W1 ⟨g, cc, L, rfl, h4, h100, hok, hg, hI, hb1⟩
  have pk : ∀ i, i < 4 → ∃ p : Pt, ptOk p = true ∧ W1.cell? ⟨g, i * 2, none⟩ = some (.int .i64 p.1) ∧ W1.cell? ⟨g, i * 2 + 1, none⟩ = some (.int .i64 p.2) := by
    intro i hi
    have hx := List.getElem?_eq_getElem (show i < L.length by omega)
    have hf := flat2_at hx
    have c0 := hI _ _ hf.1
    have c1 := hI _ _ hf.2
    rw [Nat.zero_add] at c0 c1
    exact ⟨_, hok _ (List.mem_of_getElem? hx), c0, c1⟩
  obtain ⟨⟨a1, a2⟩, ka, pa0, pa1⟩ := pk 0 (by omega)
  obtain ⟨⟨b1, b2⟩, kb, pb0, pb1⟩ := pk 1 (by omega)
  obtain ⟨⟨c1, c2⟩, kc, pc0, pc1⟩ := pk 2 (by omega)
  obtain ⟨⟨d1, d2⟩, kd, pd0, pd1⟩ := pk 3 (by omega)
  simp only [Nat.zero_mul, Nat.zero_add, Nat.one_mul] at pa0 pa1 pb0 pb1 pc0 pc1 pd0 pd1
  have e22 : 2 * 2 = 4 := rfl
  have e32 : 3 * 2 = 6 := rfl
  rw [e22] at pc0 pc1
  rw [e32] at pd0 pd1
  have n0 : (0 : Int) < (L.length : Int) := by omega
  have n1 : (1 : Int) < (L.length : Int) := by omega
  have n2 : (2 : Int) < (L.length : Int) := by omega
  have n3 : (3 : Int) < (L.length : Int) := by omega
  have HB1 := hide hb1
  have tP := fun (W : World) (p q r : Pt) (h1 : ptOk p = true) (h2 : ptOk q = true) (h3 : ptOk r = true) => (by have := turnP p q r W; rw [(turn_three h1 h2 h3).1, (turn_three h1 h2 h3).2] at this; exact this : Calls Try.prog 7 #[ptv p, ptv q, ptv r] W fun e w' => e = .returned (.tuple #[.int .i64 (sgn (side p q r)), .int .i64 0]) ∧ Below W.heap.size W w')
  have tM := fun (W : World) (p q r : Pt) (h1 : ptOk p = true) (h2 : ptOk q = true) (h3 : ptOk r = true) => (by have := turnM p q r W; rw [(turn_three h1 h2 h3).1, (turn_three h1 h2 h3).2] at this; exact this : Calls Try.prog 8 #[ptv p, ptv q, ptv r] W fun e w' => e = .returned (.tuple #[.int .i64 (sgn (side p q r)), .int .i64 0]) ∧ Below W.heap.size W w')
  have cP := fun (W : World) (p q r s : Pt) (h1 : ptOk p = true) (h2 : ptOk q = true) (h3 : ptOk r = true) (h4 : ptOk s = true) => (by have := implCross_any p q r s W; rw [(cross_four h1 h2 h3 h4).1, (cross_four h1 h2 h3 h4).2] at this; exact this : Calls Try.prog 9 #[ptv p, ptv q, ptv r, ptv s] W fun e w' => (∃ v, e = .returned (.tuple #[.int .i64 ((cross p q r s).length : Int), v, .int .i64 0]) ∧ IsSpots W.heap.size w' v (cross p q r s)) ∧ Below W.heap.size W w')
  have T1 := hide (fun W => tP W (a1, a2) (b1, b2) (c1, c2) ka kb kc)
  have T2 := hide (fun W => tP W (b1, b2) (a1, a2) (c1, c2) kb ka kc)
  have T3 := hide (fun W => tP W (b1, b2) (c1, c2) (a1, a2) kb kc ka)
  have T4 := hide (fun W => tM W (a1, a2) (b1, b2) (c1, c2) ka kb kc)
  have T5 := hide (fun W => tM W (a1, a2) (b1, b2) (d1, d2) ka kb kd)
  have T6 := hide (fun W => tM W (c1, c2) (d1, d2) (a1, a2) kc kd ka)
  have T7 := hide (fun W => tM W (c1, c2) (d1, d2) (b1, b2) kc kd kb)
  have C1 := hide (fun W => cP W (a1, a2) (b1, b2) (c1, c2) (d1, d2) ka kb kc kd)
  have C2 := hide (fun W => cP W (d1, d2) (c1, c2) (a1, a2) (b1, b2) kd kc ka kb)
  rw [cross_turn] at C2
  rw [turn_swap] at T2
  rw [turn_cyc] at T3
  have HG : Hid (∀ q ∈ cross (a1, a2) (b1, b2) (c1, c2) (d1, d2), good (a1, a2) (b1, b2) (c1, c2) (d1, d2) q ∧ q.2.2 ≤ 80000000000) := hide (fun q hq => ⟨cross_good _ _ _ _ q hq, cross_d ka kb kc kd q hq⟩)
  have HN := hide (cross_none (a1, a2) (b1, b2) (c1, c2) (d1, d2))
  have H2 := hide (cross_two (a1, a2) (b1, b2) (c1, c2) (d1, d2))
  have hlen := cross_len (a1, a2) (b1, b2) (c1, c2) (d1, d2)
  have bs := sgn_bd (side (a1, a2) (b1, b2) (c1, c2))
  have bx := sgn_bd (side (a1, a2) (b1, b2) (d1, d2))
  have bY := sgn_bd (side (c1, c2) (d1, d2) (a1, a2))
  have bz := sgn_bd (side (c1, c2) (d1, d2) (b1, b2))
  generalize cross (a1, a2) (b1, b2) (c1, c2) (d1, d2) = S at *
  generalize sgn (side (a1, a2) (b1, b2) (c1, c2)) = s at *
  generalize sgn (side (a1, a2) (b1, b2) (d1, d2)) = x at *
  generalize sgn (side (c1, c2) (d1, d2) (a1, a2)) = y at *
  generalize sgn (side (c1, c2) (d1, d2) (b1, b2)) = z at *
  have HKA := hide ka
  have HKB := hide kb
  have HKC := hide kc
  have HKD := hide kd
  have e1 : (s != - -s) = false := by simp
  have e2 : (s != s) = false := by simp
  have wn : IntKind.i64.wrap (-(-s)) = s := by rw [Int.neg_neg]; exact wrap_i (by omega) (by omega)
  clear pk tP tM cP hI hok ka kb kc kd hb1
  go_upto_region 7 with fail
  have va0 : (((W1.alloc (.cells #[.int .i64 a1, .int .i64 a2] 26)).alloc (.cells #[.int .i64 b1, .int .i64 b2] 26)).alloc (.cells #[.int .i64 c1, .int .i64 c2] 26)).cell? ⟨W1.heap.size, 0, none⟩ = some (.int .i64 a1) := by simp (maxDischargeDepth := 12) [go_sem, le1, lt1, *]
  have va1 : (((W1.alloc (.cells #[.int .i64 a1, .int .i64 a2] 26)).alloc (.cells #[.int .i64 b1, .int .i64 b2] 26)).alloc (.cells #[.int .i64 c1, .int .i64 c2] 26)).cell? ⟨W1.heap.size, 1, none⟩ = some (.int .i64 a2) := by simp (maxDischargeDepth := 12) [go_sem, le1, lt1, *]
  have vb0 : (((W1.alloc (.cells #[.int .i64 a1, .int .i64 a2] 26)).alloc (.cells #[.int .i64 b1, .int .i64 b2] 26)).alloc (.cells #[.int .i64 c1, .int .i64 c2] 26)).cell? ⟨W1.heap.size + 1, 0, none⟩ = some (.int .i64 b1) := by simp (maxDischargeDepth := 12) [go_sem, le1, lt1, *]
  have vb1 : (((W1.alloc (.cells #[.int .i64 a1, .int .i64 a2] 26)).alloc (.cells #[.int .i64 b1, .int .i64 b2] 26)).alloc (.cells #[.int .i64 c1, .int .i64 c2] 26)).cell? ⟨W1.heap.size + 1, 1, none⟩ = some (.int .i64 b2) := by simp (maxDischargeDepth := 12) [go_sem, le1, lt1, *]
  have vc0 : (((W1.alloc (.cells #[.int .i64 a1, .int .i64 a2] 26)).alloc (.cells #[.int .i64 b1, .int .i64 b2] 26)).alloc (.cells #[.int .i64 c1, .int .i64 c2] 26)).cell? ⟨W1.heap.size + 1 + 1, 0, none⟩ = some (.int .i64 c1) := by simp (maxDischargeDepth := 12) [go_sem, le1, lt1, *]
  have vc1 : (((W1.alloc (.cells #[.int .i64 a1, .int .i64 a2] 26)).alloc (.cells #[.int .i64 b1, .int .i64 b2] 26)).alloc (.cells #[.int .i64 c1, .int .i64 c2] 26)).cell? ⟨W1.heap.size + 1 + 1, 1, none⟩ = some (.int .i64 c2) := by simp (maxDischargeDepth := 12) [go_sem, le1, lt1, *]
  have vd0 : (((W1.alloc (.cells #[.int .i64 a1, .int .i64 a2] 26)).alloc (.cells #[.int .i64 b1, .int .i64 b2] 26)).alloc (.cells #[.int .i64 c1, .int .i64 c2] 26)).cell? ⟨g, 6, none⟩ = some (.int .i64 d1) := ka (ka (ka pd0))
  have vd1 : (((W1.alloc (.cells #[.int .i64 a1, .int .i64 a2] 26)).alloc (.cells #[.int .i64 b1, .int .i64 b2] 26)).alloc (.cells #[.int .i64 c1, .int .i64 c2] 26)).cell? ⟨g, 6 + 1, none⟩ = some (.int .i64 d2) := ka (ka (ka pd1))
  have HBV : Hid (Below w.heap.size w (((W1.alloc (.cells #[.int .i64 a1, .int .i64 a2] 26)).alloc (.cells #[.int .i64 b1, .int .i64 b2] 26)).alloc (.cells #[.int .i64 c1, .int .i64 c2] 26))) := hide (ba (ba (ba (unhide HB1) _) _) _)
  have hVs : (((W1.alloc (.cells #[.int .i64 a1, .int .i64 a2] 26)).alloc (.cells #[.int .i64 b1, .int .i64 b2] 26)).alloc (.cells #[.int .i64 c1, .int .i64 c2] 26)).heap.size = W1.heap.size + 1 + 1 + 1 := by simp
  generalize ((W1.alloc (.cells #[.int .i64 a1, .int .i64 a2] 26)).alloc (.cells #[.int .i64 b1, .int .i64 b2] 26)).alloc (.cells #[.int .i64 c1, .int .i64 c2] 26) = V at *
  clear pa0 pa1 pb0 pb1 pc0 pc1 pd0 pd1
  have lva := cell_lt va0
  have lvb := cell_lt vb0
  have lvc := cell_lt vc0
  have lvd := cell_lt vd0
  go_wp2_with fail
  refine (unhide T1 _).mono ?_
  rintro e W2 ⟨rfl, hb⟩
  have W2a0 : W2.cell? ⟨W1.heap.size, 0, none⟩ = some (.int .i64 a1) := keep1 hb (ka va0)
  have W2a1 : W2.cell? ⟨W1.heap.size, 1, none⟩ = some (.int .i64 a2) := keep1 hb (ka va1)
  have W2b0 : W2.cell? ⟨W1.heap.size + 1, 0, none⟩ = some (.int .i64 b1) := keep1 hb (ka vb0)
  have W2b1 : W2.cell? ⟨W1.heap.size + 1, 1, none⟩ = some (.int .i64 b2) := keep1 hb (ka vb1)
  have W2c0 : W2.cell? ⟨W1.heap.size + 1 + 1, 0, none⟩ = some (.int .i64 c1) := keep1 hb (ka vc0)
  have W2c1 : W2.cell? ⟨W1.heap.size + 1 + 1, 1, none⟩ = some (.int .i64 c2) := keep1 hb (ka vc1)
  have W2d0 : W2.cell? ⟨W1.heap.size + 1 + 1 + 1, 0, none⟩ = some (.int .i64 d1) := keep1 hb (by simp [go_sem, hVs])
  have W2d1 : W2.cell? ⟨W1.heap.size + 1 + 1 + 1, 1, none⟩ = some (.int .i64 d2) := keep1 hb (by simp [go_sem, hVs])
  have HBW2 : Hid (Below w.heap.size w W2) := hide (bc (ba (unhide HBV) _) hb)
  have lW2a := cell_lt W2a0
  have lW2b := cell_lt W2b0
  have lW2c := cell_lt W2c0
  have lW2d := cell_lt W2d0
  clear hb
  clear va0 va1 vb0 vb1 vc0 vc1 vd0 vd1 hVs lva lvb lvc lvd HBV
  go_wp2_with fail
  refine (unhide T2 _).mono ?_
  rintro e W3 ⟨rfl, hb⟩
  have W3a0 := keep1 hb W2a0
  have W3a1 := keep1 hb W2a1
  have W3b0 := keep1 hb W2b0
  have W3b1 := keep1 hb W2b1
  have W3c0 := keep1 hb W2c0
  have W3c1 := keep1 hb W2c1
  have W3d0 := keep1 hb W2d0
  have W3d1 := keep1 hb W2d1
  have HBW3 : Hid (Below w.heap.size w W3) := hide (bc (unhide HBW2) hb)
  clear W2a0 W2a1 W2b0 W2b1 W2c0 W2c1 W2d0 W2d1
  have lW3a := cell_lt W3a0
  have lW3b := cell_lt W3b0
  have lW3c := cell_lt W3c0
  have lW3d := cell_lt W3d0
  clear hb
  go_wp2_with fail
  refine (unhide T3 _).mono ?_
  rintro e W4 ⟨rfl, hb⟩
  have W4a0 := keep1 hb W3a0
  have W4a1 := keep1 hb W3a1
  have W4b0 := keep1 hb W3b0
  have W4b1 := keep1 hb W3b1
  have W4c0 := keep1 hb W3c0
  have W4c1 := keep1 hb W3c1
  have W4d0 := keep1 hb W3d0
  have W4d1 := keep1 hb W3d1
  have HBW4 : Hid (Below w.heap.size w W4) := hide (bc (unhide HBW3) hb)
  clear W3a0 W3a1 W3b0 W3b1 W3c0 W3c1 W3d0 W3d1
  have lW4a := cell_lt W4a0
  have lW4b := cell_lt W4b0
  have lW4c := cell_lt W4c0
  have lW4d := cell_lt W4d0
  clear hb
  go_wp2_with fail
  refine (unhide T4 _).mono ?_
  rintro e W5 ⟨rfl, hb⟩
  have W5a0 := keep1 hb W4a0
  have W5a1 := keep1 hb W4a1
  have W5b0 := keep1 hb W4b0
  have W5b1 := keep1 hb W4b1
  have W5c0 := keep1 hb W4c0
  have W5c1 := keep1 hb W4c1
  have W5d0 := keep1 hb W4d0
  have W5d1 := keep1 hb W4d1
  have HBW5 : Hid (Below w.heap.size w W5) := hide (bc (unhide HBW4) hb)
  clear W4a0 W4a1 W4b0 W4b1 W4c0 W4c1 W4d0 W4d1
  have lW5a := cell_lt W5a0
  have lW5b := cell_lt W5b0
  have lW5c := cell_lt W5c0
  have lW5d := cell_lt W5d0
  clear hb
  go_wp2_with fail
  refine (unhide C1 _).mono ?_
  rintro e W6 ⟨⟨v1, rfl, hsp1⟩, hb⟩
  have W6a0 := keep1 hb W5a0
  have W6a1 := keep1 hb W5a1
  have W6b0 := keep1 hb W5b0
  have W6b1 := keep1 hb W5b1
  have W6c0 := keep1 hb W5c0
  have W6c1 := keep1 hb W5c1
  have W6d0 := keep1 hb W5d0
  have W6d1 := keep1 hb W5d1
  have HBW6 : Hid (Below w.heap.size w W6) := hide (bc (unhide HBW5) hb)
  clear W5a0 W5a1 W5b0 W5b1 W5c0 W5c1 W5d0 W5d1
  have lW6a := cell_lt W6a0
  have lW6b := cell_lt W6b0
  have lW6c := cell_lt W6c0
  have lW6d := cell_lt W6d0
  clear hb
  obtain ⟨pu1, g1, k1, rfl, hg1, hS1⟩ := hsp1.out
  have HS1 := hide hS1
  clear hsp1 hS1
  go_wp2_with fail
  refine (unhide C2 _).mono ?_
  rintro e W7 ⟨⟨v2, rfl, hsp2⟩, hb⟩
  have W7a0 := keep1 hb W6a0
  have W7a1 := keep1 hb W6a1
  have W7b0 := keep1 hb W6b0
  have W7b1 := keep1 hb W6b1
  have W7c0 := keep1 hb W6c0
  have W7c1 := keep1 hb W6c1
  have W7d0 := keep1 hb W6d0
  have W7d1 := keep1 hb W6d1
  have HBW7 : Hid (Below w.heap.size w W7) := hide (bc (unhide HBW6) hb)
  clear W6a0 W6a1 W6b0 W6b1 W6c0 W6c1 W6d0 W6d1
  have lW7a := cell_lt W7a0
  have lW7b := cell_lt W7b0
  have lW7c := cell_lt W7c0
  have lW7d := cell_lt W7d0
  have HS1b : Hid (S.length ≠ 0 → pu1 = some ⟨g1, 0, none⟩ ∧ iblk W7 g1 33 (flatS S)) := hide (fun h0 => ⟨(unhide HS1 h0).1, (unhide HS1 h0).2.bel hb⟩)
  clear hb
  obtain ⟨pu2, g2, k2, rfl, hg2, hS2⟩ := hsp2.out
  have HS2 := hide hS2
  clear hsp2 hS2 HS1
  have e3 : ((S.length : Int) != (S.length : Int)) = false := by simp
  go_wp2_with fail
  go_loopw [22] (fun q W => ∃ i : Nat, q = .int .i64 (i : Int) ∧ i ≤ S.length ∧ Below W7.heap.size W7 W) (fun q _ => S.length - (intOf q).toNat)
  case atStart => exact ⟨0, rfl, by omega, Below.refl _ _⟩
  case round =>
    obtain ⟨i, rfl, hi, hw⟩ := hrel
    have Xa0 := keep1 hw W7a0
    have Xa1 := keep1 hw W7a1
    have Xb0 := keep1 hw W7b0
    have Xb1 := keep1 hw W7b1
    have Xc0 := keep1 hw W7c0
    have Xc1 := keep1 hw W7c1
    have Xd0 := keep1 hw W7d0
    have Xd1 := keep1 hw W7d1
    have HW := hide hw
    have lXa := cell_lt Xa0
    have lXb := cell_lt Xb0
    have lXc := cell_lt Xc0
    have lXd := cell_lt Xd0
    have HX1 : Hid (S.length ≠ 0 → pu1 = some ⟨g1, 0, none⟩ ∧ iblk wr g1 33 (flatS S)) := hide (fun h0 => ⟨(unhide HS1b h0).1, (unhide HS1b h0).2.bel hw⟩)
    have HX2 : Hid (S.length ≠ 0 → pu2 = some ⟨g2, 0, none⟩ ∧ iblk wr g2 33 (flatS S)) := hide (fun h0 => ⟨(unhide HS2 h0).1, (unhide HS2 h0).2.bel hw⟩)
    clear hw
    clear W7a0 W7a1 W7b0 W7b1 W7c0 W7c1 W7d0 W7d1
    by_cases h : i < S.length
    · have iz : decide ((i : Int) < (S.length : Int)) = true := decide_eq_true (by omega)
      have i1 : (i : Int) < (S.length : Int) := by omega
      have i0 : (0 : Int) ≤ (i : Int) := by omega
      obtain ⟨qx, qy, qd, hq⟩ : ∃ qx qy qd : Int, S[i]? = some (qx, qy, qd) := ⟨_, _, _, List.getElem?_eq_getElem h⟩
      obtain ⟨⟨hd1, ho1, ho2, hb1', hb2'⟩, hd2⟩ := unhide HG _ (List.mem_of_getElem? hq)
      obtain ⟨f0, f1, f2⟩ := flatS_at hq
      obtain ⟨hpu1, hk1⟩ := unhide HX1 (by omega)
      obtain ⟨hpu2, hk2⟩ := unhide HX2 (by omega)
      subst hpu1 hpu2
      have m10 := hk1.cell f0
      have m11 := hk1.cell f1
      have m12 := hk1.cell f2
      have lg1 := cell_lt m10
      have m20 := hk2.cell f0
      have m21 := hk2.cell f1
      have m22 := hk2.cell f2
      have lg2 := cell_lt m20
      simp only at hd1 hd2 m10 m11 m12 m20 m21 m22
      have dd : decide (qd < 1) = false := decide_eq_false (by omega)
      have O1 := hide (fun W => onLine_any (a1, a2) (b1, b2) (qx, qy, qd) W (unhide HKA) (unhide HKB) ⟨hd1, hd2⟩ ho1 hb1')
      have O2 := hide (fun W => onLine_any (c1, c2) (d1, d2) (qx, qy, qd) W (unhide HKC) (unhide HKD) ⟨hd1, hd2⟩ ho2 hb2')
      have O3 := hide (fun W => between_any (a1, a2) (b1, b2) (qx, qy, qd) W (unhide HKA) (unhide HKB) ⟨hd1, hd2⟩ hb1')
      have O4 := hide (fun W => between_any (c1, c2) (d1, d2) (qx, qy, qd) W (unhide HKC) (unhide HKD) ⟨hd1, hd2⟩ hb2')
      clear hk1 hk2 f0 f1 f2 ho1 ho2 hb1' hb2' hq
      go_wp2_with fail
      have hZ : ∃ Z, Z = wr.heap.size := ⟨_, rfl⟩
      obtain ⟨Z, hZ⟩ := hZ
      have va0 : (wr.alloc (.cells #[.int .i64 qx, .int .i64 qy, .int .i64 qd] 33)).cell? ⟨W1.heap.size, 0, none⟩ = some (.int .i64 a1) := ka Xa0
      have va1 : (wr.alloc (.cells #[.int .i64 qx, .int .i64 qy, .int .i64 qd] 33)).cell? ⟨W1.heap.size, 1, none⟩ = some (.int .i64 a2) := ka Xa1
      have vb0 : (wr.alloc (.cells #[.int .i64 qx, .int .i64 qy, .int .i64 qd] 33)).cell? ⟨W1.heap.size + 1, 0, none⟩ = some (.int .i64 b1) := ka Xb0
      have vb1 : (wr.alloc (.cells #[.int .i64 qx, .int .i64 qy, .int .i64 qd] 33)).cell? ⟨W1.heap.size + 1, 1, none⟩ = some (.int .i64 b2) := ka Xb1
      have vc0 : (wr.alloc (.cells #[.int .i64 qx, .int .i64 qy, .int .i64 qd] 33)).cell? ⟨W1.heap.size + 1 + 1, 0, none⟩ = some (.int .i64 c1) := ka Xc0
      have vc1 : (wr.alloc (.cells #[.int .i64 qx, .int .i64 qy, .int .i64 qd] 33)).cell? ⟨W1.heap.size + 1 + 1, 1, none⟩ = some (.int .i64 c2) := ka Xc1
      have vd0 : (wr.alloc (.cells #[.int .i64 qx, .int .i64 qy, .int .i64 qd] 33)).cell? ⟨W1.heap.size + 1 + 1 + 1, 0, none⟩ = some (.int .i64 d1) := ka Xd0
      have vd1 : (wr.alloc (.cells #[.int .i64 qx, .int .i64 qy, .int .i64 qd] 33)).cell? ⟨W1.heap.size + 1 + 1 + 1, 1, none⟩ = some (.int .i64 d2) := ka Xd1
      have vq0 : (wr.alloc (.cells #[.int .i64 qx, .int .i64 qy, .int .i64 qd] 33)).cell? ⟨Z, 0, none⟩ = some (.int .i64 qx) := by rw [hZ]; simp [go_sem]
      have vq1 : (wr.alloc (.cells #[.int .i64 qx, .int .i64 qy, .int .i64 qd] 33)).cell? ⟨Z, 1, none⟩ = some (.int .i64 qy) := by rw [hZ]; simp [go_sem]
      have vq2 : (wr.alloc (.cells #[.int .i64 qx, .int .i64 qy, .int .i64 qd] 33)).cell? ⟨Z, 2, none⟩ = some (.int .i64 qd) := by rw [hZ]; simp [go_sem]
      have vm0 : (wr.alloc (.cells #[.int .i64 qx, .int .i64 qy, .int .i64 qd] 33)).cell? ⟨g2, i * 3, none⟩ = some (.int .i64 qx) := ka m20
      have vm1 : (wr.alloc (.cells #[.int .i64 qx, .int .i64 qy, .int .i64 qd] 33)).cell? ⟨g2, i * 3 + 1, none⟩ = some (.int .i64 qy) := ka m21
      have vm2 : (wr.alloc (.cells #[.int .i64 qx, .int .i64 qy, .int .i64 qd] 33)).cell? ⟨g2, i * 3 + 2, none⟩ = some (.int .i64 qd) := ka m22
      have HBV : Hid (Below W7.heap.size W7 (wr.alloc (.cells #[.int .i64 qx, .int .i64 qy, .int .i64 qd] 33))) := hide (ba (unhide HW) _)
      rw [← hZ] at *
      clear Xa0 Xa1 Xb0 Xb1 Xc0 Xc1 Xd0 Xd1 m10 m11 m12 m20 m21 m22 lg1 lg2 lXa lXb lXc lXd
      generalize wr.alloc (.cells #[.int .i64 qx, .int .i64 qy, .int .i64 qd] 33) = V2 at *
      go_region_held3 (fun wx => wx.cell? ⟨W1.heap.size, 0, none⟩ = some (.int .i64 a1) ∧ wx.cell? ⟨W1.heap.size, 1, none⟩ = some (.int .i64 a2) ∧ wx.cell? ⟨W1.heap.size + 1, 0, none⟩ = some (.int .i64 b1) ∧ wx.cell? ⟨W1.heap.size + 1, 1, none⟩ = some (.int .i64 b2) ∧ wx.cell? ⟨W1.heap.size + 1 + 1, 0, none⟩ = some (.int .i64 c1) ∧ wx.cell? ⟨W1.heap.size + 1 + 1, 1, none⟩ = some (.int .i64 c2) ∧ wx.cell? ⟨W1.heap.size + 1 + 1 + 1, 0, none⟩ = some (.int .i64 d1) ∧ wx.cell? ⟨W1.heap.size + 1 + 1 + 1, 1, none⟩ = some (.int .i64 d2) ∧ wx.cell? ⟨Z, 0, none⟩ = some (.int .i64 qx) ∧ wx.cell? ⟨Z, 1, none⟩ = some (.int .i64 qy) ∧ wx.cell? ⟨Z, 2, none⟩ = some (.int .i64 qd) ∧ wx.cell? ⟨g2, i * 3, none⟩ = some (.int .i64 qx) ∧ wx.cell? ⟨g2, i * 3 + 1, none⟩ = some (.int .i64 qy) ∧ wx.cell? ⟨g2, i * 3 + 2, none⟩ = some (.int .i64 qd))
        (simp (maxDischargeDepth := 12) [go_sem, le1, lt1, *])
        (first
        | (go_at_call 10; with_reducible refine (unhide O1 _).mono ?_; rintro e WA ⟨rfl, hbWA⟩; have HBWA : Hid (Below V2.heap.size V2 WA) := hide (by first | exact hbWA | exact bc (Below.drew (Below.refl _ _)) hbWA); have WAa0 := keep1 (unhide HBWA) va0; have WAa1 := keep1 (unhide HBWA) va1; have WAb0 := keep1 (unhide HBWA) vb0; have WAb1 := keep1 (unhide HBWA) vb1; have WAc0 := keep1 (unhide HBWA) vc0; have WAc1 := keep1 (unhide HBWA) vc1; have WAd0 := keep1 (unhide HBWA) vd0; have WAd1 := keep1 (unhide HBWA) vd1; have WAq0 := keep1 (unhide HBWA) vq0; have WAq1 := keep1 (unhide HBWA) vq1; have WAq2 := keep1 (unhide HBWA) vq2; have WAm0 := keep1 (unhide HBWA) vm0; have WAm1 := keep1 (unhide HBWA) vm1; have WAm2 := keep1 (unhide HBWA) vm2; clear hbWA O1)
        | (go_at_call 10; with_reducible refine (unhide O2 _).mono ?_; rintro e WB ⟨rfl, hbWB⟩; have HBWB : Hid (Below WA.heap.size WA WB) := hide (by first | exact hbWB | exact bc (Below.drew (Below.refl _ _)) hbWB); have WBa0 := keep1 (unhide HBWB) WAa0; have WBa1 := keep1 (unhide HBWB) WAa1; have WBb0 := keep1 (unhide HBWB) WAb0; have WBb1 := keep1 (unhide HBWB) WAb1; have WBc0 := keep1 (unhide HBWB) WAc0; have WBc1 := keep1 (unhide HBWB) WAc1; have WBd0 := keep1 (unhide HBWB) WAd0; have WBd1 := keep1 (unhide HBWB) WAd1; have WBq0 := keep1 (unhide HBWB) WAq0; have WBq1 := keep1 (unhide HBWB) WAq1; have WBq2 := keep1 (unhide HBWB) WAq2; have WBm0 := keep1 (unhide HBWB) WAm0; have WBm1 := keep1 (unhide HBWB) WAm1; have WBm2 := keep1 (unhide HBWB) WAm2; clear hbWB O2)
        | (go_at_call 11; with_reducible refine (unhide O3 _).mono ?_; rintro e WC ⟨rfl, hbWC⟩; have HBWC : Hid (Below WB.heap.size WB WC) := hide (by first | exact hbWC | exact bc (Below.drew (Below.refl _ _)) hbWC); have WCa0 := keep1 (unhide HBWC) WBa0; have WCa1 := keep1 (unhide HBWC) WBa1; have WCb0 := keep1 (unhide HBWC) WBb0; have WCb1 := keep1 (unhide HBWC) WBb1; have WCc0 := keep1 (unhide HBWC) WBc0; have WCc1 := keep1 (unhide HBWC) WBc1; have WCd0 := keep1 (unhide HBWC) WBd0; have WCd1 := keep1 (unhide HBWC) WBd1; have WCq0 := keep1 (unhide HBWC) WBq0; have WCq1 := keep1 (unhide HBWC) WBq1; have WCq2 := keep1 (unhide HBWC) WBq2; have WCm0 := keep1 (unhide HBWC) WBm0; have WCm1 := keep1 (unhide HBWC) WBm1; have WCm2 := keep1 (unhide HBWC) WBm2; clear hbWC O3)
        | (go_at_call 11; with_reducible refine (unhide O4 _).mono ?_; rintro e WD ⟨rfl, hbWD⟩; have HBWD : Hid (Below WC.heap.size WC WD) := hide (by first | exact hbWD | exact bc (Below.drew (Below.refl _ _)) hbWD); have WDa0 := keep1 (unhide HBWD) WCa0; have WDa1 := keep1 (unhide HBWD) WCa1; have WDb0 := keep1 (unhide HBWD) WCb0; have WDb1 := keep1 (unhide HBWD) WCb1; have WDc0 := keep1 (unhide HBWD) WCc0; have WDc1 := keep1 (unhide HBWD) WCc1; have WDd0 := keep1 (unhide HBWD) WCd0; have WDd1 := keep1 (unhide HBWD) WCd1; have WDq0 := keep1 (unhide HBWD) WCq0; have WDq1 := keep1 (unhide HBWD) WCq1; have WDq2 := keep1 (unhide HBWD) WCq2; have WDm0 := keep1 (unhide HBWD) WCm0; have WDm1 := keep1 (unhide HBWD) WCm1; have WDm2 := keep1 (unhide HBWD) WCm2; clear hbWD O4))
      all_goals
        go_wp2_with fail
        go_roundw
        case rel => first | exact ⟨i + 1, by simp, by omega, bc (unhide HBV) (bc (unhide HBWA) (bc (unhide HBWB) (bc (unhide HBWC) (unhide HBWD))))⟩ | ((repeat apply Exists.intro); refine ⟨?_, rfl⟩; exact ⟨i + 1, by simp, by omega, bc (unhide HBV) (bc (unhide HBWA) (bc (unhide HBWB) (bc (unhide HBWC) (unhide HBWD))))⟩)
        case measure => simp only [intOf]; omega
    · have iz : decide ((i : Int) < (S.length : Int)) = false := decide_eq_false (by omega)
      have HBr : Hid (Below w.heap.size w wr) := hide (bc (unhide HBW7) (unhide HW))
      go_wp2_with fail
      refine (unhide T5 _).mono ?_
      rintro e Y1 ⟨rfl, hb⟩
      have Y1a0 := keep1 hb Xa0
      have Y1a1 := keep1 hb Xa1
      have Y1b0 := keep1 hb Xb0
      have Y1b1 := keep1 hb Xb1
      have Y1c0 := keep1 hb Xc0
      have Y1c1 := keep1 hb Xc1
      have Y1d0 := keep1 hb Xd0
      have Y1d1 := keep1 hb Xd1
      have HBY1 : Hid (Below w.heap.size w Y1) := hide (bc (unhide HBr) hb)
      clear Xa0 Xa1 Xb0 Xb1 Xc0 Xc1 Xd0 Xd1
      have lY1a := cell_lt Y1a0
      have lY1b := cell_lt Y1b0
      have lY1c := cell_lt Y1c0
      have lY1d := cell_lt Y1d0
      clear hb
      go_wp2_with fail
      refine (unhide T6 _).mono ?_
      rintro e Y2 ⟨rfl, hb⟩
      have Y2a0 := keep1 hb Y1a0
      have Y2a1 := keep1 hb Y1a1
      have Y2b0 := keep1 hb Y1b0
      have Y2b1 := keep1 hb Y1b1
      have Y2c0 := keep1 hb Y1c0
      have Y2c1 := keep1 hb Y1c1
      have Y2d0 := keep1 hb Y1d0
      have Y2d1 := keep1 hb Y1d1
      have HBY2 : Hid (Below w.heap.size w Y2) := hide (bc (unhide HBY1) hb)
      clear Y1a0 Y1a1 Y1b0 Y1b1 Y1c0 Y1c1 Y1d0 Y1d1
      have lY2a := cell_lt Y2a0
      have lY2b := cell_lt Y2b0
      have lY2c := cell_lt Y2c0
      have lY2d := cell_lt Y2d0
      clear hb
      go_wp2_with fail
      refine (unhide T7 _).mono ?_
      rintro e Y3 ⟨rfl, hb⟩
      have Y3a0 := keep1 hb Y2a0
      have Y3a1 := keep1 hb Y2a1
      have Y3b0 := keep1 hb Y2b0
      have Y3b1 := keep1 hb Y2b1
      have Y3c0 := keep1 hb Y2c0
      have Y3c1 := keep1 hb Y2c1
      have Y3d0 := keep1 hb Y2d0
      have Y3d1 := keep1 hb Y2d1
      have HBY3 : Hid (Below w.heap.size w Y3) := hide (bc (unhide HBY2) hb)
      clear Y2a0 Y2a1 Y2b0 Y2b1 Y2c0 Y2c1 Y2d0 Y2d1
      have lY3a := cell_lt Y3a0
      have lY3b := cell_lt Y3b0
      have lY3c := cell_lt Y3c0
      have lY3d := cell_lt Y3d0
      clear hb
      have wm1 : IntKind.i64.wrap (s * x) = s * x := by
        have := mul_bd s x 1 1 bs.1 bs.2 bx.1 bx.2
        exact wrap_i (by omega) (by omega)
      have wm2 : IntKind.i64.wrap (y * z) = y * z := by
        have := mul_bd y z 1 1 bY.1 bY.2 bz.1 bz.2
        exact wrap_i (by omega) (by omega)
      have hN := unhide HN
      have h2 := unhide H2
      by_cases s0 : S.length = 0
      · have q0 : ((S.length : Int) == 0) = true := by rw [beq_iff_eq]; omega
        have q1 : decide ((S.length : Int) < 2) = true := decide_eq_true (by omega)
        by_cases h1 : s * x ≤ 0
        · have d1 : decide (s * x ≤ 0) = true := decide_eq_true h1
          by_cases h3 : y * z ≤ 0
          · have d2 : decide (y * z ≤ 0) = true := decide_eq_true h3
            obtain ⟨rfl, rfl⟩ := hN s0 h1 h3
            clear hN h2 HN H2
            go_wp2_with fail
            go_ret
            exact ⟨rfl, unhide HBY3⟩
          · have d2 : decide (y * z ≤ 0) = false := decide_eq_false h3
            clear hN h2 HN H2
            go_wp2_with fail
            go_ret
            exact ⟨rfl, unhide HBY3⟩
        · have d1 : decide (s * x ≤ 0) = false := decide_eq_false h1
          clear hN h2 HN H2
          go_wp2_with fail
          go_ret
          exact ⟨rfl, unhide HBY3⟩
      · have q0 : ((S.length : Int) == 0) = false := by rw [beq_eq_false_iff_ne]; omega
        by_cases h3 : S.length < 2
        · have q1 : decide ((S.length : Int) < 2) = true := decide_eq_true (by omega)
          clear hN h2 HN H2
          go_wp2_with fail
          go_ret
          exact ⟨rfl, unhide HBY3⟩
        · have q1 : decide ((S.length : Int) < 2) = false := decide_eq_false (by omega)
          obtain ⟨rfl, rfl⟩ := h2 (by omega)
          clear hN h2 HN H2
          go_wp2_with fail
          go_ret
          exact ⟨rfl, unhide HBY3⟩
end Go.Proofs.Ytmfgpipmkbkggaa
