/-
  The program's code of a way.
-/
import Derived.Test.YtbjljofgpbecbaaSml
namespace Go.Proofs.Ytbjljofgpbecbaa
open Go.ChangeShapes Go.WideShapes Go.ChangeAt Go.RowKit
set_option linter.unusedVariables false
set_option linter.unusedSimpArgs false

/-- how many of the first coordinates are others -/
def chgT (fx fy fz tx ty tz : Int) : Nat → Int
  | 0 => 0
  | 1 => if fx = tx then 0 else 1
  | 2 => (if fx = tx then 0 else 1) + (if fy = ty then 0 else 1)
  | _ => chg fx fy fz tx ty tz
theorem chgT_le (fx fy fz tx ty tz : Int) (i : Nat) : 0 ≤ chgT fx fy fz tx ty tz i ∧ chgT fx fy fz tx ty tz i ≤ 3 := by
  unfold chgT
  split
  · omega
  · split <;> omega
  · repeat' split
    all_goals omega
  · unfold chg
    repeat' split
    all_goals omega
set_option maxHeartbeats 4000000 in
set_option maxRecDepth 100000 in
theorem wyP_any (W H : Nat) (u : Option Addr) (n c : Nat) (fx fy fz tx ty tz : Int) (w : World) (hW1 : 1 ≤ W) (hW : W ≤ 24) (hH1 : 1 ≤ H) (hH : H ≤ 24) :
    Calls Try.prog 42 #[fldV (W : Int) (H : Int) u n c, plV fx fy fz, plV tx ty tz] w fun e w' => e = .returned (.int .i64 (wyC W H fx fy fz tx ty tz)) ∧ Below w.heap.size w w' := by
  have HB := hide (ba (ba (ba (Below.refl w.heap.size w) (.cells #[.int .i64 (W : Int), .int .i64 (H : Int), .slice u n c] 25)) (.cells #[.int .i64 fx, .int .i64 fy, .int .i64 fz] 68)) (.cells #[.int .i64 tx, .int .i64 ty, .int .i64 tz] 68))
  have w1 : IntKind.i64.wrap ((W : Int) - 1) = (W : Int) - 1 := Go.IntWalk.i64_in _ ⟨by omega, by omega⟩
  have w2 : IntKind.i64.wrap ((H : Int) - 1) = (H : Int) - 1 := Go.IntWalk.i64_in _ ⟨by omega, by omega⟩
  have H1 := hide (fun X => bt_any tx 0 ((W : Int) - 1) X)
  have H2 := hide (fun X => bt_any ty 0 ((H : Int) - 1) X)
  have H3 := hide (fun X => bt_any tz 0 24 X)
  have HWY : Hid (wyC W H fx fy fz tx ty tz = if ¬ ((decide (0 ≤ tx) && decide (tx ≤ (W : Int) - 1)) = true ∧ (decide (0 ≤ ty) && decide (ty ≤ (H : Int) - 1)) = true ∧ (decide (0 ≤ tz) && decide (tz ≤ 24)) = true) then 5 else if 1 < chg fx fy fz tx ty tz then 13 else 0) := hide (by unfold wyC inR; simp only [Bool.and_eq_true, decide_eq_true_eq])
  unfold fldV plV
  generalize (decide (0 ≤ tx) && decide (tx ≤ (W : Int) - 1)) = r1 at *
  generalize (decide (0 ≤ ty) && decide (ty ≤ (H : Int) - 1)) = r2 at *
  generalize (decide (0 ≤ tz) && decide (tz ≤ 24)) = r3 at *
  go_enter Try.func42, Try.ntmps42
  go_wp2_with fail
  refine (unhide H1 _).mono ?_
  rintro e Wx ⟨rfl, rfl⟩
  cases r1 with
  | false =>
    go_wp2_with fail
    go_ret
    exact ⟨by rw [unhide HWY]; simp, unhide HB⟩
  | true =>
  go_wp2_with fail
  refine (unhide H2 _).mono ?_
  rintro e Wx ⟨rfl, rfl⟩
  cases r2 with
  | false =>
    go_wp2_with fail
    go_ret
    exact ⟨by rw [unhide HWY]; simp, unhide HB⟩
  | true =>
  go_wp2_with fail
  refine (unhide H3 _).mono ?_
  rintro e Wx ⟨rfl, rfl⟩
  cases r3 with
  | false =>
    go_wp2_with fail
    go_ret
    exact ⟨by rw [unhide HWY]; simp, unhide HB⟩
  | true =>
  have HW2 : Hid (wyC W H fx fy fz tx ty tz = if 1 < chg fx fy fz tx ty tz then 13 else 0) := hide (by rw [unhide HWY]; simp)
  have HVS0 := hide (vb_new (((w.alloc (.cells #[.int .i64 (W : Int), .int .i64 (H : Int), .slice u n c] 25)).alloc (.cells #[.int .i64 fx, .int .i64 fy, .int .i64 fz] 68)).alloc (.cells #[.int .i64 tx, .int .i64 ty, .int .i64 tz] 68)) 93 [.int .i64 fx, .int .i64 tx, .int .i64 fy, .int .i64 ty, .int .i64 fz, .int .i64 tz] (w.heap.size + 1 + 1 + 1) (by simp))
  have HB2 := hide (ba (unhide HB) (.cells #[.int .i64 fx, .int .i64 tx, .int .i64 fy, .int .i64 ty, .int .i64 fz, .int .i64 tz] 93))
  go_wp2_with fail
  generalize (((w.alloc (.cells #[.int .i64 (W : Int), .int .i64 (H : Int), .slice u n c] 25)).alloc (.cells #[.int .i64 fx, .int .i64 fy, .int .i64 fz] 68)).alloc (.cells #[.int .i64 tx, .int .i64 ty, .int .i64 tz] 68)).alloc (.cells #[.int .i64 fx, .int .i64 tx, .int .i64 fy, .int .i64 ty, .int .i64 fz, .int .i64 tz] 93) = Wa at *
  go_loopw [7, 49] (fun z7 zz X => ∃ i : Nat, zz = .int .i64 (i : Int) ∧ i ≤ 3 ∧ z7 = .int .i64 (chgT fx fy fz tx ty tz i) ∧ vb X (w.heap.size + 1 + 1 + 1) 93 [.int .i64 fx, .int .i64 tx, .int .i64 fy, .int .i64 ty, .int .i64 fz, .int .i64 tz] ∧ Below w.heap.size w X) (fun _ zz _ => 3 - (intOf zz).toNat)
  case atStart => exact ⟨0, rfl, by omega, rfl, unhide HVS0, unhide HB2⟩
  case round =>
    obtain ⟨i, rfl, hi, rfl, hvs, hw⟩ := hrel
    have HVS := hide hvs
    have HWW := hide hw
    have c0 := hvs.cell (m := 0) rfl
    have c1 := hvs.cell (m := 1) rfl
    have c2 := hvs.cell (m := 2) rfl
    have c3 := hvs.cell (m := 3) rfl
    have c4 := hvs.cell (m := 4) rfl
    have c5 := hvs.cell (m := 5) rfl
    clear hvs hw
    by_cases h : i < 3
    · have hc : i = 0 ∨ i = 1 ∨ i = 2 := by omega
      rcases hc with rfl | hc
      · skip
        by_cases e1 : fx = tx
        · have t1 : (fx != tx) = false := by simp [e1]
          have HCV : Hid (chgT fx fy fz tx ty tz 1 = chgT fx fy fz tx ty tz 0 + 0) := hide (by simp [chgT, chg, e1])
          have hA : Below wr.heap.size wr (wr.alloc (.cells #[.int .i64 fx, .int .i64 tx] 93)) := ba (Below.refl _ _) _
          have HVn := hide ((unhide HVS).bel hA)
          have HWn := hide (bc (unhide HWW) hA)
          have hb := chgT_le fx fy fz tx ty tz 0
          generalize chgT fx fy fz tx ty tz 0 = cc at *
          clear hA e1
          go_wp2_with fail
          go_roundw
          case rel => exact ⟨1, by simp, by omega, by rw [unhide HCV]; first | done | rfl | simp, unhide HVn, unhide HWn⟩
          case measure => simp only [intOf]; omega
        · have t1 : (fx != tx) = true := by simp [e1]
          have HCV : Hid (chgT fx fy fz tx ty tz 1 = chgT fx fy fz tx ty tz 0 + 1) := hide (by simp [chgT, chg, e1])
          have hA : Below wr.heap.size wr (wr.alloc (.cells #[.int .i64 fx, .int .i64 tx] 93)) := ba (Below.refl _ _) _
          have HVn := hide ((unhide HVS).bel hA)
          have HWn := hide (bc (unhide HWW) hA)
          have hb := chgT_le fx fy fz tx ty tz 0
          generalize chgT fx fy fz tx ty tz 0 = cc at *
          clear hA e1
          go_wp2_with fail
          go_roundw
          case rel => exact ⟨1, by simp, by omega, by rw [unhide HCV]; first | done | rfl | simp, unhide HVn, unhide HWn⟩
          case measure => simp only [intOf]; omega

      rcases hc with rfl | rfl
      · skip
        by_cases e1 : fy = ty
        · have t1 : (fy != ty) = false := by simp [e1]
          have HCV : Hid (chgT fx fy fz tx ty tz 2 = chgT fx fy fz tx ty tz 1 + 0) := hide (by simp [chgT, chg, e1])
          have hA : Below wr.heap.size wr (wr.alloc (.cells #[.int .i64 fy, .int .i64 ty] 93)) := ba (Below.refl _ _) _
          have HVn := hide ((unhide HVS).bel hA)
          have HWn := hide (bc (unhide HWW) hA)
          have hb := chgT_le fx fy fz tx ty tz 1
          generalize chgT fx fy fz tx ty tz 1 = cc at *
          clear hA e1
          go_wp2_with fail
          go_roundw
          case rel => exact ⟨2, by simp, by omega, by rw [unhide HCV]; first | done | rfl | simp, unhide HVn, unhide HWn⟩
          case measure => simp only [intOf]; omega
        · have t1 : (fy != ty) = true := by simp [e1]
          have HCV : Hid (chgT fx fy fz tx ty tz 2 = chgT fx fy fz tx ty tz 1 + 1) := hide (by simp [chgT, chg, e1])
          have hA : Below wr.heap.size wr (wr.alloc (.cells #[.int .i64 fy, .int .i64 ty] 93)) := ba (Below.refl _ _) _
          have HVn := hide ((unhide HVS).bel hA)
          have HWn := hide (bc (unhide HWW) hA)
          have hb := chgT_le fx fy fz tx ty tz 1
          generalize chgT fx fy fz tx ty tz 1 = cc at *
          clear hA e1
          go_wp2_with fail
          go_roundw
          case rel => exact ⟨2, by simp, by omega, by rw [unhide HCV]; first | done | rfl | simp, unhide HVn, unhide HWn⟩
          case measure => simp only [intOf]; omega

      · skip
        by_cases e1 : fz = tz
        · have t1 : (fz != tz) = false := by simp [e1]
          have HCV : Hid (chgT fx fy fz tx ty tz 3 = chgT fx fy fz tx ty tz 2 + 0) := hide (by simp [chgT, chg, e1])
          have hA : Below wr.heap.size wr (wr.alloc (.cells #[.int .i64 fz, .int .i64 tz] 93)) := ba (Below.refl _ _) _
          have HVn := hide ((unhide HVS).bel hA)
          have HWn := hide (bc (unhide HWW) hA)
          have hb := chgT_le fx fy fz tx ty tz 2
          generalize chgT fx fy fz tx ty tz 2 = cc at *
          clear hA e1
          go_wp2_with fail
          go_roundw
          case rel => exact ⟨3, by simp, by omega, by rw [unhide HCV]; first | done | rfl | simp, unhide HVn, unhide HWn⟩
          case measure => simp only [intOf]; omega
        · have t1 : (fz != tz) = true := by simp [e1]
          have HCV : Hid (chgT fx fy fz tx ty tz 3 = chgT fx fy fz tx ty tz 2 + 1) := hide (by simp [chgT, chg, e1])
          have hA : Below wr.heap.size wr (wr.alloc (.cells #[.int .i64 fz, .int .i64 tz] 93)) := ba (Below.refl _ _) _
          have HVn := hide ((unhide HVS).bel hA)
          have HWn := hide (bc (unhide HWW) hA)
          have hb := chgT_le fx fy fz tx ty tz 2
          generalize chgT fx fy fz tx ty tz 2 = cc at *
          clear hA e1
          go_wp2_with fail
          go_roundw
          case rel => exact ⟨3, by simp, by omega, by rw [unhide HCV]; first | done | rfl | simp, unhide HVn, unhide HWn⟩
          case measure => simp only [intOf]; omega

    · have ei : i = 3 := by omega
      subst ei
      have HC3 : Hid (chgT fx fy fz tx ty tz 3 = chg fx fy fz tx ty tz) := hide rfl
      rw [unhide HC3]
      by_cases hg : 1 < chg fx fy fz tx ty tz
      · have tg := decide_eq_true hg
        have HW3 : Hid (wyC W H fx fy fz tx ty tz = 13) := hide (by rw [unhide HW2, if_pos hg])
        generalize chg fx fy fz tx ty tz = cc at *
        go_wp2_with fail
        go_ret
        exact ⟨by rw [unhide HW3]; first | done | rfl, unhide HWW⟩
      · have tg := decide_eq_false hg
        have HW3 : Hid (wyC W H fx fy fz tx ty tz = 0) := hide (by rw [unhide HW2, if_neg hg])
        generalize chg fx fy fz tx ty tz = cc at *
        go_wp2_with fail
        go_ret
        exact ⟨by rw [unhide HW3]; first | done | rfl, unhide HWW⟩
end Go.Proofs.Ytbjljofgpbecbaa
