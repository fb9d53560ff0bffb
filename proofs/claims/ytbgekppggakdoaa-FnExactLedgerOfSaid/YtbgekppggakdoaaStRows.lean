/-
  What the laws ask of rows of steps: that two are the same, that one is written over, that it is made of another.
-/
import Derived.Test.YtbgekppggakdoaaMakes
namespace Go.Proofs.Ytbgekppggakdoaa
open Go.ChangeShapes Go.WideShapes Go.ChangeAt Go.RowKit
set_option linter.unusedVariables false
set_option linter.unusedSimpArgs false

theorem stpE_one (x0 x1 x2 x3 : Int) (w : World) : Calls Try.prog 68 #[.agg #[.int .i64 x0, .int .i64 x1, .int .i64 x2, .int .i64 x3], .agg #[.int .i64 x0, .int .i64 x1, .int .i64 x2, .int .i64 x3]] w fun e w' => e = .returned (.bool true) ∧ Below w.heap.size w w' := by
  go_enter Try.func68, Try.ntmps68
  go_wp2
  go_ret
  exact ⟨rfl, ba (ba (Below.refl _ _) _) _⟩

set_option maxHeartbeats 1000000 in
theorem stp_same (u v : Option Addr) (p po q qo n cu cv : Nat) (L : List Int) (w : World) (hl : L.length = n * 4) (hn : n ≤ 4611686018427387904)
    (hu : n ≠ 0 → u = some ⟨p, po, none⟩ ∧ p < w.heap.size ∧ IntsAt w p po L) (hv : n ≠ 0 → v = some ⟨q, qo, none⟩ ∧ q < w.heap.size ∧ IntsAt w q qo L) :
    Calls Try.prog 56 #[.slice u n cu, .slice v n cv] w fun e w' => e = .returned (.bool true) ∧ Below w.heap.size w w' := by
  have HU := hide hu
  have HV := hide hv
  have HL := hide hl
  clear hu hv hl
  go_enter Try.func56, Try.ntmps56
  go_wp2
  go_loopw [5] (fun s W => ∃ i : Nat, s = .int .i64 (i : Int) ∧ i ≤ n ∧ Below w.heap.size w W) (fun s _ => n - (intOf s).toNat)
  case atStart => exact ⟨0, rfl, Nat.zero_le _, Below.refl _ _⟩
  case round =>
    obtain ⟨i, rfl, hi, hw⟩ := hrel
    have HW := hide hw
    clear hw
    by_cases h : i < n
    · have i1 : (i : Int) < (n : Int) := by omega
      have i0 : (0 : Int) ≤ (i : Int) := Int.natCast_nonneg _
      have iz : decide ((i : Int) < (n : Int)) = true := decide_eq_true i1
      obtain ⟨rfl, pw, pa⟩ := unhide HU (by omega)
      obtain ⟨rfl, qw, qa⟩ := unhide HV (by omega)
      have pb := pa.below (unhide HW) pw
      have qb := qa.below (unhide HW) qw
      obtain ⟨x0, e0⟩ := at_of (f := 0) (unhide HL) h (by omega)
      have k0 := pb.at0 e0
      have l0 := qb.at0 e0
      obtain ⟨x1, e1⟩ := at_of (f := 1) (unhide HL) h (by omega)
      have k1 := pb.at e1
      have l1 := qb.at e1
      obtain ⟨x2, e2⟩ := at_of (f := 2) (unhide HL) h (by omega)
      have k2 := pb.at e2
      have l2 := qb.at e2
      obtain ⟨x3, e3⟩ := at_of (f := 3) (unhide HL) h (by omega)
      have k3 := pb.at e3
      have l3 := qb.at e3
      clear pa qa pb qb pw qw e0 e1 e2 e3
      go_wp2_with fail
      go_region_held3 (fun wx => wx.cell? ⟨p, po + i * 4, none⟩ = some (.int .i64 x0) ∧ wx.cell? ⟨p, po + i * 4 + 1, none⟩ = some (.int .i64 x1) ∧ wx.cell? ⟨p, po + i * 4 + 2, none⟩ = some (.int .i64 x2) ∧ wx.cell? ⟨p, po + i * 4 + 3, none⟩ = some (.int .i64 x3) ∧ wx.cell? ⟨q, qo + i * 4, none⟩ = some (.int .i64 x0) ∧ wx.cell? ⟨q, qo + i * 4 + 1, none⟩ = some (.int .i64 x1) ∧ wx.cell? ⟨q, qo + i * 4 + 2, none⟩ = some (.int .i64 x2) ∧ wx.cell? ⟨q, qo + i * 4 + 3, none⟩ = some (.int .i64 x3))
        (simp (maxDischargeDepth := 12) [go_sem, le1, lt1, *])
        (first
        | (go_at_call 68; refine (stpE_one _ _ _ _ _).mono ?_; rintro e w' ⟨rfl, hb⟩; have HB := hide hb; have y0 := keep1 hb (b := p) (o := _) (v := .int .i64 x0) k0; have y1 := keep1 hb (b := p) (o := _) (v := .int .i64 x1) k1; have y2 := keep1 hb (b := p) (o := _) (v := .int .i64 x2) k2; have y3 := keep1 hb (b := p) (o := _) (v := .int .i64 x3) k3; have z0 := keep1 hb (b := q) (o := _) (v := .int .i64 x0) l0; have z1 := keep1 hb (b := q) (o := _) (v := .int .i64 x1) l1; have z2 := keep1 hb (b := q) (o := _) (v := .int .i64 x2) l2; have z3 := keep1 hb (b := q) (o := _) (v := .int .i64 x3) l3; clear hb))
      all_goals
        go_wp2_with fail
        go_roundw
        case rel => exact ⟨i + 1, by simp, h, by repeat (first | exact unhide HW | refine bc ?_ (unhide HB) | refine Below.drew ?_)⟩
        case measure => simp only [intOf]; omega
    · have i1 : ¬ (i : Int) < (n : Int) := by omega
      have iz : decide ((i : Int) < (n : Int)) = false := decide_eq_false i1
      go_wp2_with fail
      go_ret
      exact ⟨rfl, unhide HW⟩

set_option maxHeartbeats 1000000 in
theorem stp_mark (u : Option Addr) (p n cu : Nat) (L : List Int) (c : Int) (w : World) (hl : L.length = n * 4) (hn : n ≤ 288230376151711744) (c0 : 0 ≤ c) (c1 : c ≤ 1000000)
    (hu : n ≠ 0 → u = some ⟨p, 0, none⟩ ∧ iblk w p 61 L) :
    Calls Try.prog 44 #[.slice u n cu, .int .i64 c] w fun e w' => e = .returned (.int .i64 (c + (n : Int) * 4)) ∧ (n ≠ 0 → iblk w' p 61 (marks c (n * 4))) ∧ But p w w' := by
  have HU := hide hu
  have HL := hide hl
  clear hu hl
  go_enter Try.func44, Try.ntmps44
  go_wp2
  go_loopw [1, 5] (fun s t W => ∃ i : Nat, s = .int .i64 (c + (i : Int) * 4) ∧ t = .int .i64 (i : Int) ∧ i ≤ n ∧ (n ≠ 0 → iblk W p 61 (marks c (i * 4) ++ L.drop (i * 4))) ∧ But p w W) (fun _ s _ => n - (intOf s).toNat)
  case atStart => exact ⟨0, by simp, rfl, Nat.zero_le _, fun hn => by simpa [marks] using (unhide HU hn).2, But.refl _ _⟩
  case round =>
    obtain ⟨i, rfl, rfl, hi, hb, hw⟩ := hrel
    have HB := hide hb
    have HW := hide hw
    clear hb hw
    by_cases h : i < n
    · have i1 : (i : Int) < (n : Int) := by omega
      have i0 : (0 : Int) ≤ (i : Int) := Int.natCast_nonneg _
      have iz : decide ((i : Int) < (n : Int)) = true := decide_eq_true i1
      obtain ⟨rfl, _⟩ := unhide HU (by omega)
      have pb := unhide HB (by omega)
      have j0 : i * 4 + 0 < L.length := by rw [unhide HL]; exact mul_lt_of h (by omega)
      have k0 : wr.cell? ⟨p, i * 4, none⟩ = some (.int .i64 (L[i * 4 + 0]'j0)) := pb.cell (marks_drop1 c L (i * 4) 0 j0)
      generalize L[i * 4 + 0]'j0 = x0 at k0
      have j1 : i * 4 + 1 < L.length := by rw [unhide HL]; exact mul_lt_of h (by omega)
      have k1 : wr.cell? ⟨p, i * 4 + 1, none⟩ = some (.int .i64 (L[i * 4 + 1]'j1)) := pb.cell (marks_drop1 c L (i * 4) 1 j1)
      generalize L[i * 4 + 1]'j1 = x1 at k1
      have j2 : i * 4 + 2 < L.length := by rw [unhide HL]; exact mul_lt_of h (by omega)
      have k2 : wr.cell? ⟨p, i * 4 + 2, none⟩ = some (.int .i64 (L[i * 4 + 2]'j2)) := pb.cell (marks_drop1 c L (i * 4) 2 j2)
      generalize L[i * 4 + 2]'j2 = x2 at k2
      have j3 : i * 4 + 3 < L.length := by rw [unhide HL]; exact mul_lt_of h (by omega)
      have k3 : wr.cell? ⟨p, i * 4 + 3, none⟩ = some (.int .i64 (L[i * 4 + 3]'j3)) := pb.cell (marks_drop1 c L (i * 4) 3 j3)
      generalize L[i * 4 + 3]'j3 = x3 at k3
      have fz : ∀ o, wr.frozen? ⟨p, o, none⟩ = false := pb.frozen
      have PB := hide pb
      have J0 := hide j0; have J1 := hide j1; have J2 := hide j2; have J3 := hide j3
      clear pb j0 j1 j2 j3
      go_wp2_with fail
      go_roundw
      case rel =>
        refine ⟨i + 1, by simp only [Value.int.injEq, true_and]; omega, by simp, h, fun _ => ?_, ?_⟩
        · have h1 := ((((unhide PB).set (i * 4) (c + (i : Int) * 4)).set (i * 4 + 1) (c + (i : Int) * 4 + 1)).set (i * 4 + 2) (c + (i : Int) * 4 + 1 + 1)).set (i * 4 + 3) (c + (i : Int) * 4 + 1 + 1 + 1)
          rw [marks_step c L (i * 4) (unhide J0) _ (by omega), marks_step c L (i * 4 + 1) (unhide J1) _ (by omega), marks_step c L (i * 4 + 2) (unhide J2) _ (by omega), marks_step c L (i * 4 + 3) (unhide J3) _ (by omega)] at h1
          rw [show (i + 1) * 4 = i * 4 + 4 by omega]
          exact h1
        · exact ((((unhide HW).setCell _ _).setCell _ _).setCell _ _).setCell _ _
      case measure => simp only [intOf]; omega
    · have i1 : ¬ (i : Int) < (n : Int) := by omega
      have iz : decide ((i : Int) < (n : Int)) = false := decide_eq_false i1
      have en : i = n := by omega
      subst en
      go_wp2_with fail
      go_ret
      refine ⟨rfl, fun hn => ?_, unhide HW⟩
      have h1 := unhide HB hn
      rw [List.drop_eq_nil_of_le (by rw [unhide HL]; omega), List.append_nil] at h1
      exact h1

theorem stp_conv (x0 x1 x2 x3 : Int) (w : World) : Calls Try.prog 64 #[.agg #[.int .i64 x0, .int .i64 x1, .int .i64 x2, .int .i64 x3]] w fun e w' => e = .returned (.agg #[.int .i64 x0, .int .i64 x1, .int .i64 x2, .int .i64 x3]) ∧ Below w.heap.size w w' := by
  go_enter Try.func64, Try.ntmps64
  go_wp2
  exact bodyPost_ret (v := .agg #[.int .i64 x0, .int .i64 x1, .int .i64 x2, .int .i64 x3]) (by simp [results, Try.results64, go_sem]) rfl ⟨rfl, by repeat (first | exact Below.refl _ _ | refine ba ?_ _)⟩
theorem stp_info : (Try.prog.info? 61).map (fun i => (i.zero, i.size, i.bytes)) = some (some (.agg #[.int .i64 0, .int .i64 0, .int .i64 0, .int .i64 0]), 4, 32) := by kernel_rfl

set_option maxHeartbeats 1000000 in
theorem stp_to (u : Option Addr) (p po n cu : Nat) (L : List Int) (w : World) (hl : L.length = n * 4) (hn : n ≤ 1048576)
    (hu : n ≠ 0 → u = some ⟨p, po, none⟩ ∧ p < w.heap.size ∧ IntsAt w p po L) :
    Calls Try.prog 51 #[.slice u n cu] w fun e w' => (∃ g, e = .returned (.slice (some ⟨g, 0, none⟩) n n) ∧ w.heap.size ≤ g ∧ iblk w' g 61 L) ∧ Below w.heap.size w w' := by
  have HU := hide hu
  have HL := hide hl
  clear hu hl
  have hmk := fun W => make_ints (P := Try.prog) 56 61 4 32 n Try.underlying56 (.agg #[.int .i64 0, .int .i64 0, .int .i64 0, .int .i64 0]) (by rfl) (by omega) stp_info (by omega) (by omega) W
  generalize hzz : zeros (n * 4) = Z at hmk
  have HZ := hide hzz
  clear hzz
  go_enter Try.func51, Try.ntmps51
  go_wp2_with fail
  have HG := hide (iblk_new w 61 Z)
  have HB0 := hide (ba (Below.refl w.heap.size w) (.cells (Z.map (Value.int .i64)).toArray 61))
  clear hmk
  go_loopw [4] (fun s W => ∃ i : Nat, s = .int .i64 (i : Int) ∧ i ≤ n ∧ iblk W w.heap.size 61 (L.take (i * 4) ++ zeros (L.length - i * 4)) ∧ Below w.heap.size w W) (fun s _ => n - (intOf s).toNat)
  case atStart =>
    refine ⟨0, rfl, Nat.zero_le _, ?_, unhide HB0⟩
    have e : L.take (0 * 4) ++ zeros (L.length - 0 * 4) = Z := by rw [unhide HL, ← unhide HZ]; simp
    rw [e]
    exact unhide HG
  case round =>
    obtain ⟨i, rfl, hi, hb, hw⟩ := hrel
    have HB := hide hb
    have HW := hide hw
    clear hb hw HG HB0
    by_cases h : i < n
    · have i1 : (i : Int) < (n : Int) := by omega
      have i0 : (0 : Int) ≤ (i : Int) := Int.natCast_nonneg _
      have iz : decide ((i : Int) < (n : Int)) = true := decide_eq_true i1
      obtain ⟨rfl, pw, pa⟩ := unhide HU (by omega)
      have pb := pa.below (unhide HW) pw
      obtain ⟨x0, e0⟩ := at_of (f := 0) (unhide HL) h (by omega)
      have k0 := pb.at0 e0
      have E0 := hide e0
      obtain ⟨x1, e1⟩ := at_of (f := 1) (unhide HL) h (by omega)
      have k1 := pb.at e1
      have E1 := hide e1
      obtain ⟨x2, e2⟩ := at_of (f := 2) (unhide HL) h (by omega)
      have k2 := pb.at e2
      have E2 := hide e2
      obtain ⟨x3, e3⟩ := at_of (f := 3) (unhide HL) h (by omega)
      have k3 := pb.at e3
      have E3 := hide e3
      clear pa pb pw e0 e1 e2 e3
      go_wp2_with fail
      refine (stp_conv _ _ _ _ _).mono ?_
      rintro e W1 ⟨rfl, hb⟩
      have pb := (unhide HB).bel hb
      have j0 : i * 4 + 0 < L.length := by rw [unhide HL]; exact mul_lt_of h (by omega)
      have m0 : W1.cell? ⟨w.heap.size, i * 4, none⟩ = some (.int .i64 0) := pb.cell (fill_at L (i * 4) 0 j0)
      have j1 : i * 4 + 1 < L.length := by rw [unhide HL]; exact mul_lt_of h (by omega)
      have m1 : W1.cell? ⟨w.heap.size, i * 4 + 1, none⟩ = some (.int .i64 0) := pb.cell (fill_at L (i * 4) 1 j1)
      have j2 : i * 4 + 2 < L.length := by rw [unhide HL]; exact mul_lt_of h (by omega)
      have m2 : W1.cell? ⟨w.heap.size, i * 4 + 2, none⟩ = some (.int .i64 0) := pb.cell (fill_at L (i * 4) 2 j2)
      have j3 : i * 4 + 3 < L.length := by rw [unhide HL]; exact mul_lt_of h (by omega)
      have m3 : W1.cell? ⟨w.heap.size, i * 4 + 3, none⟩ = some (.int .i64 0) := pb.cell (fill_at L (i * 4) 3 j3)
      have fz : ∀ o, W1.frozen? ⟨w.heap.size, o, none⟩ = false := pb.frozen
      have PB := hide pb
      have HW1 := hide (bc (unhide HW) hb)
      have J0 := hide j0; have J1 := hide j1; have J2 := hide j2; have J3 := hide j3
      clear hb pb j0 k0 j1 k1 j2 k2 j3 k3
      go_wp2_with fail
      go_roundw
      case rel =>
        refine ⟨i + 1, by simp, h, ?_, ?_⟩
        · have h1 := ((((unhide PB).set (i * 4) x0).set (i * 4 + 1) x1).set (i * 4 + 2) x2).set (i * 4 + 3) x3
          rw [fill_step L (i * 4) (unhide J0) _ (unhide E0), fill_step L (i * 4 + 1) (unhide J1) _ (unhide E1), fill_step L (i * 4 + 2) (unhide J2) _ (unhide E2), fill_step L (i * 4 + 3) (unhide J3) _ (unhide E3)] at h1
          rw [show (i + 1) * 4 = i * 4 + 4 by omega]
          exact h1
        · exact Below.setCell (Below.setCell (Below.setCell (Below.setCell (unhide HW1) (Nat.le_refl _) _) (Nat.le_refl _) _) (Nat.le_refl _) _) (Nat.le_refl _) _
      case measure => simp only [intOf]; omega
    · have i1 : ¬ (i : Int) < (n : Int) := by omega
      have iz : decide ((i : Int) < (n : Int)) = false := decide_eq_false i1
      have en : i = n := by omega
      subst en
      go_wp2_with fail
      go_ret
      refine ⟨⟨_, rfl, Nat.le_refl _, ?_⟩, unhide HW⟩
      have h1 := unhide HB
      rw [List.take_of_length_le (by rw [unhide HL]; omega), show L.length - i * 4 = 0 by rw [unhide HL]; omega] at h1
      simpa [zeros] using h1

theorem stp_sz_in (u : Option Addr) (n cu : Nat) (c : Int) (w : World) (hc : c ≤ 1048576) (hn : (n : Int) ≤ c) :
    Calls Try.prog 49 #[.slice u n cu, .int .i64 c] w fun e w' => e = .returned (.int .i64 (c - n)) ∧ w' = w := by
  have t : decide (c - (n : Int) < 0) = false := decide_eq_false (by omega)
  have n0 : (0 : Int) ≤ (n : Int) := Int.natCast_nonneg _
  go_enter Try.func49, Try.ntmps49
  go_wp2
  go_ret
  exact ⟨rfl, rfl⟩
theorem stp_sz_out (u : Option Addr) (n cu : Nat) (c : Int) (w : World) (hc0 : -1 ≤ c) (hc : c ≤ 1048576) (hn : c < (n : Int)) (hm : n ≤ 9223372036854775807) :
    Calls Try.prog 49 #[.slice u n cu, .int .i64 c] w fun e w' => e = .returned (.int .i64 (-1)) ∧ w' = w := by
  have t : decide (c - (n : Int) < 0) = true := decide_eq_true (by omega)
  have n0 : (0 : Int) ≤ (n : Int) := Int.natCast_nonneg _
  go_enter Try.func49, Try.ntmps49
  go_wp2
  go_ret
  exact ⟨rfl, rfl⟩
end Go.Proofs.Ytbgekppggakdoaa
