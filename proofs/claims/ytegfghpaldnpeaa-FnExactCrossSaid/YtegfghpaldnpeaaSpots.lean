/-
  What the law asks of spots: that two rows are the same, that a row is written over, that it is held.
-/
import Derived.Test.YtegfghpaldnpeaaIRows
import Derived.Test.YtegfghpaldnpeaaCrossMW
namespace Go.Proofs.Ytegfghpaldnpeaa
open Go.ChangeShapes Go.WideShapes Go.ChangeAt Go.RowKit
set_option linter.unusedVariables false
set_option linter.unusedSimpArgs false

theorem spotE_one (x0 x1 x2 : Int) (w : World) : Calls Try.prog 37 #[.agg #[.int .i64 x0, .int .i64 x1, .int .i64 x2], .agg #[.int .i64 x0, .int .i64 x1, .int .i64 x2]] w fun e w' => e = .returned (.bool true) ∧ Below w.heap.size w w' := by
  go_enter Try.func37, Try.ntmps37
  go_wp2
  go_ret
  exact ⟨rfl, ba (ba (Below.refl _ _) _) _⟩

set_option maxHeartbeats 1000000 in
theorem spot_same (u v : Option Addr) (p po q qo n cu cv : Nat) (L : List Int) (w : World) (hl : L.length = n * 3) (hn : n ≤ 4611686018427387904)
    (hu : n ≠ 0 → u = some ⟨p, po, none⟩ ∧ p < w.heap.size ∧ IntsAt w p po L) (hv : n ≠ 0 → v = some ⟨q, qo, none⟩ ∧ q < w.heap.size ∧ IntsAt w q qo L) :
    Calls Try.prog 14 #[.slice u n cu, .slice v n cv] w fun e w' => e = .returned (.bool true) ∧ Below w.heap.size w w' := by
  have HU := hide hu
  have HV := hide hv
  have HL := hide hl
  clear hu hv hl
  go_enter Try.func14, Try.ntmps14
  go_wp2
  go_loopw [5] (fun s W => ∃ i : Nat, s = .int .i64 (i : Int) ∧ i ≤ n ∧ Below w.heap.size w W) (fun s _ => n - (intOf s).toNat)
  case atStart => exact ⟨0, rfl, Nat.zero_le _, Below.refl _ _⟩
  case round =>
    obtain ⟨i, rfl, hi, hw⟩ := hrel
    have HW := hide hw
    clear hw
    by_cases h : i < n
    · have i1 : (i : Int) < (n : Int) := by omega
      have i0 : (0 : Int) ≤ (i : Int) := Int.natCast_nonneg _
      have iz : decide ((i : Int) < (n : Int)) = true := decide_eq_true i1
      obtain ⟨rfl, pw, pa⟩ := unhide HU (by omega)
      obtain ⟨rfl, qw, qa⟩ := unhide HV (by omega)
      have pb := pa.below (unhide HW) pw
      have qb := qa.below (unhide HW) qw
      obtain ⟨x0, e0⟩ := at_of (f := 0) (unhide HL) h (by omega)
      have k0 := pb.at0 e0
      have l0 := qb.at0 e0
      obtain ⟨x1, e1⟩ := at_of (f := 1) (unhide HL) h (by omega)
      have k1 := pb.at e1
      have l1 := qb.at e1
      obtain ⟨x2, e2⟩ := at_of (f := 2) (unhide HL) h (by omega)
      have k2 := pb.at e2
      have l2 := qb.at e2
      clear pa qa pb qb pw qw e0 e1 e2
      go_wp2_with fail
      go_region_held3 (fun wx => wx.cell? ⟨p, po + i * 3, none⟩ = some (.int .i64 x0) ∧ wx.cell? ⟨p, po + i * 3 + 1, none⟩ = some (.int .i64 x1) ∧ wx.cell? ⟨p, po + i * 3 + 2, none⟩ = some (.int .i64 x2) ∧ wx.cell? ⟨q, qo + i * 3, none⟩ = some (.int .i64 x0) ∧ wx.cell? ⟨q, qo + i * 3 + 1, none⟩ = some (.int .i64 x1) ∧ wx.cell? ⟨q, qo + i * 3 + 2, none⟩ = some (.int .i64 x2))
        (simp (maxDischargeDepth := 12) [go_sem, le1, lt1, *])
        (first
        | (go_at_call 37; refine (spotE_one _ _ _ _).mono ?_; rintro e w' ⟨rfl, hb⟩; have HB := hide hb; have y0 := keep1 hb (b := p) (o := _) (v := .int .i64 x0) k0; have y1 := keep1 hb (b := p) (o := _) (v := .int .i64 x1) k1; have y2 := keep1 hb (b := p) (o := _) (v := .int .i64 x2) k2; have z0 := keep1 hb (b := q) (o := _) (v := .int .i64 x0) l0; have z1 := keep1 hb (b := q) (o := _) (v := .int .i64 x1) l1; have z2 := keep1 hb (b := q) (o := _) (v := .int .i64 x2) l2; clear hb))
      all_goals
        go_wp2_with fail
        go_roundw
        case rel => exact ⟨i + 1, by simp, h, by repeat (first | exact unhide HW | refine bc ?_ (unhide HB) | refine Below.drew ?_)⟩
        case measure => simp only [intOf]; omega
    · have i1 : ¬ (i : Int) < (n : Int) := by omega
      have iz : decide ((i : Int) < (n : Int)) = false := decide_eq_false i1
      go_wp2_with fail
      go_ret
      exact ⟨rfl, unhide HW⟩

set_option maxHeartbeats 1000000 in
theorem spot_held (u : Option Addr) (p n cu : Nat) (c : Int) (w : World) (hn : n ≤ 288230376151711744) (c0 : 0 ≤ c) (c1 : c ≤ 1000000)
    (hu : n ≠ 0 → u = some ⟨p, 0, none⟩ ∧ IntsAt w p 0 (marks c (n * 3))) :
    Calls Try.prog 16 #[.slice u n cu, .int .i64 c] w fun e w' => e = .returned (.int .i64 (c + (n : Int) * 3)) ∧ Same w w' := by
  have HU := hide hu
  clear hu
  go_enter Try.func16, Try.ntmps16
  go_wp2
  go_loopw [1, 5] (fun s t W => ∃ i : Nat, s = .int .i64 (c + (i : Int) * 3) ∧ t = .int .i64 (i : Int) ∧ i ≤ n ∧ Same w W) (fun _ s _ => n - (intOf s).toNat)
  case atStart => exact ⟨0, by simp, rfl, Nat.zero_le _, Same.refl _⟩
  case round =>
    obtain ⟨i, rfl, rfl, hi, hw⟩ := hrel
    have HW := hide hw
    clear hw
    by_cases h : i < n
    · have i1 : (i : Int) < (n : Int) := by omega
      have i0 : (0 : Int) ≤ (i : Int) := Int.natCast_nonneg _
      have iz : decide ((i : Int) < (n : Int)) = true := decide_eq_true i1
      obtain ⟨rfl, pa⟩ := unhide HU (by omega)
      have k0 : wr.cell? ⟨p, i * 3, none⟩ = some (.int .i64 (c + (i : Int) * 3)) := by
        have h0 := pa (i * 3 + 0) _ (marks_at c (n * 3) (i * 3 + 0) (mul_lt_of h (by omega)))
        rw [Nat.zero_add] at h0
        rw [show c + (i : Int) * 3 = c + ((i * 3 + 0 : Nat) : Int) by omega, (unhide HW).cell]
        exact h0
      have k1 : wr.cell? ⟨p, i * 3 + 1, none⟩ = some (.int .i64 (c + (i : Int) * 3 + 1)) := by
        have h0 := pa (i * 3 + 1) _ (marks_at c (n * 3) (i * 3 + 1) (mul_lt_of h (by omega)))
        rw [Nat.zero_add] at h0
        rw [show c + (i : Int) * 3 + 1 = c + ((i * 3 + 1 : Nat) : Int) by omega, (unhide HW).cell]
        exact h0
      have k2 : wr.cell? ⟨p, i * 3 + 2, none⟩ = some (.int .i64 (c + (i : Int) * 3 + 1 + 1)) := by
        have h0 := pa (i * 3 + 2) _ (marks_at c (n * 3) (i * 3 + 2) (mul_lt_of h (by omega)))
        rw [Nat.zero_add] at h0
        rw [show c + (i : Int) * 3 + 1 + 1 = c + ((i * 3 + 2 : Nat) : Int) by omega, (unhide HW).cell]
        exact h0
      clear pa
      go_wp2_with fail
      go_roundw
      case rel => exact ⟨i + 1, by simp only [Value.int.injEq, true_and]; omega, by simp, h, by repeat (first | exact unhide HW | refine Same.drew ?_)⟩
      case measure => simp only [intOf]; omega
    · have i1 : ¬ (i : Int) < (n : Int) := by omega
      have iz : decide ((i : Int) < (n : Int)) = false := decide_eq_false i1
      have en : i = n := by omega
      subst en
      go_wp2_with fail
      go_ret
      exact ⟨rfl, unhide HW⟩

set_option maxHeartbeats 1000000 in
theorem spot_mark (u : Option Addr) (p n cu : Nat) (L : List Int) (c : Int) (w : World) (hl : L.length = n * 3) (hn : n ≤ 288230376151711744) (c0 : 0 ≤ c) (c1 : c ≤ 1000000)
    (hu : n ≠ 0 → u = some ⟨p, 0, none⟩ ∧ iblk w p 57 L) :
    Calls Try.prog 15 #[.slice u n cu, .int .i64 c] w fun e w' => e = .returned (.int .i64 (c + (n : Int) * 3)) ∧ (n ≠ 0 → iblk w' p 57 (marks c (n * 3))) ∧ But p w w' := by
  have HU := hide hu
  have HL := hide hl
  clear hu hl
  go_enter Try.func15, Try.ntmps15
  go_wp2
  go_loopw [1, 5] (fun s t W => ∃ i : Nat, s = .int .i64 (c + (i : Int) * 3) ∧ t = .int .i64 (i : Int) ∧ i ≤ n ∧ (n ≠ 0 → iblk W p 57 (marks c (i * 3) ++ L.drop (i * 3))) ∧ But p w W) (fun _ s _ => n - (intOf s).toNat)
  case atStart => exact ⟨0, by simp, rfl, Nat.zero_le _, fun hn => by simpa [marks] using (unhide HU hn).2, But.refl _ _⟩
  case round =>
    obtain ⟨i, rfl, rfl, hi, hb, hw⟩ := hrel
    have HB := hide hb
    have HW := hide hw
    clear hb hw
    by_cases h : i < n
    · have i1 : (i : Int) < (n : Int) := by omega
      have i0 : (0 : Int) ≤ (i : Int) := Int.natCast_nonneg _
      have iz : decide ((i : Int) < (n : Int)) = true := decide_eq_true i1
      obtain ⟨rfl, _⟩ := unhide HU (by omega)
      have pb := unhide HB (by omega)
      have j0 : i * 3 + 0 < L.length := by rw [unhide HL]; exact mul_lt_of h (by omega)
      have k0 : wr.cell? ⟨p, i * 3, none⟩ = some (.int .i64 (L[i * 3 + 0]'j0)) := pb.cell (marks_drop1 c L (i * 3) 0 j0)
      generalize L[i * 3 + 0]'j0 = x0 at k0
      have j1 : i * 3 + 1 < L.length := by rw [unhide HL]; exact mul_lt_of h (by omega)
      have k1 : wr.cell? ⟨p, i * 3 + 1, none⟩ = some (.int .i64 (L[i * 3 + 1]'j1)) := pb.cell (marks_drop1 c L (i * 3) 1 j1)
      generalize L[i * 3 + 1]'j1 = x1 at k1
      have j2 : i * 3 + 2 < L.length := by rw [unhide HL]; exact mul_lt_of h (by omega)
      have k2 : wr.cell? ⟨p, i * 3 + 2, none⟩ = some (.int .i64 (L[i * 3 + 2]'j2)) := pb.cell (marks_drop1 c L (i * 3) 2 j2)
      generalize L[i * 3 + 2]'j2 = x2 at k2
      have fz : ∀ o, wr.frozen? ⟨p, o, none⟩ = false := pb.frozen
      have PB := hide pb
      have J0 := hide j0; have J1 := hide j1; have J2 := hide j2
      clear pb j0 j1 j2
      go_wp2_with fail
      go_roundw
      case rel =>
        refine ⟨i + 1, by simp only [Value.int.injEq, true_and]; omega, by simp, h, fun _ => ?_, ?_⟩
        · have h1 := (((unhide PB).set (i * 3) (c + (i : Int) * 3)).set (i * 3 + 1) (c + (i : Int) * 3 + 1)).set (i * 3 + 2) (c + (i : Int) * 3 + 1 + 1)
          rw [marks_step c L (i * 3) (unhide J0) _ (by omega), marks_step c L (i * 3 + 1) (unhide J1) _ (by omega), marks_step c L (i * 3 + 2) (unhide J2) _ (by omega)] at h1
          rw [show (i + 1) * 3 = i * 3 + 3 by omega]
          exact h1
        · exact (((unhide HW).setCell _ _).setCell _ _).setCell _ _
      case measure => simp only [intOf]; omega
    · have i1 : ¬ (i : Int) < (n : Int) := by omega
      have iz : decide ((i : Int) < (n : Int)) = false := decide_eq_false i1
      have en : i = n := by omega
      subst en
      go_wp2_with fail
      go_ret
      refine ⟨rfl, fun hn => ?_, unhide HW⟩
      have h1 := unhide HB hn
      rw [List.drop_eq_nil_of_le (by rw [unhide HL]; omega), List.append_nil] at h1
      exact h1
end Go.Proofs.Ytegfghpaldnpeaa
