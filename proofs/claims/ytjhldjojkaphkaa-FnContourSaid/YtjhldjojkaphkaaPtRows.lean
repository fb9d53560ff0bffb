/-
  What the laws ask of rows: that two are the same, that one is written over, that it is held, that it is made of another.
-/
import Derived.Test.YtjhldjojkaphkaaMakes
namespace Go.Proofs.Ytjhldjojkaphkaa
open Go.ChangeShapes Go.WideShapes Go.ChangeAt Go.RowKit
set_option linter.unusedVariables false
set_option linter.unusedSimpArgs false

theorem ptE_one (x0 x1 : Int) (w : World) : Calls Try.prog 63 #[.agg #[.int .i64 x0, .int .i64 x1], .agg #[.int .i64 x0, .int .i64 x1]] w fun e w' => e = .returned (.bool true) ∧ Below w.heap.size w w' := by
  go_enter Try.func63, Try.ntmps63
  go_wp2
  go_ret
  exact ⟨rfl, ba (ba (Below.refl _ _) _) _⟩

set_option maxHeartbeats 1000000 in
theorem pt_same (u v : Option Addr) (p po q qo n cu cv : Nat) (L : List Int) (w : World) (hl : L.length = n * 2) (hn : n ≤ 4611686018427387904)
    (hu : n ≠ 0 → u = some ⟨p, po, none⟩ ∧ p < w.heap.size ∧ IntsAt w p po L) (hv : n ≠ 0 → v = some ⟨q, qo, none⟩ ∧ q < w.heap.size ∧ IntsAt w q qo L) :
    Calls Try.prog 28 #[.slice u n cu, .slice v n cv] w fun e w' => e = .returned (.bool true) ∧ Below w.heap.size w w' := by
  have HU := hide hu
  have HV := hide hv
  have HL := hide hl
  clear hu hv hl
  go_enter Try.func28, Try.ntmps28
  go_wp2
  go_loopw [5] (fun s W => ∃ i : Nat, s = .int .i64 (i : Int) ∧ i ≤ n ∧ Below w.heap.size w W) (fun s _ => n - (intOf s).toNat)
  case atStart => exact ⟨0, rfl, Nat.zero_le _, Below.refl _ _⟩
  case round =>
    obtain ⟨i, rfl, hi, hw⟩ := hrel
    have HW := hide hw
    clear hw
    by_cases h : i < n
    · have i1 : (i : Int) < (n : Int) := by omega
      have i0 : (0 : Int) ≤ (i : Int) := Int.natCast_nonneg _
      have iz : decide ((i : Int) < (n : Int)) = true := decide_eq_true i1
      obtain ⟨rfl, pw, pa⟩ := unhide HU (by omega)
      obtain ⟨rfl, qw, qa⟩ := unhide HV (by omega)
      have pb := pa.below (unhide HW) pw
      have qb := qa.below (unhide HW) qw
      obtain ⟨x0, e0⟩ := at_of (f := 0) (unhide HL) h (by omega)
      have k0 := pb.at0 e0
      have l0 := qb.at0 e0
      obtain ⟨x1, e1⟩ := at_of (f := 1) (unhide HL) h (by omega)
      have k1 := pb.at e1
      have l1 := qb.at e1
      clear pa qa pb qb pw qw e0 e1
      go_wp2_with fail
      go_region_held3 (fun wx => wx.cell? ⟨p, po + i * 2, none⟩ = some (.int .i64 x0) ∧ wx.cell? ⟨p, po + i * 2 + 1, none⟩ = some (.int .i64 x1) ∧ wx.cell? ⟨q, qo + i * 2, none⟩ = some (.int .i64 x0) ∧ wx.cell? ⟨q, qo + i * 2 + 1, none⟩ = some (.int .i64 x1))
        (simp (maxDischargeDepth := 12) [go_sem, le1, lt1, *])
        (first
        | (go_at_call 63; refine (ptE_one _ _ _).mono ?_; rintro e w' ⟨rfl, hb⟩; have HB := hide hb; have y0 := keep1 hb (b := p) (o := _) (v := .int .i64 x0) k0; have y1 := keep1 hb (b := p) (o := _) (v := .int .i64 x1) k1; have z0 := keep1 hb (b := q) (o := _) (v := .int .i64 x0) l0; have z1 := keep1 hb (b := q) (o := _) (v := .int .i64 x1) l1; clear hb))
      all_goals
        go_wp2_with fail
        go_roundw
        case rel => exact ⟨i + 1, by simp, h, by repeat (first | exact unhide HW | refine bc ?_ (unhide HB) | refine Below.drew ?_)⟩
        case measure => simp only [intOf]; omega
    · have i1 : ¬ (i : Int) < (n : Int) := by omega
      have iz : decide ((i : Int) < (n : Int)) = false := decide_eq_false i1
      go_wp2_with fail
      go_ret
      exact ⟨rfl, unhide HW⟩

set_option maxHeartbeats 1000000 in
theorem pt_held (u : Option Addr) (p n cu : Nat) (c : Int) (w : World) (hn : n ≤ 288230376151711744) (c0 : 0 ≤ c) (c1 : c ≤ 1000000)
    (hu : n ≠ 0 → u = some ⟨p, 0, none⟩ ∧ IntsAt w p 0 (marks c (n * 2))) :
    Calls Try.prog 30 #[.slice u n cu, .int .i64 c] w fun e w' => e = .returned (.int .i64 (c + (n : Int) * 2)) ∧ Same w w' := by
  have HU := hide hu
  clear hu
  go_enter Try.func30, Try.ntmps30
  go_wp2
  go_loopw [1, 5] (fun s t W => ∃ i : Nat, s = .int .i64 (c + (i : Int) * 2) ∧ t = .int .i64 (i : Int) ∧ i ≤ n ∧ Same w W) (fun _ s _ => n - (intOf s).toNat)
  case atStart => exact ⟨0, by simp, rfl, Nat.zero_le _, Same.refl _⟩
  case round =>
    obtain ⟨i, rfl, rfl, hi, hw⟩ := hrel
    have HW := hide hw
    clear hw
    by_cases h : i < n
    · have i1 : (i : Int) < (n : Int) := by omega
      have i0 : (0 : Int) ≤ (i : Int) := Int.natCast_nonneg _
      have iz : decide ((i : Int) < (n : Int)) = true := decide_eq_true i1
      obtain ⟨rfl, pa⟩ := unhide HU (by omega)
      have k0 : wr.cell? ⟨p, i * 2, none⟩ = some (.int .i64 (c + (i : Int) * 2)) := by
        have h0 := pa (i * 2 + 0) _ (marks_at c (n * 2) (i * 2 + 0) (mul_lt_of h (by omega)))
        rw [Nat.zero_add] at h0
        rw [show c + (i : Int) * 2 = c + ((i * 2 + 0 : Nat) : Int) by omega, (unhide HW).cell]
        exact h0
      have k1 : wr.cell? ⟨p, i * 2 + 1, none⟩ = some (.int .i64 (c + (i : Int) * 2 + 1)) := by
        have h0 := pa (i * 2 + 1) _ (marks_at c (n * 2) (i * 2 + 1) (mul_lt_of h (by omega)))
        rw [Nat.zero_add] at h0
        rw [show c + (i : Int) * 2 + 1 = c + ((i * 2 + 1 : Nat) : Int) by omega, (unhide HW).cell]
        exact h0
      clear pa
      go_wp2_with fail
      go_roundw
      case rel => exact ⟨i + 1, by simp only [Value.int.injEq, true_and]; omega, by simp, h, by repeat (first | exact unhide HW | refine Same.drew ?_)⟩
      case measure => simp only [intOf]; omega
    · have i1 : ¬ (i : Int) < (n : Int) := by omega
      have iz : decide ((i : Int) < (n : Int)) = false := decide_eq_false i1
      have en : i = n := by omega
      subst en
      go_wp2_with fail
      go_ret
      exact ⟨rfl, unhide HW⟩

set_option maxHeartbeats 1000000 in
theorem pt_mark (u : Option Addr) (p n cu : Nat) (L : List Int) (c : Int) (w : World) (hl : L.length = n * 2) (hn : n ≤ 288230376151711744) (c0 : 0 ≤ c) (c1 : c ≤ 1000000)
    (hu : n ≠ 0 → u = some ⟨p, 0, none⟩ ∧ iblk w p 26 L) :
    Calls Try.prog 29 #[.slice u n cu, .int .i64 c] w fun e w' => e = .returned (.int .i64 (c + (n : Int) * 2)) ∧ (n ≠ 0 → iblk w' p 26 (marks c (n * 2))) ∧ But p w w' := by
  have HU := hide hu
  have HL := hide hl
  clear hu hl
  go_enter Try.func29, Try.ntmps29
  go_wp2
  go_loopw [1, 5] (fun s t W => ∃ i : Nat, s = .int .i64 (c + (i : Int) * 2) ∧ t = .int .i64 (i : Int) ∧ i ≤ n ∧ (n ≠ 0 → iblk W p 26 (marks c (i * 2) ++ L.drop (i * 2))) ∧ But p w W) (fun _ s _ => n - (intOf s).toNat)
  case atStart => exact ⟨0, by simp, rfl, Nat.zero_le _, fun hn => by simpa [marks] using (unhide HU hn).2, But.refl _ _⟩
  case round =>
    obtain ⟨i, rfl, rfl, hi, hb, hw⟩ := hrel
    have HB := hide hb
    have HW := hide hw
    clear hb hw
    by_cases h : i < n
    · have i1 : (i : Int) < (n : Int) := by omega
      have i0 : (0 : Int) ≤ (i : Int) := Int.natCast_nonneg _
      have iz : decide ((i : Int) < (n : Int)) = true := decide_eq_true i1
      obtain ⟨rfl, _⟩ := unhide HU (by omega)
      have pb := unhide HB (by omega)
      have j0 : i * 2 + 0 < L.length := by rw [unhide HL]; exact mul_lt_of h (by omega)
      have k0 : wr.cell? ⟨p, i * 2, none⟩ = some (.int .i64 (L[i * 2 + 0]'j0)) := pb.cell (marks_drop1 c L (i * 2) 0 j0)
      generalize L[i * 2 + 0]'j0 = x0 at k0
      have j1 : i * 2 + 1 < L.length := by rw [unhide HL]; exact mul_lt_of h (by omega)
      have k1 : wr.cell? ⟨p, i * 2 + 1, none⟩ = some (.int .i64 (L[i * 2 + 1]'j1)) := pb.cell (marks_drop1 c L (i * 2) 1 j1)
      generalize L[i * 2 + 1]'j1 = x1 at k1
      have fz : ∀ o, wr.frozen? ⟨p, o, none⟩ = false := pb.frozen
      have PB := hide pb
      have J0 := hide j0; have J1 := hide j1
      clear pb j0 j1
      go_wp2_with fail
      go_roundw
      case rel =>
        refine ⟨i + 1, by simp only [Value.int.injEq, true_and]; omega, by simp, h, fun _ => ?_, ?_⟩
        · have h1 := ((unhide PB).set (i * 2) (c + (i : Int) * 2)).set (i * 2 + 1) (c + (i : Int) * 2 + 1)
          rw [marks_step c L (i * 2) (unhide J0) _ (by omega), marks_step c L (i * 2 + 1) (unhide J1) _ (by omega)] at h1
          rw [show (i + 1) * 2 = i * 2 + 2 by omega]
          exact h1
        · exact ((unhide HW).setCell _ _).setCell _ _
      case measure => simp only [intOf]; omega
    · have i1 : ¬ (i : Int) < (n : Int) := by omega
      have iz : decide ((i : Int) < (n : Int)) = false := decide_eq_false i1
      have en : i = n := by omega
      subst en
      go_wp2_with fail
      go_ret
      refine ⟨rfl, fun hn => ?_, unhide HW⟩
      have h1 := unhide HB hn
      rw [List.drop_eq_nil_of_le (by rw [unhide HL]; omega), List.append_nil] at h1
      exact h1
end Go.Proofs.Ytjhldjojkaphkaa
