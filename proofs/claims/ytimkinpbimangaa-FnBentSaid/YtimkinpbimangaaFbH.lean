/-
  The law's own helpers: numbers without their sign, rows that are the same.
-/
import Derived.Test.YtimkinpbimangaaFbR
import Derived.Test.YtimkinpbimangaaFtF
import Derived.Test.YtimkinpbimangaaSou
namespace Go.Proofs.Ytimkinpbimangaa
open Go.ChangeShapes Go.WideShapes Go.ChangeAt Go.RowKit
set_option linter.unusedVariables false
set_option linter.unusedSimpArgs false

theorem absL_any (x : Int) (w : World) (h0 : -1000000 ≤ x) (h1 : x ≤ 1000000) : Calls Try.prog 11 #[.int .i64 x] w fun e w' => e = .returned (.int .i64 (x.natAbs : Int)) ∧ Below w.heap.size w w' := by
  by_cases h : x < 0
  · have t : decide (x < 0) = true := decide_eq_true h
    go_enter Try.func11, Try.ntmps11
    go_wp2
    go_ret
    exact ⟨ret_int (by omega), Below.refl _ _⟩
  · have t : decide (x < 0) = false := decide_eq_false h
    go_enter Try.func11, Try.ntmps11
    go_wp2
    go_ret
    exact ⟨ret_int (by omega), Below.refl _ _⟩
set_option maxHeartbeats 1000000 in
theorem sm_same (u v : Option Addr) (p po q qo n cu cv : Nat) (L : List Int) (w : World) (hl : L.length = n) (hn : n ≤ 1048576)
    (hu : Its w u p po L) (hv : Its w v q qo L) :
    Calls Try.prog 13 #[.slice u n cu, .slice v n cv] w fun e w' => e = .returned (.bool true) ∧ Below w.heap.size w w' := by
  have HU := hide hu
  have HV := hide hv
  have HL := hide hl
  clear hu hv hl
  go_enter Try.func13, Try.ntmps13
  go_wp2
  go_loopw [5] (fun s W => ∃ i : Nat, s = .int .i64 (i : Int) ∧ i ≤ n ∧ Below w.heap.size w W) (fun s _ => n - (intOf s).toNat)
  case atStart => exact ⟨0, rfl, Nat.zero_le _, Below.refl _ _⟩
  case round =>
    obtain ⟨i, rfl, hi, hw⟩ := hrel
    have HW := hide hw
    clear hw
    by_cases h : i < n
    · have i1 : (i : Int) < (n : Int) := by omega
      have i0 : (0 : Int) ≤ (i : Int) := Int.natCast_nonneg _
      have iz : decide ((i : Int) < (n : Int)) = true := decide_eq_true i1
      obtain ⟨x, hx⟩ := get_some (unhide HL) h
      obtain ⟨rfl, pw, k0⟩ := ((unhide HU).bel (unhide HW)).at hx
      obtain ⟨rfl, qw, l0⟩ := ((unhide HV).bel (unhide HW)).at hx
      have xx : (x != x) = false := by simp
      clear pw qw hx
      go_wp2_with fail
      go_quiet (fail)
      go_wp2_with fail
      go_roundw
      case rel => exact ⟨i + 1, by simp, h, by repeat (first | exact unhide HW | refine bel_dn' ?_ _ | refine Below.drew ?_)⟩
      case measure => simp only [intOf]; omega
    · have i1 : ¬ (i : Int) < (n : Int) := by omega
      have iz : decide ((i : Int) < (n : Int)) = false := decide_eq_false i1
      go_wp2_with fail
      go_ret
      exact ⟨rfl, unhide HW⟩

set_option maxHeartbeats 1000000 in
theorem sp_zero (u v : Option Addr) (cu cv : Nat) (w : World) : Calls Try.prog 10 #[.slice u 0 cu, .slice v 0 cv] w fun e w' => e = .returned (.bool true) ∧ Below w.heap.size w w' := by
  go_enter Try.func10, Try.ntmps10
  go_wp2_with fail
  go_loopw [5] (fun s W => s = .int .i64 0 ∧ W = w) (fun s _ => 0)
  case atStart => exact ⟨rfl, rfl⟩
  case round =>
    obtain ⟨rfl, rfl⟩ := hrel
    go_wp2_with fail
    go_ret
    exact ⟨rfl, Below.refl _ _⟩
set_option maxHeartbeats 2000000 in
theorem sp_some (b c n cap dap : Nat) (A : List Pt) (w : World) (hA : A.length = n) (hn : n ≤ 1048576) (hb : b < w.heap.size) (hc : c < w.heap.size) (ia : IntsAt w b 0 (fl2 A)) (ib : IntsAt w c 0 (fl2 A)) :
    Calls Try.prog 10 #[.slice (some ⟨b, 0, none⟩) n cap, .slice (some ⟨c, 0, none⟩) n dap] w fun e w' => e = .returned (.bool true) ∧ Below w.heap.size w w' := by
  have n0 : (0 : Int) ≤ (n : Int) := Int.natCast_nonneg _
  have HCA : Hid (∀ i, i < n → ∀ W, Below w.heap.size w W → (W.cell? ⟨b, i * 2, none⟩ = some (.int .i64 (ptD A i).1) ∧ W.cell? ⟨b, i * 2 + 1, none⟩ = some (.int .i64 (ptD A i).2)) ∧ W.cell? ⟨c, i * 2, none⟩ = some (.int .i64 (ptD A i).1) ∧ W.cell? ⟨c, i * 2 + 1, none⟩ = some (.int .i64 (ptD A i).2)) := hide (fun i hi W hW => by
    have hx := fl2_D (pts := A) (i := i) (by omega)
    have hh := ia.below hW hb
    have kk := ib.below hW hc
    have h1 := hh _ _ hx.1
    have h2 := hh _ _ hx.2
    have h3 := kk _ _ hx.1
    have h4 := kk _ _ hx.2
    rw [Nat.zero_add] at h1 h2 h3 h4
    exact ⟨⟨h1, h2⟩, h3, h4⟩)
  have ne : ((n : Int) != (n : Int)) = false := by simp
  clear ia ib hA
  go_enter Try.func10, Try.ntmps10
  go_wp2_with fail
  go_loopw [5] (fun s W => ∃ i : Nat, s = .int .i64 (i : Int) ∧ i ≤ n ∧ Below w.heap.size w W) (fun s _ => n - (intOf s).toNat)
  case atStart => exact ⟨0, rfl, Nat.zero_le _, Below.refl _ _⟩
  case round =>
    obtain ⟨i, rfl, hi, hW⟩ := hrel
    have HW := hide hW
    clear hW
    by_cases h : i < n
    · have i1 : (i : Int) < (n : Int) := by omega
      have i0 : (0 : Int) ≤ (i : Int) := Int.natCast_nonneg _
      have iz : decide ((i : Int) < (n : Int)) = true := decide_eq_true i1
      go_wp2_with fail
      refine Go.Code.wp_mono (Only.to (fun _ _ h => h)) (sp6 (hide (unhide HCA i h _ (unhide HW)).1.1) (hide (unhide HCA i h _ (unhide HW)).1.2) (hide (unhide HCA i h _ (unhide HW)).2.1) (hide (unhide HCA i h _ (unhide HW)).2.2) (hide h) (hide h) ?_)
      intro W1 hW1
      have HW1 := hide (bc (unhide HW) hW1)
      clear hW1
      have e1 : (!decide ((ptD A i).1 = (ptD A i).1) || !decide ((ptD A i).2 = (ptD A i).2)) = false := by simp
      rw [e1]
      go_wp2_with fail
      go_roundw
      case rel => first | exact ⟨i + 1, by simp, h, unhide HW1⟩ | ((repeat apply Exists.intro); refine ⟨?_, rfl⟩; exact ⟨i + 1, by simp, h, unhide HW1⟩)
      case measure => first | (simp only [intOf]; omega) | (simp [intOf]; omega)
    · have iz : decide ((i : Int) < (n : Int)) = false := decide_eq_false (by omega)
      go_wp2_with fail
      go_ret
      exact ⟨rfl, unhide HW⟩
end Go.Proofs.Ytimkinpbimangaa
