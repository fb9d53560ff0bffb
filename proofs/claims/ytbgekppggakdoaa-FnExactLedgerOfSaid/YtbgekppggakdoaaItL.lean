/-
  What the laws ask of rows of whole numbers: copies, that two are the same, that one is written over, that it is held.
-/
import Derived.Test.YtbgekppggakdoaaItRows
import Derived.Test.YtbgekppggakdoaaRowX
namespace Go.Proofs.Ytbgekppggakdoaa
open Go.ChangeShapes Go.WideShapes Go.ChangeAt Go.RowKit
set_option linter.unusedVariables false
set_option linter.unusedSimpArgs false

set_option maxHeartbeats 1000000 in
theorem it_same (u v : Option Addr) (p po q qo n cu cv : Nat) (L : List Int) (w : World) (hl : L.length = n) (hn : n ≤ 1048576)
    (hu : Its w u p po L) (hv : Its w v q qo L) :
    Calls Try.prog 42 #[.slice u n cu, .slice v n cv] w fun e w' => e = .returned (.bool true) ∧ Below w.heap.size w w' := by
  have HU := hide hu
  have HV := hide hv
  have HL := hide hl
  clear hu hv hl
  go_enter Try.func42, Try.ntmps42
  go_wp2
  go_loopw [5] (fun s W => ∃ i : Nat, s = .int .i64 (i : Int) ∧ i ≤ n ∧ Below w.heap.size w W) (fun s _ => n - (intOf s).toNat)
  case atStart => exact ⟨0, rfl, Nat.zero_le _, Below.refl _ _⟩
  case round =>
    obtain ⟨i, rfl, hi, hw⟩ := hrel
    have HW := hide hw
    clear hw
    by_cases h : i < n
    · have i1 : (i : Int) < (n : Int) := by omega
      have i0 : (0 : Int) ≤ (i : Int) := Int.natCast_nonneg _
      have iz : decide ((i : Int) < (n : Int)) = true := decide_eq_true i1
      obtain ⟨x, hx⟩ := get_some (unhide HL) h
      obtain ⟨rfl, pw, k0⟩ := ((unhide HU).bel (unhide HW)).at hx
      obtain ⟨rfl, qw, l0⟩ := ((unhide HV).bel (unhide HW)).at hx
      have xx : (x != x) = false := by simp
      clear pw qw hx
      go_wp2_with fail
      go_quiet (fail)
      go_wp2_with fail
      go_roundw
      case rel => exact ⟨i + 1, by simp, h, by repeat (first | exact unhide HW | refine bel_dn' ?_ _ | refine Below.drew ?_)⟩
      case measure => simp only [intOf]; omega
    · have i1 : ¬ (i : Int) < (n : Int) := by omega
      have iz : decide ((i : Int) < (n : Int)) = false := decide_eq_false i1
      go_wp2_with fail
      go_ret
      exact ⟨rfl, unhide HW⟩
set_option maxHeartbeats 1000000 in
theorem it_mark (u : Option Addr) (p n cu : Nat) (L : List Int) (c : Int) (w : World) (hl : L.length = n) (hn : n ≤ 1048576) (c0 : 0 ≤ c) (c1 : c ≤ 100000000)
    (hu : n ≠ 0 → u = some ⟨p, 0, none⟩ ∧ iblk w p 3 L) :
    Calls Try.prog 45 #[.slice u n cu, .int .i64 c] w fun e w' => e = .returned (.int .i64 (c + (n : Int))) ∧ (n ≠ 0 → iblk w' p 3 (marks c n)) ∧ (n = 0 → w' = w) ∧ But p w w' := by
  have HU := hide hu
  have HL := hide hl
  clear hu hl
  go_enter Try.func45, Try.ntmps45
  go_wp2
  go_loopw [1, 5] (fun s t W => ∃ i : Nat, s = .int .i64 (c + (i : Int)) ∧ t = .int .i64 (i : Int) ∧ i ≤ n ∧ (n ≠ 0 → iblk W p 3 (marks c i ++ L.drop i)) ∧ (n = 0 → W = w) ∧ But p w W) (fun _ s _ => n - (intOf s).toNat)
  case atStart => exact ⟨0, by simp, rfl, Nat.zero_le _, fun hn => by simpa [marks] using (unhide HU hn).2, fun _ => rfl, But.refl _ _⟩
  case round =>
    obtain ⟨i, rfl, rfl, hi, hb, hz, hw⟩ := hrel
    have HB := hide hb
    have HW := hide hw
    have HZ := hide hz
    clear hb hw hz
    by_cases h : i < n
    · have i1 : (i : Int) < (n : Int) := by omega
      have i0 : (0 : Int) ≤ (i : Int) := Int.natCast_nonneg _
      have iz : decide ((i : Int) < (n : Int)) = true := decide_eq_true i1
      obtain ⟨rfl, _⟩ := unhide HU (by omega)
      have pb := unhide HB (by omega)
      have j0 : i + 0 < L.length := by rw [unhide HL]; omega
      have k0 : wr.cell? ⟨p, i, none⟩ = some (.int .i64 (L[i + 0]'j0)) := pb.cell (marks_drop1 c L i 0 j0)
      generalize L[i + 0]'j0 = x0 at k0
      have fz : ∀ o, wr.frozen? ⟨p, o, none⟩ = false := pb.frozen
      have PB := hide pb
      have J0 := hide j0
      clear pb j0
      go_wp2_with fail
      go_roundw
      case rel =>
        refine ⟨i + 1, by simp only [Value.int.injEq, true_and]; omega, by simp, h, fun _ => ?_, fun e => by omega, ?_⟩
        · have h1 := (unhide PB).set i (c + (i : Int))
          rw [marks_step c L i (unhide J0) _ (by omega)] at h1
          exact h1
        · exact (unhide HW).setCell _ _
      case measure => simp only [intOf]; omega
    · have i1 : ¬ (i : Int) < (n : Int) := by omega
      have iz : decide ((i : Int) < (n : Int)) = false := decide_eq_false i1
      have en : i = n := by omega
      subst en
      go_wp2_with fail
      go_ret
      refine ⟨rfl, fun hn => ?_, unhide HZ, unhide HW⟩
      have h1 := unhide HB hn
      rw [List.drop_eq_nil_of_le (by rw [unhide HL]; omega), List.append_nil] at h1
      exact h1
set_option maxHeartbeats 1000000 in
theorem it_held (u : Option Addr) (p po n cu : Nat) (c : Int) (w : World) (hn : n ≤ 1048576) (c0 : 0 ≤ c) (c1 : c ≤ 1000000)
    (hu : Its w u p po (marks c n)) :
    Calls Try.prog 46 #[.slice u n cu, .int .i64 c] w fun e w' => e = .returned (.int .i64 (c + (n : Int))) ∧ Same w w' := by
  have HU := hide hu
  clear hu
  go_enter Try.func46, Try.ntmps46
  go_wp2
  go_loopw [1, 5] (fun s t W => ∃ i : Nat, s = .int .i64 (c + (i : Int)) ∧ t = .int .i64 (i : Int) ∧ i ≤ n ∧ Same w W) (fun _ s _ => n - (intOf s).toNat)
  case atStart => exact ⟨0, by simp, rfl, Nat.zero_le _, Same.refl _⟩
  case round =>
    obtain ⟨i, rfl, rfl, hi, hw⟩ := hrel
    have HW := hide hw
    clear hw
    by_cases h : i < n
    · have i1 : (i : Int) < (n : Int) := by omega
      have i0 : (0 : Int) ≤ (i : Int) := Int.natCast_nonneg _
      have iz : decide ((i : Int) < (n : Int)) = true := decide_eq_true i1
      obtain ⟨rfl, pw, k0⟩ := (unhide HU).at (marks_at c n i h)
      rw [← (unhide HW).cell] at k0
      clear pw
      go_wp2_with fail
      go_roundw
      case rel => exact ⟨i + 1, by simp only [Value.int.injEq, true_and]; omega, by simp, h, by repeat (first | exact unhide HW | refine Same.drew ?_)⟩
      case measure => simp only [intOf]; omega
    · have i1 : ¬ (i : Int) < (n : Int) := by omega
      have iz : decide ((i : Int) < (n : Int)) = false := decide_eq_false i1
      have en : i = n := by omega
      subst en
      go_wp2_with fail
      go_ret
      exact ⟨rfl, unhide HW⟩
theorem iblk.its {w : World} {g : Nat} {L : List Int} {t : Nat} (h : iblk w g t L) : Its w (some ⟨g, 0, none⟩) g 0 L := fun _ => ⟨rfl, h.lt, h.ints⟩
theorem its_of {a : Option Addr} {n : Nat} {L : List Int} {w : World} (hl : L.length = n) (h : n ≠ 0 → ∃ p po, a = some ⟨p, po, none⟩ ∧ p < w.heap.size ∧ IntsAt w p po L) : ∃ p po, Its w a p po L := by
  by_cases hn : n = 0
  · exact ⟨0, 0, fun h0 => absurd (List.eq_nil_of_length_eq_zero (hl.trans hn)) h0⟩
  · obtain ⟨p, po, h1, h2, h3⟩ := h hn
    exact ⟨p, po, fun _ => ⟨h1, h2, h3⟩⟩
end Go.Proofs.Ytbgekppggakdoaa
