/-
  The program's sums: a number of each link, and the sum of numbers.
-/
import Derived.Test.YtmhdodecofpchaaLkFns
namespace Go.Proofs.Ytmhdodecofpchaa
open Go.ChangeShapes Go.WideShapes Go.ChangeAt Go.RowKit
set_option linter.unusedVariables false
set_option linter.unusedSimpArgs false

theorem sumL_succ {L : List Int} {i : Nat} {x : Int} (h : L[i]? = some x) : sumL (L.take (i + 1)) = sumL (L.take i) + x := by
  rw [List.take_add_one, h]
  exact sumL_snoc _ _

set_option maxHeartbeats 1000000 in
theorem sum_any (u : Option Addr) (p po m cu : Nat) (L : List Int) (w : World) (hl : L.length = m) (hm : m ≤ 1048576)
    (hb : ∀ i, i ≤ m → -9223372036854775808 ≤ sumL (L.take i) ∧ sumL (L.take i) ≤ 9223372036854775807) (hu : m ≠ 0 → u = some ⟨p, po, none⟩ ∧ IntsAt w p po L) :
    Calls Try.prog 34 #[.slice u m cu] w fun e w' => e = .returned (.int .i64 (sumL L)) ∧ w' = w := by
  have HU := hide hu
  have HL := hide hl
  have HB := hide hb
  have m0 : (0 : Int) ≤ (m : Int) := Int.natCast_nonneg _
  clear hu hl hb
  go_enter Try.func34, Try.ntmps34
  go_wp2
  go_loopw [3, 8] (fun t z W => ∃ i : Nat, t = .int .i64 (sumL (L.take i)) ∧ z = .int .i64 (i : Int) ∧ i ≤ m ∧ W = w) (fun _ z _ => m - (intOf z).toNat)
  case atStart => exact ⟨0, by simp [sumL], rfl, Nat.zero_le _, rfl⟩
  case round =>
    obtain ⟨i, rfl, rfl, hi, rfl⟩ := hrel
    by_cases h : i < m
    · have i1 : (i : Int) < (m : Int) := by omega
      have i0 : (0 : Int) ≤ (i : Int) := Int.natCast_nonneg _
      have iz : decide ((i : Int) < (m : Int)) = true := decide_eq_true i1
      obtain ⟨x, hx⟩ := get_some (unhide HL) h
      obtain ⟨rfl, hc⟩ := unhide HU (by omega)
      have k0 := hc i x hx
      have hs := sumL_succ hx
      have hb1 := unhide HB (i + 1) h
      rw [hs] at hb1
      obtain ⟨b0, b1⟩ := hb1
      have HS := hide hs
      clear hc hx hs
      generalize sumL (L.take i) = S at *
      go_wp2_with fail
      go_roundw
      case rel => exact ⟨i + 1, by rw [unhide HS], by simp, h, by first | rfl | trivial⟩
      case measure => simp only [intOf]; omega
    · have i1 : ¬ (i : Int) < (m : Int) := by omega
      have iz : decide ((i : Int) < (m : Int)) = false := decide_eq_false i1
      have e : L.take i = L := List.take_of_length_le (by rw [unhide HL]; omega)
      rw [e]
      go_wp2_with fail
      go_ret
      exact ⟨rfl, rfl⟩

theorem int_info : (Try.prog.info? 3).map (fun i => (i.zero, i.size, i.bytes)) = some (some (.int .i64 0), 1, 8) := by kernel_rfl

end Go.Proofs.Ytmhdodecofpchaa
