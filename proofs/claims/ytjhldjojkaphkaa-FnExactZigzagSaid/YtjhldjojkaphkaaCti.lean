/-
  slices.Contains over a row of numbers.
-/
import Derived.Test.YtjhldjojkaphkaaClI
import Derived.Test.YtjhldjojkaphkaaByt
namespace Go.Proofs.Ytjhldjojkaphkaa
open Go.ChangeShapes Go.WideShapes Go.ChangeAt Go.RowKit Go.Shelf
set_option linter.unusedVariables false
set_option linter.unusedSimpArgs false

set_option maxHeartbeats 4000000 in
set_option maxRecDepth 100000 in
theorem ixI (u : Option Addr) (p po n c : Nat) (L : List Int) (z : Int) (w : World) (hl : L.length = n) (hn : n ≤ 9223372036854775807) (hu : Its w u p po L) :
    Calls Try.prog 96 #[.slice u n c, .int .i64 z] w fun e w' => (∃ r : Int, e = .returned (.int .i64 r) ∧ decide (0 ≤ r) = L.any (fun x => x == z)) ∧ w' = w := by
  have HU := hide hu
  have HL := hide hl
  have n0 : (0 : Int) ≤ (n : Int) := Int.natCast_nonneg _
  clear hu hl
  go_enter Try.func96, Try.ntmps96
  go_wp2_with fail
  go_loopw [8] (fun s W => ∃ i : Nat, s = .int .i64 (i : Int) ∧ i ≤ n ∧ (L.take i).any (fun x => x == z) = false ∧ W = w) (fun s _ => n - (intOf s).toNat)
  case atStart => exact ⟨0, rfl, Nat.zero_le _, by simp, rfl⟩
  case round =>
    obtain ⟨i, rfl, hi, ha, rfl⟩ := hrel
    have HA := hide ha
    clear ha
    by_cases h : i < n
    · have i1 : (i : Int) < (n : Int) := by omega
      have i0 : (0 : Int) ≤ (i : Int) := Int.natCast_nonneg _
      have iz : decide ((i : Int) < (n : Int)) = true := decide_eq_true i1
      obtain ⟨x, hx⟩ := get_some (unhide HL) h
      obtain ⟨rfl, pw, k0⟩ := (unhide HU).at hx
      have HX := hide hx
      clear pw hx
      by_cases hxz : z = x
      · have s1 : (z == x) = true := by rw [hxz]; exact beq_self_eq_true x
        have s2 : decide (z = x) = true := decide_eq_true hxz
        go_wp2_with fail
        go_ret
        refine ⟨⟨_, rfl, ?_⟩, rfl⟩
        rw [decide_eq_true i0]
        exact (List.any_eq_true.2 ⟨x, List.mem_of_getElem? (unhide HX), by rw [hxz]; exact beq_self_eq_true x⟩).symm
      · have s1 : (z == x) = false := beq_eq_false_iff_ne.2 hxz
        have s2 : decide (z = x) = false := decide_eq_false hxz
        go_wp2_with fail
        go_roundw
        case rel => exact ⟨i + 1, by simp, h, by rw [List.take_add_one, unhide HX, List.any_append, unhide HA]; simp; exact fun e => hxz e.symm, by first | rfl | trivial⟩
        case measure => simp only [intOf]; omega
    · have iz : decide ((i : Int) < (n : Int)) = false := decide_eq_false (by omega)
      have HE : Hid (L.any (fun x => x == z) = false) := hide (by have := unhide HA; rwa [List.take_of_length_le (by rw [unhide HL]; omega)] at this)
      go_wp2_with fail
      go_ret
      refine ⟨⟨_, rfl, ?_⟩, rfl⟩
      rw [unhide HE]
      rfl
theorem ctI (u : Option Addr) (p po n c : Nat) (L : List Int) (z : Int) (w : World) (hl : L.length = n) (hn : n ≤ 9223372036854775807) (hu : Its w u p po L) :
    Calls Try.prog 78 #[.slice u n c, .int .i64 z] w fun e w' => e = .returned (.bool (L.any (fun x => x == z))) ∧ w' = w := by
  have HI := hide (ixI u p po n c L z w hl hn hu)
  clear hu
  go_enter Try.func78, Try.ntmps78
  go_wp2_with fail
  refine (unhide HI).mono ?_
  rintro e w' ⟨⟨r, rfl, hr⟩, rfl⟩
  have HR := hide hr
  clear hr
  go_wp2_with fail
  go_ret
  exact ⟨by rw [← unhide HR]; rfl, rfl⟩
end Go.Proofs.Ytjhldjojkaphkaa
