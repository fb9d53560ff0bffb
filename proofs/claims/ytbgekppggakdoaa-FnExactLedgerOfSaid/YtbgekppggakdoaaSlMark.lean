/-
  That a row of slots is written over.
-/
import Derived.Test.YtbgekppggakdoaaSlRows
import Derived.Test.YtbgekppggakdoaaHlE
namespace Go.Proofs.Ytbgekppggakdoaa
open Go.ChangeShapes Go.WideShapes Go.ChangeAt Go.RowKit
set_option linter.unusedVariables false
set_option linter.unusedSimpArgs false

set_option maxRecDepth 100000 in
set_option maxHeartbeats 4000000 in
theorem sl_mark (g n cu : Nat) (P : List Slt) (c : Int) (w : World) (hl : P.length = n) (hn : n ≤ 1048576) (c0 : 0 ≤ c) (c1 : c ≤ 1000000000000000) (hv : vb w g 71 (flatG slc P)) :
    Calls Try.prog 22 #[.slice (some ⟨g, 0, none⟩) n cu, .int .i64 c] w fun e w' => e = .returned (.int .i64 (c + (n : Int) * 6)) ∧ Mw (fun x => x = g) w w' := by
  have HL := hide hl
  have HV := hide hv
  clear hl hv
  go_enter Try.func22, Try.ntmps22
  go_wp2_with fail
  go_loopw [1, 5] (fun z s W => ∃ (i : Nat) (Q : List Slt), z = .int .i64 (c + (i : Int) * 6) ∧ s = .int .i64 (i : Int) ∧ i ≤ n ∧ Q.length = n ∧ vb W g 71 (flatG slc Q) ∧ Mw (fun x => x = g) w W) (fun _ s _ => n - (intOf s).toNat)
  case atStart => exact ⟨0, P, by simp, rfl, Nat.zero_le _, unhide HL, unhide HV, Mw.refl _ _⟩
  case round =>
    obtain ⟨i, Q, rfl, rfl, hi, hq, hv, hm⟩ := hrel
    have HQ := hide hq
    have HVV := hide hv
    have HM := hide hm
    have i0 : (0 : Int) ≤ (i : Int) := Int.natCast_nonneg _
    clear hm
    by_cases h : i < n
    · have i1 : (i : Int) < (n : Int) := by omega
      have iz : decide ((i : Int) < (n : Int)) = true := decide_eq_true i1
      obtain ⟨x, hx⟩ := get_some hq h
      have k0 := hv.cell (flatG_at slc_len' hx (j := 0) rfl)
      have k1 := hv.cell (flatG_at slc_len' hx (j := 1) rfl)
      have k2 := hv.cell (flatG_at slc_len' hx (j := 2) rfl)
      have k3 := hv.cell (flatG_at slc_len' hx (j := 3) rfl)
      have k4 := hv.cell (flatG_at slc_len' hx (j := 4) rfl)
      have k5 := hv.cell (flatG_at slc_len' hx (j := 5) rfl)
      simp only [Nat.add_zero] at k0 k1 k2 k3 k4 k5
      have fz : ∀ o, wr.frozen? ⟨g, o, none⟩ = false := hv.frozen
      obtain ⟨kk, hkk⟩ : ∃ kk, c + (i : Int) * 6 = kk := ⟨_, rfl⟩
      rw [hkk]
      have HKK := hide hkk
      have kb : 0 ≤ kk ∧ kk ≤ 2000000000000000 := by omega
      have w1 : IntKind.i64.wrap (kk + 1) = kk + 1 := wrap_i (by omega) (by omega)
      have w2 : IntKind.i64.wrap (kk + 1 + 1) = kk + 1 + 1 := wrap_i (by omega) (by omega)
      have w3 : IntKind.i64.wrap (kk + 1 + 1 + 1) = kk + 1 + 1 + 1 := wrap_i (by omega) (by omega)
      have w4 : IntKind.i64.wrap (kk + 1 + 1 + 1 + 1) = kk + 1 + 1 + 1 + 1 := wrap_i (by omega) (by omega)
      have w5 : IntKind.i64.wrap (kk + 1 + 1 + 1 + 1 + 1) = kk + 1 + 1 + 1 + 1 + 1 := wrap_i (by omega) (by omega)
      have w6 : IntKind.i64.wrap (kk + 1 + 1 + 1 + 1 + 1 + 1) = kk + 1 + 1 + 1 + 1 + 1 + 1 := wrap_i (by omega) (by omega)
      clear hkk hx hq hv
      go_wp2_with fail
      go_roundw
      case rel =>
        have hil : i < Q.length := by rw [unhide HQ]; exact h
        refine ⟨i + 1, Q.set i ⟨kk, kk + 1, kk + 1 + 1, kk + 1 + 1 + 1, kk + 1 + 1 + 1 + 1, ((kk + 1 + 1 + 1 + 1 + 1) % 3 == 0)⟩, ?_, by simp, h, by simp [unhide HQ], ?_, ?_⟩
        · have := unhide HKK
          simp only [Value.int.injEq, true_and]
          omega
        · rw [flatG_set slc_len' _ _ _ hil]
          have r := ((((((unhide HVV).set (i * 6) (.int .i64 kk)).set (i * 6 + 1) (.int .i64 (kk + 1))).set (i * 6 + 2) (.int .i64 (kk + 1 + 1))).set (i * 6 + 3) (.int .i64 (kk + 1 + 1 + 1))).set (i * 6 + 4) (.int .i64 (kk + 1 + 1 + 1 + 1))).set (i * 6 + 5) (.bool ((kk + 1 + 1 + 1 + 1 + 1) % 3 == 0))
          exact r
        · exact ((((((unhide HM).set _ rfl).set _ rfl).set _ rfl).set _ rfl).set _ rfl).set _ rfl
      case measure => first | (simp only [intOf]; omega) | (simp [intOf]; omega)
    · have iz : decide ((i : Int) < (n : Int)) = false := decide_eq_false (by omega)
      have en : n = i := by omega
      subst en
      clear hq hv
      go_wp2_with fail
      go_ret
      exact ⟨rfl, unhide HM⟩
end Go.Proofs.Ytbgekppggakdoaa
