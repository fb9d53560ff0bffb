/-
  The program's pieces of the question whether a feature is right.
-/
import Derived.Test.YtkkmikgeppkhiaaFtMath
import Derived.Test.YtkkmikgeppkhiaaNameOK
namespace Go.Proofs.Ytkkmikgeppkhiaa
open Go.ChangeShapes Go.WideShapes Go.ChangeAt Go.RowKit
set_option linter.unusedVariables false
set_option linter.unusedSimpArgs false

def btw (x a b : Int) : Bool := decide (a ≤ x) && decide (x ≤ b)
theorem btw_any (x a b : Int) (w : World) : Calls Try.prog 94 #[.int .i64 x, .int .i64 a, .int .i64 b] w fun e w' => e = .returned (.bool (btw x a b)) ∧ w' = w := by
  unfold btw
  go_enter Try.func94, Try.ntmps94
  go_wp2
  all_goals
    go_ret
    refine ⟨ret_bool ?_, rfl⟩
    first | (simp [*]; done) | (simp; omega)
def axOk (f l a b : Int) : Bool := decide (f ≤ a ∧ a < b ∧ b ≤ l)
def fitB (f l x0 y0 z0 x1 y1 z1 : Int) : Bool := axOk f l x0 x1 && axOk f l y0 y1 && axOk f l z0 z1
theorem fit_loose (x0 y0 z0 x1 y1 z1 : Int) : fitB (-24) 24 x0 y0 z0 x1 y1 z1 = loose x0 y0 z0 x1 y1 z1 := by
  unfold fitB loose axOk inG
  rw [Bool.eq_iff_iff]
  simp
  omega
set_option maxRecDepth 100000 in
set_option maxHeartbeats 4000000 in
theorem fits_any (f l x0 y0 z0 x1 y1 z1 : Int) (w : World) : Calls Try.prog 92 #[.agg #[.int .i64 x0, .int .i64 y0, .int .i64 z0, .int .i64 x1, .int .i64 y1, .int .i64 z1], .int .i64 f, .int .i64 l] w fun e w' => e = .returned (.bool (fitB f l x0 y0 z0 x1 y1 z1)) ∧ Below w.heap.size w w' := by
  go_enter Try.func92, Try.ntmps92
  go_wp2
  have HV := hide (vb_new (w.alloc (.cells #[.int .i64 x0, .int .i64 y0, .int .i64 z0, .int .i64 x1, .int .i64 y1, .int .i64 z1] 55)) 143 [.int .i64 x0, .int .i64 x1, .int .i64 y0, .int .i64 y1, .int .i64 z0, .int .i64 z1] _ rfl)
  have HB := hide (ba (ba (Below.refl w.heap.size w) (.cells #[.int .i64 x0, .int .i64 y0, .int .i64 z0, .int .i64 x1, .int .i64 y1, .int .i64 z1] 55)) (.cells #[.int .i64 x0, .int .i64 x1, .int .i64 y0, .int .i64 y1, .int .i64 z0, .int .i64 z1] 143))
  simp only [World.size_alloc] at HV
  go_loopw [26] (fun s W => ∃ i : Nat, s = .int .i64 (i : Int) ∧ i ≤ 3 ∧ vb W (w.heap.size + 1) 143 [.int .i64 x0, .int .i64 x1, .int .i64 y0, .int .i64 y1, .int .i64 z0, .int .i64 z1] ∧ (0 < i → axOk f l x0 x1 = true) ∧ (1 < i → axOk f l y0 y1 = true) ∧ (2 < i → axOk f l z0 z1 = true) ∧ Below w.heap.size w W) (fun s _ => 3 - (intOf s).toNat)
  case atStart => exact ⟨0, rfl, by omega, unhide HV, fun h => by omega, fun h => by omega, fun h => by omega, unhide HB⟩
  case round =>
    obtain ⟨i, rfl, hi, hv, h0, h1, h2, hw⟩ := hrel
    have HW := hide hw
    clear hw HV HB
    have c0 := hv.cell (m := 0) rfl
    have c1 := hv.cell (m := 1) rfl
    have c2 := hv.cell (m := 2) rfl
    have c3 := hv.cell (m := 3) rfl
    have c4 := hv.cell (m := 4) rfl
    have c5 := hv.cell (m := 5) rfl
    have V := hide hv
    have H0 := hide h0
    have H1 := hide h1
    have H2 := hide h2
    clear hv h0 h1 h2
    have hc : i = 0 ∨ i = 1 ∨ i = 2 ∨ i = 3 := by omega
    rcases hc with rfl | rfl | rfl | rfl
    · go_wp2
      all_goals first
        | (go_ret; refine ⟨ret_bool ?_, by first | exact ba (unhide HW) _⟩; simp [fitB, axOk]; omega)
        | skip
      go_roundw
      case rel => exact ⟨1, rfl, by omega, (unhide V).bel (ba (Below.refl _ _) _), fun _ => decide_eq_true (by omega), fun h => by omega, fun h => by omega, ba (unhide HW) _⟩
      case measure => simp [intOf]
    · have k0 := unhide H0 (by omega)
      go_wp2
      all_goals first
        | (go_ret; refine ⟨ret_bool ?_, by first | exact ba (unhide HW) _⟩; simp [fitB, axOk]; omega)
        | skip
      go_roundw
      case rel => exact ⟨2, rfl, by omega, (unhide V).bel (ba (Below.refl _ _) _), fun _ => k0, fun _ => decide_eq_true (by omega), fun h => by omega, ba (unhide HW) _⟩
      case measure => simp [intOf]
    · have k0 := unhide H0 (by omega)
      have k1 := unhide H1 (by omega)
      go_wp2
      all_goals first
        | (go_ret; refine ⟨ret_bool ?_, by first | exact ba (unhide HW) _⟩; simp [fitB, axOk]; omega)
        | skip
      go_roundw
      case rel => exact ⟨3, rfl, by omega, (unhide V).bel (ba (Below.refl _ _) _), fun _ => k0, fun _ => k1, fun _ => decide_eq_true (by omega), ba (unhide HW) _⟩
      case measure => simp [intOf]
    · have k0 := unhide H0 (by omega)
      have k1 := unhide H1 (by omega)
      have k2 := unhide H2 (by omega)
      go_wp2
      go_ret
      exact ⟨ret_bool (by simp [fitB, k0, k1, k2]), unhide HW⟩
end Go.Proofs.Ytkkmikgeppkhiaa
