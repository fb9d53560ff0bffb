/-
  The model's question whether a feature is right.
-/
import Derived.Test.YtkkmikgeppkhiaaFtMath
import Derived.Test.YtkkmikgeppkhiaaNameOK
namespace Go.Proofs.Ytkkmikgeppkhiaa
open Go.ChangeShapes Go.WideShapes Go.ChangeAt Go.RowKit
set_option linter.unusedVariables false
set_option linter.unusedSimpArgs false

theorem inM_any (x : Int) (w : World) : Calls Try.prog 74 #[.int .i64 x] w fun e w' => e = .returned (.bool (inG x)) ∧ w' = w := by
  unfold inG
  go_enter Try.func74, Try.ntmps74
  go_wp2
  all_goals
    go_ret
    refine ⟨ret_bool ?_, rfl⟩
    first | (simp [*]; done) | (simp; omega)

set_option maxHeartbeats 2000000 in
theorem looseM_any (x0 y0 z0 x1 y1 z1 : Int) (w : World) : Calls Try.prog 73 #[.agg #[.int .i64 x0, .int .i64 y0, .int .i64 z0, .int .i64 x1, .int .i64 y1, .int .i64 z1]] w fun e w' => e = .returned (.bool (loose x0 y0 z0 x1 y1 z1)) ∧ Below w.heap.size w w' := by
  have G0 := hide (fun W => inM_any x0 W)
  have G1 := hide (fun W => inM_any y0 W)
  have G2 := hide (fun W => inM_any z0 W)
  have G3 := hide (fun W => inM_any x1 W)
  have G4 := hide (fun W => inM_any y1 W)
  have G5 := hide (fun W => inM_any z1 W)
  unfold loose
  generalize inG x0 = a0 at *
  generalize inG y0 = a1 at *
  generalize inG z0 = a2 at *
  generalize inG x1 = a3 at *
  generalize inG y1 = a4 at *
  generalize inG z1 = a5 at *
  go_enter Try.func73, Try.ntmps73
  go_wp2_with fail
  refine (unhide G0 _).mono ?_
  rintro e W1 ⟨rfl, rfl⟩
  cases a0
  · go_wp2_with fail
    go_ret
    exact ⟨ret_bool (by simp), ba (Below.refl _ _) _⟩
  go_wp2_with fail
  refine (unhide G1 _).mono ?_
  rintro e W1 ⟨rfl, rfl⟩
  cases a1
  · go_wp2_with fail
    go_ret
    exact ⟨ret_bool (by simp), ba (Below.refl _ _) _⟩
  go_wp2_with fail
  refine (unhide G2 _).mono ?_
  rintro e W1 ⟨rfl, rfl⟩
  cases a2
  · go_wp2_with fail
    go_ret
    exact ⟨ret_bool (by simp), ba (Below.refl _ _) _⟩
  go_wp2_with fail
  refine (unhide G3 _).mono ?_
  rintro e W1 ⟨rfl, rfl⟩
  cases a3
  · go_wp2_with fail
    go_ret
    exact ⟨ret_bool (by simp), ba (Below.refl _ _) _⟩
  go_wp2_with fail
  refine (unhide G4 _).mono ?_
  rintro e W1 ⟨rfl, rfl⟩
  cases a4
  · go_wp2_with fail
    go_ret
    exact ⟨ret_bool (by simp), ba (Below.refl _ _) _⟩
  go_wp2_with fail
  refine (unhide G5 _).mono ?_
  rintro e W1 ⟨rfl, rfl⟩
  cases a5
  · go_wp2_with fail
    go_ret
    exact ⟨ret_bool (by simp), ba (Below.refl _ _) _⟩
  go_wp2_with fail
  all_goals
    go_ret
    refine ⟨ret_bool ?_, ba (Below.refl _ _) _⟩
    first | (simp [*]; done) | (simp; omega)

theorem vb15 {w : World} {g t : Nat} {f : Ft} (h : vb w g t (ftc f)) : w.cell? ⟨g, 0, none⟩ = some (.string f.nm) ∧ w.cell? ⟨g, 1, none⟩ = some (.string f.on) ∧ w.cell? ⟨g, 2, none⟩ = some (.string f.ov) ∧ w.cell? ⟨g, 3, none⟩ = some (.int .i64 f.kd) ∧ w.cell? ⟨g, 4, none⟩ = some (.int .i64 f.sd) ∧ w.cell? ⟨g, 5, none⟩ = some (.int .i64 f.x0) ∧ w.cell? ⟨g, 6, none⟩ = some (.int .i64 f.y0) ∧ w.cell? ⟨g, 7, none⟩ = some (.int .i64 f.z0) ∧ w.cell? ⟨g, 8, none⟩ = some (.int .i64 f.x1) ∧ w.cell? ⟨g, 9, none⟩ = some (.int .i64 f.y1) ∧ w.cell? ⟨g, 10, none⟩ = some (.int .i64 f.z1) ∧ w.cell? ⟨g, 11, none⟩ = some (.int .i64 f.ct) ∧ w.cell? ⟨g, 12, none⟩ = some (.int .i64 f.dx) ∧ w.cell? ⟨g, 13, none⟩ = some (.int .i64 f.dy) ∧ w.cell? ⟨g, 14, none⟩ = some (.int .i64 f.dz) :=
  ⟨h.cell rfl, h.cell rfl, h.cell rfl, h.cell rfl, h.cell rfl, h.cell rfl, h.cell rfl, h.cell rfl, h.cell rfl, h.cell rfl, h.cell rfl, h.cell rfl, h.cell rfl, h.cell rfl, h.cell rfl⟩

end Go.Proofs.Ytkkmikgeppkhiaa