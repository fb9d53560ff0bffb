/-
  The program's pieces of the question whether a feature is right: where it stands, its step.
-/
import Derived.Test.YtkkmikgeppkhiaaRtP
namespace Go.Proofs.Ytkkmikgeppkhiaa
open Go.ChangeShapes Go.WideShapes Go.ChangeAt Go.RowKit
set_option linter.unusedVariables false
set_option linter.unusedSimpArgs false

set_option maxRecDepth 100000 in
set_option maxHeartbeats 4000000 in
theorem stand_any (s o v : ByteArray) (k d x0 y0 z0 x1 y1 z1 n dx dy dz : Int) (w : World) (ho : o.size ≤ maxLen) : Calls Try.prog 93 #[ftv ⟨s, o, v, k, d, x0, y0, z0, x1, y1, z1, n, dx, dy, dz⟩] w fun e w' => e = .returned (.bool (if o.toList = [] then d == 0 else nameB o && btw d 1 6)) ∧ Below w.heap.size w w' := by
  have N := hide (fun W => implName_any o W ho)
  have B := hide (fun W => btw_any d 1 6 W)
  unfold ftv
  generalize nameB o = b at *
  generalize btw d 1 6 = c at *
  by_cases eo : o.toList = []
  · rw [if_pos eo]
    go_enter Try.func93, Try.ntmps93
    go_wp2
    go_ret
    exact ⟨rfl, ba (Below.refl _ _) _⟩
  · rw [if_neg eo]
    have eo' : (o.toList == []) = false := by simpa using eo
    go_enter Try.func93, Try.ntmps93
    go_wp2_with fail
    refine (unhide N _).mono ?_
    rintro e W1 ⟨rfl, hb⟩
    have c4 := keep1 hb (b := w.heap.size) (o := 4) (v := .int .i64 d) (by simp [go_sem])
    cases b
    · go_wp2_with fail
      go_ret
      exact ⟨rfl, bc (ba (Below.refl _ _) _) hb⟩
    go_wp2_with fail
    refine (unhide B _).mono ?_
    rintro e W2 ⟨rfl, rfl⟩
    cases c <;> (go_wp2_with fail) <;> (go_ret; exact ⟨rfl, bc (ba (Below.refl _ _) _) hb⟩)
set_option maxRecDepth 100000 in
set_option maxHeartbeats 4000000 in
theorem step_any (s o v : ByteArray) (k d x0 y0 z0 x1 y1 z1 n dx dy dz : Int) (w : World) : Calls Try.prog 95 #[ftv ⟨s, o, v, k, d, x0, y0, z0, x1, y1, z1, n, dx, dy, dz⟩] w fun e w' => e = .returned (.bool (inG dx && inG dy && inG dz && decide (dx ≠ 0 ∨ dy ≠ 0 ∨ dz ≠ 0))) ∧ Below w.heap.size w w' := by
  have B0 := hide (fun W => btw_any dx (-24) 24 W)
  have B1 := hide (fun W => btw_any dy (-24) 24 W)
  have B2 := hide (fun W => btw_any dz (-24) 24 W)
  have e0 : ∀ x, btw x (-24) 24 = inG x := fun _ => rfl
  rw [e0] at B0 B1 B2
  generalize inG dx = b0 at *
  generalize inG dy = b1 at *
  generalize inG dz = b2 at *
  have V0 := hide (vb_new w 57 (ftc ⟨s, o, v, k, d, x0, y0, z0, x1, y1, z1, n, dx, dy, dz⟩) _ rfl)
  unfold ftv
  go_enter Try.func95, Try.ntmps95
  go_wp2
  have HV := hide (vb_new (w.alloc (.cells (ftc ⟨s, o, v, k, d, x0, y0, z0, x1, y1, z1, n, dx, dy, dz⟩).toArray 57)) 3 [.int .i64 dx, .int .i64 dy, .int .i64 dz] _ rfl)
  have HB := hide (ba (ba (Below.refl w.heap.size w) (.cells (ftc ⟨s, o, v, k, d, x0, y0, z0, x1, y1, z1, n, dx, dy, dz⟩).toArray 57)) (.cells #[.int .i64 dx, .int .i64 dy, .int .i64 dz] 3))
  have HU := hide ((unhide V0).bel (ba (Below.refl _ _) (.cells #[.int .i64 dx, .int .i64 dy, .int .i64 dz] 3)))
  simp only [World.size_alloc] at HV
  go_loopw [13] (fun u W => ∃ i : Nat, u = .int .i64 (i : Int) ∧ i ≤ 3 ∧ vb W (w.heap.size + 1) 3 [.int .i64 dx, .int .i64 dy, .int .i64 dz] ∧ vb W w.heap.size 57 (ftc ⟨s, o, v, k, d, x0, y0, z0, x1, y1, z1, n, dx, dy, dz⟩) ∧ (0 < i → b0 = true) ∧ (1 < i → b1 = true) ∧ (2 < i → b2 = true) ∧ Below w.heap.size w W) (fun u _ => 3 - (intOf u).toNat)
  case atStart => exact ⟨0, rfl, by omega, unhide HV, unhide HU, fun h => by omega, fun h => by omega, fun h => by omega, unhide HB⟩
  case round =>
    obtain ⟨i, rfl, hi, hv, hu, h0, h1, h2, hw⟩ := hrel
    have HW := hide hw
    clear hw HV HB V0 HU
    have c0 := hv.cell (m := 0) rfl
    have c1 := hv.cell (m := 1) rfl
    have c2 := hv.cell (m := 2) rfl
    have d0 := hu.cell (m := 12) rfl
    have d1 := hu.cell (m := 13) rfl
    have d2 := hu.cell (m := 14) rfl
    simp only at d0 d1 d2
    have V := hide hv
    have U := hide hu
    have H0 := hide h0
    have H1 := hide h1
    have H2 := hide h2
    clear hv h0 h1 h2 hu
    have hc : i = 0 ∨ i = 1 ∨ i = 2 ∨ i = 3 := by omega
    rcases hc with rfl | rfl | rfl | rfl
    · clear d0 d1 d2
      go_wp2_with fail
      refine (unhide B0 _).mono ?_
      rintro e W2 ⟨rfl, rfl⟩
      cases b0
      · go_wp2_with fail
        go_ret
        exact ⟨rfl, unhide HW⟩
      go_wp2_with fail
      go_roundw
      case rel => exact ⟨1, rfl, by omega, unhide V, unhide U, fun _ => by first | rfl | simp, fun h => by omega, fun h => by omega, unhide HW⟩
      case measure => simp [intOf]
    · have k0 := unhide H0 (by omega)
      clear d0 d1 d2
      subst k0
      go_wp2_with fail
      refine (unhide B1 _).mono ?_
      rintro e W2 ⟨rfl, rfl⟩
      cases b1
      · go_wp2_with fail
        go_ret
        exact ⟨rfl, unhide HW⟩
      go_wp2_with fail
      go_roundw
      case rel => exact ⟨2, rfl, by omega, unhide V, unhide U, fun _ => by first | rfl | simp, fun _ => by first | rfl | simp, fun h => by omega, unhide HW⟩
      case measure => simp [intOf]
    · have k0 := unhide H0 (by omega)
      have k1 := unhide H1 (by omega)
      clear d0 d1 d2
      subst k0
      subst k1
      go_wp2_with fail
      refine (unhide B2 _).mono ?_
      rintro e W2 ⟨rfl, rfl⟩
      cases b2
      · go_wp2_with fail
        go_ret
        exact ⟨rfl, unhide HW⟩
      go_wp2_with fail
      go_roundw
      case rel => exact ⟨3, rfl, by omega, unhide V, unhide U, fun _ => by first | rfl | simp, fun _ => by first | rfl | simp, fun _ => by first | rfl | simp, unhide HW⟩
      case measure => simp [intOf]
    · have k0 := unhide H0 (by omega)
      have k1 := unhide H1 (by omega)
      have k2 := unhide H2 (by omega)
      clear c0 c1 c2
      subst k0
      subst k1
      subst k2
      go_wp2
      all_goals
        go_ret
        refine ⟨ret_bool ?_, unhide HW⟩
        first | rfl | (simp; done) | (simp; omega) | (simp [*]; done) | (rw [Bool.eq_iff_iff]; simp; omega)
end Go.Proofs.Ytkkmikgeppkhiaa
