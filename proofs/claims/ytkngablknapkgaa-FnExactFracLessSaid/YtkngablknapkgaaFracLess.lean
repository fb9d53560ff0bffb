/-
  The program's FracLess answers as the model at every two fractions, right or not.
-/
import Derived.Test.YtkngablknapkgaaPairs
import Derived.ChangeOld
import Derived.Lib.SmallJoins
import Derived.Deep.RegionHeld3
import Derived.Deep.DeepCutAuto
namespace Go.Proofs.Ytkngablknapkgaa
open Go.ChangeShapes Go.WideShapes Go.ChangeAt Go.RowKit Go.Joins
set_option linter.unusedVariables false
set_option linter.unusedSimpArgs false

set_option maxHeartbeats 1000000 in
theorem fnExactFracLess_core (n0 d0 n1 d1 C : Int) (t : Bool) (w : World)
    (HS : Hid (∀ W, Calls Try.prog 19 #[.agg #[.int .i64 n0, .int .i64 d0], .agg #[.int .i64 n1, .int .i64 d1]] W fun e w' => e = .returned (.tuple #[.bool t, .int .i64 C]) ∧ Below W.heap.size W w'))
    (HI : Hid (∀ W, Calls Try.prog 20 #[.agg #[.int .i64 n0, .int .i64 d0], .agg #[.int .i64 n1, .int .i64 d1]] W fun e w' => e = .returned (.tuple #[.bool t, .int .i64 C]) ∧ Below W.heap.size W w')) :
    Calls Try.prog 7 #[.agg #[.int .i64 n0, .int .i64 d0], .agg #[.int .i64 n1, .int .i64 d1]] w fun e w' => e = .returned (.bool true) ∧ Below w.heap.size w w' := by
  go_enter Try.func7, Try.ntmps7
  go_upto_region 1 with fail
  go_cut [5, 6] (fun s5 s6 wx => s5 = .bool t ∧ s6 = .int .i64 C ∧ wx.cell? ⟨w.heap.size, 0, none⟩ = some (.int .i64 n0) ∧ wx.cell? ⟨w.heap.size, 1, none⟩ = some (.int .i64 d0) ∧ wx.cell? ⟨w.heap.size + 1, 0, none⟩ = some (.int .i64 n1) ∧ wx.cell? ⟨w.heap.size + 1, 1, none⟩ = some (.int .i64 d1) ∧ Below w.heap.size w wx)
  case first =>
    go_region_held3 (fun wx => wx.cell? ⟨w.heap.size, 0, none⟩ = some (.int .i64 n0) ∧ wx.cell? ⟨w.heap.size, 1, none⟩ = some (.int .i64 d0) ∧ wx.cell? ⟨w.heap.size + 1, 0, none⟩ = some (.int .i64 n1) ∧ wx.cell? ⟨w.heap.size + 1, 1, none⟩ = some (.int .i64 d1))
      (simp [go_sem, World.cell?_alloc_past, *])
      (first
      | (go_at_call 10; refine (toFrac_exact _ _ _).mono ?_; rintro e w' ⟨rfl, rfl⟩)
      | (go_at_call 19; refine (unhide HS _).mono ?_; rintro e w' ⟨rfl, hb⟩; have HB := hide hb; have k0 := keep1 hb (b := w.heap.size) (o := 0) (v := .int .i64 n0) (by simp [go_sem, World.cell?_alloc_past, *]); have k1 := keep1 hb (b := w.heap.size) (o := 1) (v := .int .i64 d0) (by simp [go_sem, World.cell?_alloc_past, *]); have k2 := keep1 hb (b := w.heap.size + 1) (o := 0) (v := .int .i64 n1) (by simp [go_sem, World.cell?_alloc_past, *]); have k3 := keep1 hb (b := w.heap.size + 1) (o := 1) (v := .int .i64 d1) (by simp [go_sem, World.cell?_alloc_past, *]); clear hb))
    all_goals
      go_wp2_with fail
      go_meet
      case rel =>
        refine ⟨rfl, rfl, by simp [go_sem, World.cell?_alloc_past, *], by simp [go_sem, World.cell?_alloc_past, *], by simp [go_sem, World.cell?_alloc_past, *], by simp [go_sem, World.cell?_alloc_past, *], ?_⟩
        repeat (first | exact Below.refl _ _ | refine bel_alloc ?_ _ | refine Below.drew ?_ | refine bel_call ?_ (unhide HB))
  case rest =>
    obtain ⟨rfl, rfl, x00, x01, x10, x11, hw⟩ := hcut
    have HW := hide hw
    have la := cell_lt x10
    have la0 := cell_lt x00
    have la' := Nat.le_of_lt la
    have la0' := Nat.le_of_lt la0
    clear hw
    go_upto_region 2 with fail
    go_cut [7, 8] (fun s7 s8 wx => s7 = .bool t ∧ s8 = .int .i64 C ∧ Below w.heap.size w wx)
    case first =>
      go_region_held3 (fun wx => wx.cell? ⟨w.heap.size, 0, none⟩ = some (.int .i64 n0) ∧ wx.cell? ⟨w.heap.size, 1, none⟩ = some (.int .i64 d0) ∧ wx.cell? ⟨w.heap.size + 1, 0, none⟩ = some (.int .i64 n1) ∧ wx.cell? ⟨w.heap.size + 1, 1, none⟩ = some (.int .i64 d1))
        (simp (maxDischargeDepth := 12) [go_sem, le1, lt1, *])
        (first
        | (go_at_call 10; refine (toFrac_exact _ _ _).mono ?_; rintro e w' ⟨rfl, rfl⟩)
        | (go_at_call 20; refine (unhide HI _).mono ?_; rintro e w' ⟨rfl, hb⟩; have HB := hide hb; have k0 := keep1 hb (b := w.heap.size) (o := 0) (v := .int .i64 n0) (by simp (maxDischargeDepth := 12) [go_sem, le1, lt1, *]); have k1 := keep1 hb (b := w.heap.size) (o := 1) (v := .int .i64 d0) (by simp (maxDischargeDepth := 12) [go_sem, le1, lt1, *]); have k2 := keep1 hb (b := w.heap.size + 1) (o := 0) (v := .int .i64 n1) (by simp (maxDischargeDepth := 12) [go_sem, le1, lt1, *]); have k3 := keep1 hb (b := w.heap.size + 1) (o := 1) (v := .int .i64 d1) (by simp (maxDischargeDepth := 12) [go_sem, le1, lt1, *]); clear hb))
      all_goals
        go_wp2_with fail
        go_meet
        case rel =>
          refine ⟨rfl, rfl, ?_⟩
          repeat (first | exact unhide HW | refine bel_alloc ?_ _ | refine Below.drew ?_ | refine bel_call ?_ (unhide HB))
    case rest =>
      obtain ⟨rfl, rfl, hw⟩ := hcut
      have HW2 := hide hw
      clear hw
      have e1 : (t != t) = false := by cases t <;> rfl
      have e2 : (t == t) = true := by cases t <;> rfl
      go_wp2
      go_ret
      exact ⟨rfl, unhide HW2⟩

theorem fnExactFracLess_walk (n0 d0 n1 d1 : Int) (w : World) (wn0 : (Lit.int .i64 n0).wf = true) (wd0 : (Lit.int .i64 d0).wf = true) (wn1 : (Lit.int .i64 n1).wf = true) (wd1 : (Lit.int .i64 d1).wf = true) :
    Calls Try.prog 7 #[.agg #[.int .i64 n0, .int .i64 d0], .agg #[.int .i64 n1, .int .i64 d1]] w fun e w' => e = .returned (.bool true) ∧ Below w.heap.size w w' := by
  obtain ⟨a1, a2⟩ := bounds_i64 wn0
  obtain ⟨a3, a4⟩ := bounds_i64 wd0
  obtain ⟨b1, b2⟩ := bounds_i64 wn1
  obtain ⟨b3, b4⟩ := bounds_i64 wd1
  have hs := fun W => specLess_any n0 d0 n1 d1 W a1 a2 a3 a4 b1 b2 b3 b4
  have hi := fun W => implLess_any n0 d0 n1 d1 W a1 a2 a3 a4 b1 b2 b3 b4
  obtain ⟨t, C, e⟩ := less_form n0 d0 n1 d1
  rw [e] at hs hi
  exact fnExactFracLess_core n0 d0 n1 d1 C t w (hide hs) (hide hi)

theorem fnExactFracLess_own : ownKnob Try.prog.godebug = none := by kernel_rfl
theorem cells23 : Try.prog.cellsOf 23 = 2 := by kernel_rfl

set_option maxRecDepth 100000 in
theorem fnExactFracLess_lifted (os : Os) (started : os.Started) (H : Type) (enc : TypeId × Value → H) :
    ReturnsInHanded {} Try.checked os 7 .any (Rows.fnExactFracLessSpec.pre6 enc Try.prog Try.f7 Rows.fnExactFracLessRow.domain false) (Rows.fnExactFracLessSpec.post enc Try.prog Try.f7 false true false false) := by
  refine returnsInHanded_of_change (C := Try.checked) fnExactFracLess_own started (by kernel_rfl) Try.func7
    (ChangeSpec.witness6 (enc := enc) (C := Try.checked) false ⟨#[], #[.agg #[.int .i64 0, .int .i64 0], .agg #[.int .i64 0, .int .i64 0]], []⟩ 8 (by kernel_rfl) (by kernel_rfl) (by kernel_rfl) (by kernel_rfl)) ?_
  intro W base args ds gs before hval0 hW hcnd _
  have hval : ∀ (j : Nat) t v, Try.f7.params[j]? = some t → args[j]? = some v → Value.okWide Try.prog W .any base t v := hval0
  have hW' := hW
  obtain ⟨p, q, hA0, hV, rfl, hfz, hnd⟩ := hW
  have hA : DataW.TrodAll enc Try.prog W 0 (fun _ => true) true Try.f7.params.toList args.toList ds p := hA0
  rw [Try.params7] at hA hval
  obtain ⟨v0, vs0, d0, ds0, p0, q0, hargs, rfl, rfl, h0, r0⟩ := trodAll_cons hA
  obtain ⟨v1, vs1, d1, ds1, p1, q1, rfl, rfl, rfl, h1, r1⟩ := trodAll_cons r0
  obtain ⟨rfl, rfl, rfl⟩ := trodAll_nil r1
  obtain rfl : args = #[v0, v1] := by cases args; simp_all
  obtain ⟨rfl, rfl⟩ := trodVars_none hV
  obtain ⟨c0, k0, y0, z0, m0, rfl, rfl, rfl, hy0, hz0⟩ := open_agg2 Try.underlying23 (by kernel_rfl) cells23 (hval 0 23 v0 rfl rfl) h0
  obtain ⟨n0, en0, rfl, wn0⟩ := DataW.trod_int Try.underlying3 hy0
  obtain ⟨d0', ed0, rfl, wd0⟩ := DataW.trod_int Try.underlying3 hz0
  simp at en0 ed0
  subst en0 ed0
  obtain ⟨c1, k1, y1, z1, m1, rfl, rfl, rfl, hy1, hz1⟩ := open_agg2 Try.underlying23 (by kernel_rfl) cells23 (hval 1 23 v1 rfl rfl) h1
  obtain ⟨n1, en1, rfl, wn1⟩ := DataW.trod_int Try.underlying3 hy1
  obtain ⟨d1', ed1, rfl, wd1⟩ := DataW.trod_int Try.underlying3 hz1
  simp at en1 ed1
  subst en1 ed1
  clear hA0 hval0
  simp only [List.append_nil] at hW'
  refine (fnExactFracLess_walk n0 d0' n1 d1' W wn0 wd0 wn1 wd1).mono fun e W' ⟨he, bel⟩ => ?_
  subst he
  exact ⟨_, rfl, _, _, _, [], [], [], hW', trodAll_mk1 (shut_bool Try.underlying4 _), (trodAll_cons_mk (shut_agg2 (y0 := (.lit (.int .i64 n0), [])) (y1 := (.lit (.int .i64 d0'), [])) Try.underlying23 (by kernel_rfl) cells23 ⟨1, by simp [DataW.trod, Try.underlying3, wn0]⟩ ⟨1, by simp [DataW.trod, Try.underlying3, wd0]⟩) (trodAll_cons_mk (shut_agg2 (y0 := (.lit (.int .i64 n1), [])) (y1 := (.lit (.int .i64 d1'), [])) Try.underlying23 (by kernel_rfl) cells23 ⟨1, by simp [DataW.trod, Try.underlying3, wn1]⟩ ⟨1, by simp [DataW.trod, Try.underlying3, wd1]⟩) trodAll_mk0)), rfl, bel.frame _, fun h => by cases h⟩

theorem fnExactFracLess_over : Rows.fnExactFracLessRow.holds Try.pinned (OpenSpec.ofChange Rows.fnExactFracLessSpec) :=
  OpenClaim.holds_of_wide 7 Try.f7 rfl rfl rfl rfl rfl rfl rfl ⟨rfl, rfl, rfl, rfl, rfl⟩ rfl rfl rfl rfl rfl (by kernel_rfl) Try.func7 (by kernel_rfl)
    (of_decide_eq_true (by kernel_rfl)) (by unfold Func.isWrapper; first | (rw [if_pos (by decide +kernel)]; kernel_rfl) | (rw [if_neg (by decide +kernel)]; exact ⟨rfl, rfl⟩))
    (fun os started H enc _ => fnExactFracLess_lifted os started H enc)

/-- The statement, as it was given. -/
theorem fnExactFracLess_holds : Rows.FnExactFracLessSaid := fnExactFracLess_over
#print axioms fnExactFracLess_holds
end Go.Proofs.Ytkngablknapkgaa
