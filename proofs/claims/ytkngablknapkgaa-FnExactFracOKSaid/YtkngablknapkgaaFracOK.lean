/-
  FracOK of the program answers as the model at every fraction, right or not.
-/
import Derived.Test.YtkngablknapkgaaAdd
import Derived.ChangeOld
import Derived.Lib.SmallJoins
namespace Go.Proofs.Ytkngablknapkgaa
open Go.ChangeShapes Go.WideShapes Go.ChangeAt Go.RowKit Go.Joins
set_option linter.unusedVariables false

set_option maxHeartbeats 400000 in
theorem fnExactFracOK_walk (n d : Int) (w : World) (wn : (Lit.int .i64 n).wf = true) (wd : (Lit.int .i64 d).wf = true) :
    Calls Try.prog 3 #[.agg #[.int .i64 n, .int .i64 d]] w fun e w' => e = .returned (.bool true) ∧ Below w.heap.size w w' := by
  obtain ⟨hn1, hn2⟩ := bounds_i64 wn
  obtain ⟨hd1, hd2⟩ := bounds_i64 wd
  clear wn wd
  have HS := hide (fun W => specOK_any n d W)
  have HI := hide (fun W => implOK_any n d W hn1 hn2 hd1 hd2)
  generalize frOk n d = ok at *
  go_enter Try.func3, Try.ntmps3
  go_wp2_with fail
  refine (toFrac_any _ _ _).mono ?_
  rintro e w1 ⟨rfl, hb⟩
  have B1 := hide hb
  have x0 := keep1 hb (b := w.heap.size) (o := 0) (v := .int .i64 n) (by simp [go_sem])
  have x1 := keep1 hb (b := w.heap.size) (o := 1) (v := .int .i64 d) (by simp [go_sem])
  clear hb
  go_wp2_with fail
  refine (unhide HS _).mono ?_
  rintro e w2 ⟨rfl, hb⟩
  have B2 := hide hb
  have y0 := keep1 hb x0
  have y1 := keep1 hb x1
  clear hb x0 x1
  go_wp2_with fail
  refine (toFrac_any _ _ _).mono ?_
  rintro e w3 ⟨rfl, hb⟩
  have B3 := hide hb
  clear hb
  go_wp2_with fail
  refine (unhide HI _).mono ?_
  rintro e w4 ⟨rfl, hb⟩
  have B4 := hide hb
  clear hb
  have hok : (ok != ok) = false := by cases ok <;> rfl
  have hok' : (ok == ok) = true := by cases ok <;> rfl
  go_wp2
  go_ret
  exact ⟨rfl, bel_call (bel_call (bel_call (bel_call (bel_alloc (Below.refl _ _) _) (unhide B1)) (unhide B2)) (unhide B3)) (unhide B4)⟩

theorem fnExactFracOK_own : ownKnob Try.prog.godebug = none := by kernel_rfl
theorem cells23 : Try.prog.cellsOf 23 = 2 := by kernel_rfl

set_option maxRecDepth 100000 in
theorem fnExactFracOK_lifted (os : Os) (started : os.Started) (H : Type) (enc : TypeId × Value → H) :
    ReturnsInHanded {} Try.checked os 3 .any (Rows.fnExactFracOKSpec.pre6 enc Try.prog Try.f3 Rows.fnExactFracOKRow.domain false) (Rows.fnExactFracOKSpec.post enc Try.prog Try.f3 false true false false) := by
  refine returnsInHanded_of_change (C := Try.checked) fnExactFracOK_own started (by kernel_rfl) Try.func3
    (ChangeSpec.witness6 (enc := enc) (C := Try.checked) false ⟨#[], #[.agg #[.int .i64 0, .int .i64 0]], []⟩ 8 (by kernel_rfl) (by kernel_rfl) (by kernel_rfl) (by kernel_rfl)) ?_
  intro W base args ds gs before hval0 hW hcnd _
  have hval : ∀ (j : Nat) t v, Try.f3.params[j]? = some t → args[j]? = some v → Value.okWide Try.prog W .any base t v := hval0
  have hW' := hW
  obtain ⟨p, q, hA0, hV, rfl, hfz, hnd⟩ := hW
  have hA : DataW.TrodAll enc Try.prog W 0 (fun _ => true) true Try.f3.params.toList args.toList ds p := hA0
  rw [Try.params3] at hA hval
  obtain ⟨v0, vs0, d0, ds0, p0, q0, hargs, rfl, rfl, h0, r0⟩ := trodAll_cons hA
  obtain ⟨rfl, rfl, rfl⟩ := trodAll_nil r0
  obtain rfl : args = #[v0] := by cases args; simp_all
  obtain ⟨rfl, rfl⟩ := trodVars_none hV
  obtain ⟨c0, k0, y0, z0, m0, rfl, rfl, rfl, hy0, hz0⟩ := open_agg2 Try.underlying23 (by kernel_rfl) cells23 (hval 0 23 v0 rfl rfl) h0
  obtain ⟨n0, en0, rfl, wn0⟩ := DataW.trod_int Try.underlying3 hy0
  obtain ⟨d0', ed0, rfl, wd0⟩ := DataW.trod_int Try.underlying3 hz0
  simp at en0 ed0
  subst en0 ed0
  clear hA0 hval0
  simp only [List.append_nil] at hW'
  refine (fnExactFracOK_walk n0 d0' W wn0 wd0).mono fun e W' ⟨he, bel⟩ => ?_
  subst he
  exact ⟨_, rfl, _, _, _, [], [], [], hW', trodAll_mk1 (shut_bool Try.underlying4 _), (trodAll_cons_mk (shut_agg2 (y0 := (.lit (.int .i64 n0), [])) (y1 := (.lit (.int .i64 d0'), [])) Try.underlying23 (by kernel_rfl) cells23 ⟨1, by simp [DataW.trod, Try.underlying3, wn0]⟩ ⟨1, by simp [DataW.trod, Try.underlying3, wd0]⟩) trodAll_mk0), rfl, bel.frame _, fun h => by cases h⟩

theorem fnExactFracOK_over : Rows.fnExactFracOKRow.holds Try.pinned (OpenSpec.ofChange Rows.fnExactFracOKSpec) :=
  OpenClaim.holds_of_wide 3 Try.f3 rfl rfl rfl rfl rfl rfl rfl ⟨rfl, rfl, rfl, rfl, rfl⟩ rfl rfl rfl rfl rfl (by kernel_rfl) Try.func3 (by kernel_rfl)
    (of_decide_eq_true (by kernel_rfl)) (by unfold Func.isWrapper; first | (rw [if_pos (by decide +kernel)]; kernel_rfl) | (rw [if_neg (by decide +kernel)]; exact ⟨rfl, rfl⟩))
    (fun os started H enc _ => fnExactFracOK_lifted os started H enc)

/-- The statement, as it was given. -/
theorem fnExactFracOK_holds : Rows.FnExactFracOKSaid := fnExactFracOK_over
#print axioms fnExactFracOK_holds
end Go.Proofs.Ytkngablknapkgaa
