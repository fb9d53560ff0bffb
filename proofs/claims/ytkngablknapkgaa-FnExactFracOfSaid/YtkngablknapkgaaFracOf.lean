/-
  FracOf of the program answers as the model at every pair of whole numbers (any n, any d).
-/
import Derived.Test.YtkngablknapkgaaOkay
import Derived.ChangeOld
import Derived.Lib.SmallJoins
namespace Go.Proofs.Ytkngablknapkgaa
open Go.ChangeShapes Go.WideShapes Go.ChangeAt Go.RowKit Go.Joins
set_option linter.unusedVariables false

theorem bounds_of {n : Int} (h : (Lit.int .i64 n).wf = true) : -9223372036854775808 ≤ n ∧ n ≤ 9223372036854775807 := by
  simpa [Lit.wf, IntKind.bits, IntKind.signed, IntKind.min] using h

set_option maxHeartbeats 400000 in
theorem fnExactFracOf_walk (n d : Int) (w : World) (wn : (Lit.int .i64 n).wf = true) (wd : (Lit.int .i64 d).wf = true) :
    Calls Try.prog 4 #[.int .i64 n, .int .i64 d] w fun e w' => e = .returned (.bool true) ∧ Below w.heap.size w w' := by
  obtain ⟨hn1, hn2⟩ := bounds_of wn
  obtain ⟨hd1, hd2⟩ := bounds_of wd
  clear wn wd
  have HS := hide (fun W => specOf_any n d W hn1 hn2 hd1 hd2)
  have HI := hide (fun W => implOf_any n d W hn1 hn2 hd1 hd2)
  unfold frAns at HS HI
  generalize frN n d = X at *
  generalize frD n d = Y at *
  generalize frCode n d = C at *
  go_enter Try.func4, Try.ntmps4
  go_wp2_with fail
  refine (unhide HS _).mono ?_
  rintro e w1 ⟨rfl, hb1⟩
  have B1 := hide hb1
  have z1 := hb1.size
  clear hb1
  go_wp2_with fail
  refine (unhide HI _).mono ?_
  rintro e w2 ⟨rfl, hb2⟩
  have B2 := hide hb2
  obtain ⟨hc, hf⟩ := bcell hb2
  have z2 : w1.heap.size < w2.heap.size := by have := hb2.size; simp at this; omega
  have c0 := hc w1.heap.size 0 (by simp)
  have c1 := hc w1.heap.size 1 (by simp)
  simp [go_sem] at c0 c1
  clear hb2 hc hf
  go_wp2_with fail
  refine (eqFrac_any _ _ _).mono ?_
  rintro e w3 ⟨rfl, hb3⟩
  have B3 := hide hb3
  clear hb3
  go_wp2
  go_ret
  exact ⟨rfl, ((unhide B1).trans (((Below.refl _ _).alloc z1 _).trans (((unhide B2).mono (by simp; omega)).trans (((Below.refl _ _).alloc (by omega) _).trans ((unhide B3).mono (by simp; omega))))))⟩

theorem fnExactFracOf_own : ownKnob Try.prog.godebug = none := by kernel_rfl

set_option maxRecDepth 100000 in
theorem fnExactFracOf_lifted (os : Os) (started : os.Started) (H : Type) (enc : TypeId × Value → H) :
    ReturnsInHanded {} Try.checked os 4 .any (Rows.fnExactFracOfSpec.pre6 enc Try.prog Try.f4 Rows.fnExactFracOfRow.domain false) (Rows.fnExactFracOfSpec.post enc Try.prog Try.f4 false true false false) := by
  refine returnsInHanded_of_change (C := Try.checked) fnExactFracOf_own started (by kernel_rfl) Try.func4
    (ChangeSpec.witness6 (enc := enc) (C := Try.checked) false ⟨#[], #[.int .i64 0, .int .i64 0], []⟩ 8 (by kernel_rfl) (by kernel_rfl) (by kernel_rfl) (by kernel_rfl)) ?_
  intro W base args ds gs before hval0 hW hcnd _
  have hval : ∀ (j : Nat) t v, Try.f4.params[j]? = some t → args[j]? = some v → Value.okWide Try.prog W .any base t v := hval0
  have hW' := hW
  obtain ⟨p, q, hA0, hV, rfl, hfz, hnd⟩ := hW
  have hA : DataW.TrodAll enc Try.prog W 0 (fun _ => true) true Try.f4.params.toList args.toList ds p := hA0
  rw [Try.params4] at hA hval
  obtain ⟨v0, vs0, d0, ds0, p0, q0, hargs, rfl, rfl, h0, r0⟩ := trodAll_cons hA
  obtain ⟨v1, vs1, d1, ds1, p1, q1, rfl, rfl, rfl, h1, r1⟩ := trodAll_cons r0
  obtain ⟨rfl, rfl, rfl⟩ := trodAll_nil r1
  obtain rfl : args = #[v0, v1] := by cases args; simp_all
  obtain ⟨rfl, rfl⟩ := trodVars_none hV
  obtain ⟨a0, rfl, rfl, rfl, w0⟩ := open_int Try.underlying3 (hval 0 3 v0 rfl rfl) h0
  obtain ⟨a1, rfl, rfl, rfl, w1⟩ := open_int Try.underlying3 (hval 1 3 v1 rfl rfl) h1
  clear hA0 hval0
  simp only [List.append_nil] at hW'
  refine (fnExactFracOf_walk a0 a1 W w0 w1).mono fun e W' ⟨he, bel⟩ => ?_
  subst he
  exact ⟨_, rfl, _, _, _, [], [], [], hW', trodAll_mk1 (shut_bool Try.underlying4 _), (trodAll_cons_mk (shut_int Try.underlying3 w0) (trodAll_cons_mk (shut_int Try.underlying3 w1) trodAll_mk0)), rfl, bel.frame _, fun h => by cases h⟩

theorem fnExactFracOf_over : Rows.fnExactFracOfRow.holds Try.pinned (OpenSpec.ofChange Rows.fnExactFracOfSpec) :=
  OpenClaim.holds_of_wide 4 Try.f4 rfl rfl rfl rfl rfl rfl rfl ⟨rfl, rfl, rfl, rfl, rfl⟩ rfl rfl rfl rfl rfl (by kernel_rfl) Try.func4 (by kernel_rfl)
    (of_decide_eq_true (by kernel_rfl)) (by unfold Func.isWrapper; first | (rw [if_pos (by decide +kernel)]; kernel_rfl) | (rw [if_neg (by decide +kernel)]; exact ⟨rfl, rfl⟩))
    (fun os started H enc _ => fnExactFracOf_lifted os started H enc)

/-- The statement, as it was given. -/
theorem fnExactFracOf_holds : Rows.FnExactFracOfSaid := fnExactFracOf_over
#print axioms fnExactFracOf_holds
end Go.Proofs.Ytkngablknapkgaa
