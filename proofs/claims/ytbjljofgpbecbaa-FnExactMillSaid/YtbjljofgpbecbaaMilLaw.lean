/-
  The program's Mill answers as the model at every stock, part, tool and list of moves, right or not, changes none of them, and owns its answer.
-/
import Derived.Test.YtbjljofgpbecbaaMilW
import Derived.Test.YtbjljofgpbecbaaMvOpen
import Derived.Test.YtbjljofgpbecbaaOpenRows
import Derived.Test.YtbjljofgpbecbaaChecked
import Derived.Test.YtbjljofgpbecbaaRows
import Derived.ChangeOld
import Derived.Lib.SmallJoins
namespace Go.Proofs.Ytbjljofgpbecbaa
open Go.ChangeShapes Go.WideShapes Go.ChangeAt Go.RowKit Go.Joins
set_option linter.unusedVariables false
set_option linter.unusedSimpArgs false

theorem fnExactMill_own : ownKnob Try.prog.godebug = none := by kernel_rfl
theorem fnExactMill_laidOut : laidOutB Try.prog = true := by kernel_rfl
theorem cells42 : Try.prog.cellsOf 42 = 3 := by kernel_rfl

set_option maxRecDepth 100000 in
theorem fnExactMill_lifted (os : Os) (started : os.Started) (H : Type) (enc : TypeId × Value → H) :
    ReturnsInHanded {} Try.checked os 6 .any (Rows.fnExactMillSpec.pre6 enc Try.prog Try.f6 Rows.fnExactMillRow.domain false) (Rows.fnExactMillSpec.post enc Try.prog Try.f6 false true false false) := by
  refine returnsInHanded_of_change (C := Try.checked) fnExactMill_own started (by kernel_rfl) Try.func6
    (ChangeSpec.witness6 (enc := enc) (C := Try.checked) false ⟨#[], #[.agg #[.int .i64 0, .int .i64 0, .slice none 0 0], .agg #[.int .i64 0, .int .i64 0, .slice none 0 0], .int .i64 0, .slice none 0 0], []⟩ 8 (by kernel_rfl) (by kernel_rfl) (by kernel_rfl) (by kernel_rfl)) ?_
  intro W base args ds gs before hval0 hW hcnd _
  have hval : ∀ (j : Nat) t v, Try.f6.params[j]? = some t → args[j]? = some v → Value.okWide Try.prog W .any base t v := hval0
  have hW' := hW
  obtain ⟨p, q, hA0, hV, rfl, hfz, hnd⟩ := hW
  have hA : DataW.TrodAll enc Try.prog W 0 (fun _ => true) true Try.f6.params.toList args.toList ds p := hA0
  rw [Try.params6] at hA hval
  obtain ⟨v0, vs0, d0, ds0, p0, q0, hargs, rfl, rfl, h0, r0⟩ := trodAll_cons hA
  obtain ⟨v1, vs1, d1, ds1, p1, q1, rfl, rfl, rfl, h1, r1⟩ := trodAll_cons r0
  obtain ⟨v2, vs2, d2, ds2, p2, q2, rfl, rfl, rfl, h2, r2⟩ := trodAll_cons r1
  obtain ⟨v3, vs3, d3, ds3, p3, q3, rfl, rfl, rfl, h3, r3⟩ := trodAll_cons r2
  obtain ⟨rfl, rfl, rfl⟩ := trodAll_nil r3
  obtain rfl : args = #[v0, v1, v2, v3] := by cases args; simp_all
  obtain ⟨rfl, rfl⟩ := trodVars_none hV
  have k0 := h0
  have lt0 : ∀ x ∈ p0, x.block < W.heap.size := by obtain ⟨m, hm⟩ := k0; exact DataW.trod_lt m _ _ _ hm
  obtain ⟨c0, e0, s0, y0, x0, z0, m0, rfl, rfl, rfl, hy0, hx0, hz0⟩ := open_agg3 Try.underlying42 (by kernel_rfl) cells42 (hval 0 42 v0 rfl rfl) h0
  obtain ⟨n0, en0, _, wn0⟩ := DataW.trod_int Try.underlying3 hy0
  obtain ⟨o0, eo0, _, wo0⟩ := DataW.trod_int Try.underlying3 hx0
  simp at en0 eo0
  subst en0 eo0
  obtain ⟨a0, len0, cap0, L0, hcs0, b0, l0, w0⟩ := open_irow Try.underlying23 Try.underlying3 (by kernel_rfl) hz0
  simp at hcs0
  subst hcs0
  have k1 := h1
  have lt1 : ∀ x ∈ p1, x.block < W.heap.size := by obtain ⟨m, hm⟩ := k1; exact DataW.trod_lt m _ _ _ hm
  obtain ⟨c1, e1, s1, y1, x1, z1, m1, rfl, rfl, rfl, hy1, hx1, hz1⟩ := open_agg3 Try.underlying42 (by kernel_rfl) cells42 (hval 1 42 v1 rfl rfl) h1
  obtain ⟨n1, en1, _, wn1⟩ := DataW.trod_int Try.underlying3 hy1
  obtain ⟨o1, eo1, _, wo1⟩ := DataW.trod_int Try.underlying3 hx1
  simp at en1 eo1
  subst en1 eo1
  obtain ⟨a1, len1, cap1, L1, hcs1, b1, l1, w1⟩ := open_irow Try.underlying23 Try.underlying3 (by kernel_rfl) hz1
  simp at hcs1
  subst hcs1
  obtain ⟨a2, rfl, rfl, rfl, w2⟩ := open_int Try.underlying3 (hval 2 3 v2 rfl rfl) h2
  obtain ⟨a3, len3, cap3, rfl⟩ := okWide_slice Try.underlying48 (hval 3 48 v3 rfl rfl)
  have k3 := h3
  have lt3 : ∀ x ∈ p3, x.block < W.heap.size := by obtain ⟨m, hm⟩ := k3; exact DataW.trod_lt m _ _ _ hm
  obtain ⟨pp3, po3, ms3, b3, l3, w3⟩ : ∃ (pp po : Nat) (ms : List Mve), len3 ≤ 9223372036854775807 ∧ ms.length = len3 ∧ Mvs W a3 pp po ms := by
    obtain ⟨fuel, hf⟩ := h3
    obtain ⟨u, n, cap, pp, po, ms, hcs, hn, hl, hx⟩ := open_moves Try.underlying48 Try.underlying87 (by kernel_rfl) rfl (by kernel_rfl) hf
    simp [Value.cells] at hcs
    obtain ⟨rfl, rfl, rfl⟩ := hcs
    exact ⟨pp, po, ms, hn, hl, hx⟩
  clear hA0 hval0
  refine (fnExactMill_walk n0 o0 a0 len0 cap0 L0 n1 o1 a1 len1 cap1 L1 a2 a3 len3 cap3 pp3 po3 ms3 W b0 l0 w0 b1 l1 w1 w2 b3 l3 w3).mono fun e W' ⟨he, bel⟩ => ?_
  subst he
  exact ⟨_, rfl, _, _, _, [], _, [], hW', trodAll_mk1 (shut_bool Try.underlying4 _), (trodAll_cons_mk (Below.trod fnExactMill_laidOut (by kernel_rfl) (of_decide_eq_true (by kernel_rfl)) k0 bel lt0) (trodAll_cons_mk (Below.trod fnExactMill_laidOut (by kernel_rfl) (of_decide_eq_true (by kernel_rfl)) k1 bel lt1) (trodAll_cons_mk (shut_int Try.underlying3 w2) (trodAll_cons_mk (Below.trod fnExactMill_laidOut (by kernel_rfl) (of_decide_eq_true (by kernel_rfl)) k3 bel lt3) trodAll_mk0)))), rfl, bel.frame _, fun h => by cases h⟩

theorem fnExactMill_over : Rows.fnExactMillRow.holds Try.pinned (OpenSpec.ofChange Rows.fnExactMillSpec) :=
  OpenClaim.holds_of_wide 6 Try.f6 rfl rfl rfl rfl rfl rfl rfl ⟨rfl, rfl, rfl, rfl, rfl⟩ rfl rfl rfl rfl rfl (by kernel_rfl) Try.func6 (by kernel_rfl)
    (of_decide_eq_true (by kernel_rfl)) (by unfold Func.isWrapper; first | (rw [if_pos (by decide +kernel)]; kernel_rfl) | (rw [if_neg (by decide +kernel)]; exact ⟨rfl, rfl⟩))
    (fun os started H enc _ => fnExactMill_lifted os started H enc)

/-- The statement, as it was given. -/
theorem fnExactMill_holds : Rows.FnExactMillSaid := fnExactMill_over
#print axioms fnExactMill_holds
end Go.Proofs.Ytbjljofgpbecbaa
