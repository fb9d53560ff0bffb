/-
  The program's FileSum answers as the model at every list of bytes; it changes none of them.
-/
import Derived.Test.YtibcgimggcdllaaOpenG
import Derived.Test.YtibcgimggcdllaaChecked
import Derived.Test.YtibcgimggcdllaaRows
import Derived.ChangeOld
import Derived.Lib.SmallJoins
namespace Go.Proofs.Ytibcgimggcdllaa
open Go.ChangeShapes Go.WideShapes Go.ChangeAt Go.RowKit Go.Joins
set_option linter.unusedVariables false
set_option linter.unusedSimpArgs false

set_option maxHeartbeats 1000000 in
theorem fnExactFileSum_walk (u : Option Addr) (n c p po : Nat) (L : List Int) (w : World) (hn : n ≤ 9223372036854775807) (hl : L.length = n) (hr : Byt L ∧ SlG byc 1 w u p po L) :
    Calls Try.prog 3 #[.slice u n c] w fun e w' => e = .returned (.bool true) ∧ Below w.heap.size w w' := by
  obtain ⟨hL, hu⟩ := hr
  by_cases h : 1048576 < n
  · have t : decide ((1048576 : Int) < (n : Int)) = true := decide_eq_true (by omega)
    go_enter Try.func3, Try.ntmps3
    go_wp2_with fail
    go_ret
    exact ⟨rfl, Below.refl _ _⟩
  have t : decide ((1048576 : Int) < (n : Int)) = false := decide_eq_false (by omega)
  have t2 : ¬ (1048576 : Int) < (n : Int) := by omega
  have n20 : n ≤ 1048576 := by omega
  have HT := hide (fun X (hX : Below w.heap.size w X) => by_to u p po n c L X hl n20 (hu.bel hX))
  have HM := hide (fun g X (hX : vb X g 5 (byL L)) => fsM_any (some ⟨g, 0, none⟩) g 0 n n L X hl hn hX.byt hL)
  have HP := hide (fun g X (hX : vb X g 5 (byL L)) => fsP_any (some ⟨g, 0, none⟩) g 0 n n L X hl hn hX.byt hL)
  have HE := hide (fun g g' X (hX : vb X g 5 (byL L)) (hY : vb X g' 5 (byL L)) => by_same (some ⟨g, 0, none⟩) (some ⟨g', 0, none⟩) g 0 g' 0 n n n L X hl n20 hX.byt hY.byt)
  have HB0 := hide (Below.refl w.heap.size w)
  generalize (if 65536 < n then 0 else sumN L) = s at *
  have ss : (s != s) = false := by simp
  clear hu hl hL
  go_enter Try.func3, Try.ntmps3
  go_wp2_with fail
  refine (unhide HT _ (unhide HB0)).mono ?_
  rintro e W1 ⟨⟨g1, rfl, _, h1⟩, hb1⟩
  have HB1 := hide (bc (unhide HB0) hb1)
  have HV1 := hide h1
  clear hb1 h1
  go_wp2_with fail
  refine (unhide HM _ _ (unhide HV1)).mono ?_
  rintro e W2 ⟨rfl, hb2⟩
  have HB2 := hide (bc (unhide HB1) hb2)
  clear hb2
  go_wp2_with fail
  refine (unhide HT _ (unhide HB2)).mono ?_
  rintro e W3 ⟨⟨g3, rfl, _, h3⟩, hb3⟩
  have HB3 := hide (bc (unhide HB2) hb3)
  have HV3 := hide h3
  clear hb3 h3
  go_wp2_with fail
  refine (unhide HP _ _ (unhide HV3)).mono ?_
  rintro e W4 ⟨rfl, hb4⟩
  have HB4 := hide (bc (unhide HB3) hb4)
  have HV4 := hide ((unhide HV3).bel hb4)
  clear hb4
  go_wp2_with fail
  refine (unhide HT _ (unhide HB4)).mono ?_
  rintro e W5 ⟨⟨g5, rfl, _, h5⟩, hb5⟩
  have HB5 := hide (bc (unhide HB4) hb5)
  have HV5 := hide ((unhide HV4).bel hb5)
  have HX5 := hide h5
  clear hb5 h5
  go_wp2_with fail
  refine (unhide HE _ _ _ (unhide HV5) (unhide HX5)).mono ?_
  rintro e W6 ⟨rfl, hb6⟩
  have HB6 := hide (bc (unhide HB5) hb6)
  clear hb6
  go_wp2_with fail
  go_ret
  exact ⟨rfl, unhide HB6⟩
theorem fnExactFileSum_own : ownKnob Try.prog.godebug = none := by kernel_rfl
theorem fnExactFileSum_laidOut : laidOutB Try.prog = true := by kernel_rfl

set_option maxRecDepth 100000 in
theorem fnExactFileSum_lifted (os : Os) (started : os.Started) (H : Type) (enc : TypeId × Value → H) :
    ReturnsInHanded {} Try.checked os 3 .any (Rows.fnExactFileSumSpec.pre6 enc Try.prog Try.f3 Rows.fnExactFileSumRow.domain false) (Rows.fnExactFileSumSpec.post enc Try.prog Try.f3 false true false false) := by
  refine returnsInHanded_of_change (C := Try.checked) fnExactFileSum_own started (by kernel_rfl) Try.func3
    (ChangeSpec.witness6 (enc := enc) (C := Try.checked) false ⟨#[], #[.slice none 0 0], []⟩ 8 (by kernel_rfl) (by kernel_rfl) (by kernel_rfl) (by kernel_rfl)) ?_
  intro W base args ds gs before hval0 hW hcnd _
  have hval : ∀ (j : Nat) t v, Try.f3.params[j]? = some t → args[j]? = some v → Value.okWide Try.prog W .any base t v := hval0
  have hW' := hW
  obtain ⟨p, q, hA0, hV, rfl, hfz, hnd⟩ := hW
  have hA : DataW.TrodAll enc Try.prog W 0 (fun _ => true) true Try.f3.params.toList args.toList ds p := hA0
  rw [Try.params3] at hA hval
  obtain ⟨v0, vs0, d0, ds0, p0, q0, hargs, rfl, rfl, h0, r0⟩ := trodAll_cons hA
  obtain ⟨rfl, rfl, rfl⟩ := trodAll_nil r0
  obtain rfl : args = #[v0] := by cases args; simp_all
  obtain ⟨rfl, rfl⟩ := trodVars_none hV
  obtain ⟨a0, len0, cap0, rfl⟩ := okWide_slice Try.underlying22 (hval 0 22 v0 rfl rfl)
  have k0 := h0
  have lt0 : ∀ x ∈ p0, x.block < W.heap.size := by obtain ⟨m, hm⟩ := k0; exact DataW.trod_lt m _ _ _ hm
  obtain ⟨pp0, po0, ms0, b0, l0, w0⟩ : ∃ (pp po : Nat) (J : List Int), len0 ≤ 9223372036854775807 ∧ J.length = len0 ∧ Byt J ∧ SlG byc 1 W a0 pp po J := by
    obtain ⟨fuel, hf⟩ := h0
    obtain ⟨u, n, cap, pp, po, ms, hcs, hn, hl, hx⟩ := open_by hf
    simp [Value.cells] at hcs
    obtain ⟨rfl, rfl, rfl⟩ := hcs
    exact ⟨pp, po, ms, hn, hl, hx⟩
  clear hA0 hval0
  refine (fnExactFileSum_walk a0 len0 cap0 pp0 po0 ms0 W b0 l0 w0).mono fun e W' ⟨he, bel⟩ => ?_
  subst he
  exact ⟨_, rfl, _, _, _, [], _, [], hW', trodAll_mk1 (shut_bool Try.underlying4 _), (trodAll_cons_mk (Below.trod fnExactFileSum_laidOut (by kernel_rfl) (of_decide_eq_true (by kernel_rfl)) k0 bel lt0) trodAll_mk0), rfl, bel.frame _, fun h => by cases h⟩

theorem fnExactFileSum_over : Rows.fnExactFileSumRow.holds Try.pinned (OpenSpec.ofChange Rows.fnExactFileSumSpec) :=
  OpenClaim.holds_of_wide 3 Try.f3 rfl rfl rfl rfl rfl rfl rfl ⟨rfl, rfl, rfl, rfl, rfl⟩ rfl rfl rfl rfl rfl (by kernel_rfl) Try.func3 (by kernel_rfl)
    (of_decide_eq_true (by kernel_rfl)) (by unfold Func.isWrapper; first | (rw [if_pos (by decide +kernel)]; kernel_rfl) | (rw [if_neg (by decide +kernel)]; exact ⟨rfl, rfl⟩))
    (fun os started H enc _ => fnExactFileSum_lifted os started H enc)

/-- The statement, as it was given. -/
theorem fnExactFileSum_holds : Rows.FnExactFileSumSaid := fnExactFileSum_over
#print axioms fnExactFileSum_holds
end Go.Proofs.Ytibcgimggcdllaa
