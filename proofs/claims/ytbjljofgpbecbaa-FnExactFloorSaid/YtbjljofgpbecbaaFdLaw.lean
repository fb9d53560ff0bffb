/-
  The program's FieldOK answers as the model at every field, right or not; it changes none.
-/
import Derived.Test.YtbjljofgpbecbaaFdRows
import Derived.Test.YtbjljofgpbecbaaOpenRows
import Derived.Test.YtbjljofgpbecbaaChecked
import Derived.Test.YtbjljofgpbecbaaRows
import Derived.ChangeOld
import Derived.Lib.SmallJoins
namespace Go.Proofs.Ytbjljofgpbecbaa
open Go.ChangeShapes Go.WideShapes Go.ChangeAt Go.RowKit Go.Joins
set_option linter.unusedVariables false
set_option linter.unusedSimpArgs false

theorem its_of {w : World} {u : Option Addr} {n : Nat} {L : List Int} (hl : L.length = n) (h : n ≠ 0 → ∃ p po, u = some ⟨p, po, none⟩ ∧ p < w.heap.size ∧ IntsAt w p po L) : ∃ p po, Its w u p po L := by
  by_cases hn : n = 0
  · exact ⟨0, 0, fun h0 => absurd (List.eq_nil_of_length_eq_zero (by omega)) h0⟩
  · obtain ⟨p, po, h1, h2, h3⟩ := h hn
    exact ⟨p, po, fun _ => ⟨h1, h2, h3⟩⟩
theorem iblk.its {w : World} {g : Nat} {L : List Int} (h : iblk w g 3 L) : Its w (some ⟨g, 0, none⟩) g 0 L := fun _ => ⟨rfl, h.lt, h.ints⟩
set_option maxHeartbeats 2000000 in
theorem fnExactFieldOK_walk (W H : Int) (u : Option Addr) (n c : Nat) (L : List Int) (w : World) (hn : n ≤ 9223372036854775807) (hl : L.length = n)
    (hx : n ≠ 0 → ∃ p po, u = some ⟨p, po, none⟩ ∧ p < w.heap.size ∧ IntsAt w p po L) :
    Calls Try.prog 5 #[fldV W H u n c] w fun e w' => e = .returned (.bool true) ∧ Below w.heap.size w w' := by
  obtain ⟨p, po, hu⟩ := its_of hl hx
  have HB0 := hide (ba (Below.refl w.heap.size w) (.cells #[.int .i64 W, .int .i64 H, .slice u n c] 42))
  have HV := hide (vb_new w 42 [.int .i64 W, .int .i64 H, .slice u n c] w.heap.size rfl)
  by_cases hb : n ≤ 1048576
  · have t1 : decide ((1048576 : Int) - (n : Int) < 0) = false := decide_eq_false (by omega)
    have HZ := hide (fun X => fd_sz_in W H u n c 1048576 X (by omega) (by omega))
    have HT := hide (fun X (hX : Below w.heap.size w X) => fd_to W H u p po n c L X hl hb (hu.bel hX))
    have HM := hide (fun g X (hX : iblk X g 3 L) => fokM_any W H (some ⟨g, 0, none⟩) g 0 n n L X hl hn hX.its)
    have HP := hide (fun g X (hX : iblk X g 3 L) => fokP_any W H (some ⟨g, 0, none⟩) g 0 n n L X hl hn hX.its)
    have HE := hide (fun g g' X (hX : iblk X g 3 L) (hY : iblk X g' 3 L) => fd_same W H (some ⟨g, 0, none⟩) (some ⟨g', 0, none⟩) g 0 g' 0 n n n L X hl hb hX.its hY.its)
    generalize fokB W H L = bb at *
    have bn : (bb != bb) = false := by simp
    unfold fldV at *
    clear hx hu hl
    go_enter Try.func5, Try.ntmps5
    go_wp2_with fail
    refine (unhide HZ _).mono ?_
    rintro e W0 ⟨rfl, hb0⟩
    have v0 := (unhide HV).bel hb0
    have k0 := v0.cell (m := 0) rfl
    have k1 := v0.cell (m := 1) rfl
    have k2 := v0.cell (m := 2) rfl
    have HV0 := hide v0
    have HB1 := hide (bc (unhide HB0) hb0)
    clear hb0 v0
    go_wp2_with fail
    refine (unhide HT _ (unhide HB1)).mono ?_
    rintro e W1 ⟨⟨g1, rfl, hg1, hk1⟩, hb1⟩
    have HK1 := hide hk1
    have HV1 := hide ((unhide HV0).bel hb1)
    have HB2 := hide (bc (unhide HB1) hb1)
    clear hb1 hk1 hg1 k0 k1 k2
    go_wp2_with fail
    refine (unhide HM _ _ (unhide HK1)).mono ?_
    rintro e W2 ⟨rfl, hb2⟩
    have v2 := (unhide HV1).bel hb2
    have k0 := v2.cell (m := 0) rfl
    have k1 := v2.cell (m := 1) rfl
    have k2 := v2.cell (m := 2) rfl
    have HV2 := hide v2
    have HB3 := hide (bc (unhide HB2) hb2)
    clear hb2 v2
    go_wp2_with fail
    refine (unhide HT _ (unhide HB3)).mono ?_
    rintro e W3 ⟨⟨g3, rfl, hg3, hk3⟩, hb3⟩
    have HK3 := hide hk3
    have HV3 := hide ((unhide HV2).bel hb3)
    have HB4 := hide (bc (unhide HB3) hb3)
    clear hb3 hk3 hg3 k0 k1 k2
    go_wp2_with fail
    have HG3 := hide (unhide HK3).lt
    have HX4 := hide (ba (unhide HB4) (.cells #[.int .i64 W, .int .i64 H, .slice (some ⟨g3, 0, none⟩) n n] 25))
    have HK4 := hide ((unhide HK3).bel (ba (Below.refl _ _) (.cells #[.int .i64 W, .int .i64 H, .slice (some ⟨g3, 0, none⟩) n n] 25)))
    have HV4 := hide ((unhide HV3).bel (ba (Below.refl _ _) (.cells #[.int .i64 W, .int .i64 H, .slice (some ⟨g3, 0, none⟩) n n] 25)))
    have HN4 := hide (vb_new W3 25 [.int .i64 W, .int .i64 H, .slice (some ⟨g3, 0, none⟩) n n] W3.heap.size rfl)
    refine (unhide HP _ _ (unhide HK4)).mono ?_
    rintro e W5 ⟨rfl, hb5⟩
    have v5 := (unhide HV4).bel hb5
    have k0 := v5.cell (m := 0) rfl
    have k1 := v5.cell (m := 1) rfl
    have k2 := v5.cell (m := 2) rfl
    have v6 := (unhide HN4).bel hb5
    have l0 := v6.cell (m := 0) rfl
    have l1 := v6.cell (m := 1) rfl
    have l2 := v6.cell (m := 2) rfl
    have HK5 := hide ((unhide HK4).bel hb5)
    have HB5 := hide (bc (unhide HX4) hb5)
    clear hb5 v5 v6
    go_wp2_with fail
    go_region_held3 (fun wx => wx.cell? ⟨w.heap.size, 0, none⟩ = some (.int .i64 W) ∧ wx.cell? ⟨w.heap.size, 1, none⟩ = some (.int .i64 H) ∧ wx.cell? ⟨w.heap.size, 2, none⟩ = some (.slice u n c) ∧ wx.cell? ⟨W3.heap.size, 0, none⟩ = some (.int .i64 W) ∧ wx.cell? ⟨W3.heap.size, 1, none⟩ = some (.int .i64 H) ∧ wx.cell? ⟨W3.heap.size, 2, none⟩ = some (.slice (some ⟨g3, 0, none⟩) n n))
      (simp (maxDischargeDepth := 12) [go_sem, le1, lt1, *])
      (first
      | (go_at_call 21; refine (unhide HT _ (by repeat (first | exact unhide HB5 | refine Below.drew ?_))).mono ?_; rintro e w' ⟨⟨g6, rfl, hg6, hk6⟩, hb⟩; have HB6 := hide (show Below w.heap.size w w' from bc (by repeat (first | exact unhide HB5 | refine Below.drew ?_)) hb); have HK6 := hide hk6; have HK7 := hide (show iblk w' g3 3 L from (unhide HK5).bel (bc (by repeat (first | exact Below.refl _ _ | refine Below.drew ?_)) hb)); have y0 := keep1 hb (b := w.heap.size) (o := 0) (v := .int .i64 W) (by simp (maxDischargeDepth := 12) [go_sem, le1, lt1, *]); have y1 := keep1 hb (b := w.heap.size) (o := 1) (v := .int .i64 H) (by simp (maxDischargeDepth := 12) [go_sem, le1, lt1, *]); have y2 := keep1 hb (b := w.heap.size) (o := 2) (v := .slice u n c) (by simp (maxDischargeDepth := 12) [go_sem, le1, lt1, *]); have z0 := keep1 hb (b := W3.heap.size) (o := 0) (v := .int .i64 W) (by simp (maxDischargeDepth := 12) [go_sem, le1, lt1, *]); have z1 := keep1 hb (b := W3.heap.size) (o := 1) (v := .int .i64 H) (by simp (maxDischargeDepth := 12) [go_sem, le1, lt1, *]); have z2 := keep1 hb (b := W3.heap.size) (o := 2) (v := .slice (some ⟨g3, 0, none⟩) n n) (by simp (maxDischargeDepth := 12) [go_sem, le1, lt1, *]); clear hb hk6 hg6)
      | (go_at_call 23; refine (unhide HE _ _ _ (unhide HK7) (unhide HK6)).mono ?_; rintro e w' ⟨rfl, hb⟩; have HB7 := hide (show Below w.heap.size w w' from bc (by repeat (first | exact unhide HB6 | refine Below.drew ?_)) hb); have y0' := keep1 hb (b := w.heap.size) (o := 0) (v := .int .i64 W) (by simp (maxDischargeDepth := 12) [go_sem, le1, lt1, *]); have y1' := keep1 hb (b := w.heap.size) (o := 1) (v := .int .i64 H) (by simp (maxDischargeDepth := 12) [go_sem, le1, lt1, *]); have y2' := keep1 hb (b := w.heap.size) (o := 2) (v := .slice u n c) (by simp (maxDischargeDepth := 12) [go_sem, le1, lt1, *]); have z0' := keep1 hb (b := W3.heap.size) (o := 0) (v := .int .i64 W) (by simp (maxDischargeDepth := 12) [go_sem, le1, lt1, *]); have z1' := keep1 hb (b := W3.heap.size) (o := 1) (v := .int .i64 H) (by simp (maxDischargeDepth := 12) [go_sem, le1, lt1, *]); have z2' := keep1 hb (b := W3.heap.size) (o := 2) (v := .slice (some ⟨g3, 0, none⟩) n n) (by simp (maxDischargeDepth := 12) [go_sem, le1, lt1, *]); clear hb))
    all_goals
      go_wp2_with fail
      go_ret
      exact ⟨rfl, by repeat (first | exact unhide HB7 | refine Below.drew ?_)⟩
  · have HZ := hide (fun X => fd_sz_out W H u n c 1048576 X (by omega) (by omega) (by omega) hn)
    unfold fldV at *
    clear hx hu hl
    go_enter Try.func5, Try.ntmps5
    go_wp2_with fail
    refine (unhide HZ _).mono ?_
    rintro e W0 ⟨rfl, hb0⟩
    have HB1 := hide (bc (unhide HB0) hb0)
    clear hb0
    go_wp2_with fail
    go_ret
    exact ⟨rfl, unhide HB1⟩
theorem fnExactFieldOK_own : ownKnob Try.prog.godebug = none := by kernel_rfl
theorem fnExactFieldOK_laidOut : laidOutB Try.prog = true := by kernel_rfl
theorem cells42 : Try.prog.cellsOf 42 = 3 := by kernel_rfl

set_option maxRecDepth 100000 in
theorem fnExactFieldOK_lifted (os : Os) (started : os.Started) (H : Type) (enc : TypeId × Value → H) :
    ReturnsInHanded {} Try.checked os 5 .any (Rows.fnExactFieldOKSpec.pre6 enc Try.prog Try.f5 Rows.fnExactFieldOKRow.domain false) (Rows.fnExactFieldOKSpec.post enc Try.prog Try.f5 false true false false) := by
  refine returnsInHanded_of_change (C := Try.checked) fnExactFieldOK_own started (by kernel_rfl) Try.func5
    (ChangeSpec.witness6 (enc := enc) (C := Try.checked) false ⟨#[], #[.agg #[.int .i64 0, .int .i64 0, .slice none 0 0]], []⟩ 8 (by kernel_rfl) (by kernel_rfl) (by kernel_rfl) (by kernel_rfl)) ?_
  intro W base args ds gs before hval0 hW hcnd _
  have hval : ∀ (j : Nat) t v, Try.f5.params[j]? = some t → args[j]? = some v → Value.okWide Try.prog W .any base t v := hval0
  have hW' := hW
  obtain ⟨p, q, hA0, hV, rfl, hfz, hnd⟩ := hW
  have hA : DataW.TrodAll enc Try.prog W 0 (fun _ => true) true Try.f5.params.toList args.toList ds p := hA0
  rw [Try.params5] at hA hval
  obtain ⟨v0, vs0, d0, ds0, p0, q0, hargs, rfl, rfl, h0, r0⟩ := trodAll_cons hA
  obtain ⟨rfl, rfl, rfl⟩ := trodAll_nil r0
  obtain rfl : args = #[v0] := by cases args; simp_all
  obtain ⟨rfl, rfl⟩ := trodVars_none hV
  have k0 := h0
  have lt0 : ∀ x ∈ p0, x.block < W.heap.size := by obtain ⟨m, hm⟩ := k0; exact DataW.trod_lt m _ _ _ hm
  obtain ⟨c0, e0, s0, y0, x0, z0, m0, rfl, rfl, rfl, hy0, hx0, hz0⟩ := open_agg3 Try.underlying42 (by kernel_rfl) cells42 (hval 0 42 v0 rfl rfl) h0
  obtain ⟨n0, en0, _, wn0⟩ := DataW.trod_int Try.underlying3 hy0
  obtain ⟨o0, eo0, _, wo0⟩ := DataW.trod_int Try.underlying3 hx0
  simp at en0 eo0
  subst en0 eo0
  obtain ⟨a0, len0, cap0, L0, hcs0, b0, l0, w0⟩ := open_irow Try.underlying23 Try.underlying3 (by kernel_rfl) hz0
  simp at hcs0
  subst hcs0
  clear hA0 hval0
  refine (fnExactFieldOK_walk n0 o0 a0 len0 cap0 L0 W b0 l0 w0).mono fun e W' ⟨he, bel⟩ => ?_
  subst he
  exact ⟨_, rfl, _, _, _, [], _, [], hW', trodAll_mk1 (shut_bool Try.underlying4 _), (trodAll_cons_mk (Below.trod fnExactFieldOK_laidOut (by kernel_rfl) (of_decide_eq_true (by kernel_rfl)) k0 bel lt0) trodAll_mk0), rfl, bel.frame _, fun h => by cases h⟩

theorem fnExactFieldOK_over : Rows.fnExactFieldOKRow.holds Try.pinned (OpenSpec.ofChange Rows.fnExactFieldOKSpec) :=
  OpenClaim.holds_of_wide 5 Try.f5 rfl rfl rfl rfl rfl rfl rfl ⟨rfl, rfl, rfl, rfl, rfl⟩ rfl rfl rfl rfl rfl (by kernel_rfl) Try.func5 (by kernel_rfl)
    (of_decide_eq_true (by kernel_rfl)) (by unfold Func.isWrapper; first | (rw [if_pos (by decide +kernel)]; kernel_rfl) | (rw [if_neg (by decide +kernel)]; exact ⟨rfl, rfl⟩))
    (fun os started H enc _ => fnExactFieldOK_lifted os started H enc)

/-- The statement, as it was given. -/
theorem fnExactFieldOK_holds : Rows.FnExactFieldOKSaid := fnExactFieldOK_over
#print axioms fnExactFieldOK_holds
end Go.Proofs.Ytbjljofgpbecbaa
