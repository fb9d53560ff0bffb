/-
  The program's FrameOK answers as the model at every frame, right or not; it changes none.
-/
import Derived.Test.YtjbbpllmojiaoaaFmRows
import Derived.Test.YtjbbpllmojiaoaaFoK
import Derived.Test.YtjbbpllmojiaoaaOpenRows
import Derived.Test.YtjbbpllmojiaoaaChecked
import Derived.Test.YtjbbpllmojiaoaaRows
import Derived.ChangeOld
import Derived.Lib.SmallJoins
namespace Go.Proofs.Ytjbbpllmojiaoaa
open Go.ChangeShapes Go.WideShapes Go.ChangeAt Go.RowKit Go.Joins
set_option linter.unusedVariables false
set_option linter.unusedSimpArgs false

theorem sps_of {w : World} {u : Option Addr} {n : Nat} {L : List Int} (hl : L.length = n * 3) (h : n ≠ 0 → ∃ p po, u = some ⟨p, po, none⟩ ∧ p < w.heap.size ∧ IntsAt w p po L) : ∃ S p po, S.length = n ∧ Sps w u p po S := by
  obtain ⟨S, hs, rfl⟩ := flat3_of n L hl
  by_cases hn : n = 0
  · exact ⟨S, 0, 0, hs, fun h0 => absurd (List.eq_nil_of_length_eq_zero (by omega)) h0⟩
  · obtain ⟨p, po, h1, h2, h3⟩ := h hn
    exact ⟨S, p, po, hs, fun _ => ⟨h1, h2, h3⟩⟩
set_option maxHeartbeats 4000000 in
theorem fnExactFrameOK_walk (N : Int) (u : Option Addr) (n c : Nat) (L0 : List Int) (v : Option Addr) (m d : Nat) (L : List Int) (w : World) (hn : n ≤ 9223372036854775807) (hl0 : L0.length = n * 3)
    (hx : n ≠ 0 → ∃ p po, u = some ⟨p, po, none⟩ ∧ p < w.heap.size ∧ IntsAt w p po L0) (hm : m ≤ 9223372036854775807) (hl : L.length = m)
    (hx' : m ≠ 0 → ∃ p po, v = some ⟨p, po, none⟩ ∧ p < w.heap.size ∧ IntsAt w p po L) :
    Calls Try.prog 4 #[.agg #[.int .i64 N, .slice u n c, .slice v m d]] w fun e w' => e = .returned (.bool true) ∧ Below w.heap.size w w' := by
  obtain ⟨S, p, po, hs, hu⟩ := sps_of hl0 hx
  obtain ⟨p', po', hu'⟩ := its_of hl hx'
  have HB0 := hide (ba (Below.refl w.heap.size w) (.cells #[.int .i64 N, .slice u n c, .slice v m d] 49))
  have HV := hide (vb_new w 49 [.int .i64 N, .slice u n c, .slice v m d] w.heap.size rfl)
  by_cases hb : (n : Int) + (m : Int) ≤ 1048576
  · have t1 : decide ((1048576 : Int) - (n : Int) - (m : Int) < 0) = false := decide_eq_false (by omega)
    have HZ := hide (fun X => fm_sz_in N u v n c m d 1048576 X (by omega) hb)
    have HT := hide (fun X (hX : Below w.heap.size w X) => fm_to N u v p po p' po' n c m d S L X hs (by omega) hl (by omega) (hu.bel hX) (hu'.bel hX))
    have HM := hide (fun g h X (hX : Fmd X g h n m S L) => fokM_any N (some ⟨g, 0, none⟩) (some ⟨h, 0, none⟩) g 0 h 0 n n m m S L X hs hn hl hm hX.1.sps hX.2.1.its)
    have HP := hide (fun g h X (hX : Fmd X g h n m S L) => fokP_any N (some ⟨g, 0, none⟩) (some ⟨h, 0, none⟩) g 0 h 0 n n m m S L X hs hn hl hm hX.1.sps hX.2.1.its)
    have HE := hide (fun g h g' h' X (hX : Fmd X g h n m S L) (hY : Fmd X g' h' n m S L) => fm_same N (some ⟨g, 0, none⟩) (some ⟨g', 0, none⟩) (some ⟨h, 0, none⟩) (some ⟨h', 0, none⟩) g 0 g' 0 h 0 h' 0 n n n m m m S L X hs (by omega) hl (by omega) hX.1.sps hY.1.sps hX.2.1.its hY.2.1.its)
    generalize frOk N S L = bb at *
    have bn : (bb != bb) = false := by simp
    clear hx hu hl hl0 hs hx' hu'
    go_enter Try.func4, Try.ntmps4
    go_wp2_with fail
    refine (unhide HZ _).mono ?_
    rintro e W0 ⟨rfl, hb0⟩
    have v0 := (unhide HV).bel hb0
    have k0 := v0.cell (m := 0) rfl
    have k1 := v0.cell (m := 1) rfl
    have k2 := v0.cell (m := 2) rfl
    have HV0 := hide v0
    have HB1 := hide (bc (unhide HB0) hb0)
    clear hb0 v0
    go_wp2_with fail
    refine (unhide HT _ (unhide HB1)).mono ?_
    rintro e W1 ⟨⟨g1, h1, rfl, hg1, hh1, hk1⟩, hb1⟩
    have HK1 := hide hk1
    have HV1 := hide ((unhide HV0).bel hb1)
    have HB2 := hide (bc (unhide HB1) hb1)
    clear hb1 hk1 hg1 hh1 k0 k1 k2
    go_wp2_with fail
    refine (unhide HM _ _ _ (unhide HK1)).mono ?_
    rintro e W2 ⟨rfl, hb2⟩
    have v2 := (unhide HV1).bel hb2
    have k0 := v2.cell (m := 0) rfl
    have k1 := v2.cell (m := 1) rfl
    have k2 := v2.cell (m := 2) rfl
    have HV2 := hide v2
    have HB3 := hide (bc (unhide HB2) hb2)
    clear hb2 v2
    go_wp2_with fail
    refine (unhide HT _ (unhide HB3)).mono ?_
    rintro e W3 ⟨⟨g3, h3, rfl, hg3, hh3, hk3⟩, hb3⟩
    have HK3 := hide hk3
    have HV3 := hide ((unhide HV2).bel hb3)
    have HB4 := hide (bc (unhide HB3) hb3)
    clear hb3 hk3 hg3 hh3 k0 k1 k2
    go_wp2_with fail
    have HX4 := hide (ba (unhide HB4) (.cells #[.int .i64 N, .slice (some ⟨g3, 0, none⟩) n n, .slice (some ⟨h3, 0, none⟩) m m] 26))
    have HK4 := hide ((unhide HK3).bel (ba (Below.refl _ _) (.cells #[.int .i64 N, .slice (some ⟨g3, 0, none⟩) n n, .slice (some ⟨h3, 0, none⟩) m m] 26)))
    have HV4 := hide ((unhide HV3).bel (ba (Below.refl _ _) (.cells #[.int .i64 N, .slice (some ⟨g3, 0, none⟩) n n, .slice (some ⟨h3, 0, none⟩) m m] 26)))
    have HN4 := hide (vb_new W3 26 [.int .i64 N, .slice (some ⟨g3, 0, none⟩) n n, .slice (some ⟨h3, 0, none⟩) m m] W3.heap.size rfl)
    refine (unhide HP _ _ _ (unhide HK4)).mono ?_
    rintro e W5 ⟨rfl, hb5⟩
    have v5 := (unhide HV4).bel hb5
    have k0 := v5.cell (m := 0) rfl
    have k1 := v5.cell (m := 1) rfl
    have k2 := v5.cell (m := 2) rfl
    have v6 := (unhide HN4).bel hb5
    have l0 := v6.cell (m := 0) rfl
    have l1 := v6.cell (m := 1) rfl
    have l2 := v6.cell (m := 2) rfl
    have HK5 := hide ((unhide HK4).bel hb5)
    have HB5 := hide (bc (unhide HX4) hb5)
    clear hb5 v5 v6
    go_wp2_with fail
    go_region_held3 (fun wx => wx.cell? ⟨w.heap.size, 0, none⟩ = some (.int .i64 N) ∧ wx.cell? ⟨w.heap.size, 1, none⟩ = some (.slice u n c) ∧ wx.cell? ⟨w.heap.size, 2, none⟩ = some (.slice v m d) ∧ wx.cell? ⟨W3.heap.size, 0, none⟩ = some (.int .i64 N) ∧ wx.cell? ⟨W3.heap.size, 1, none⟩ = some (.slice (some ⟨g3, 0, none⟩) n n) ∧ wx.cell? ⟨W3.heap.size, 2, none⟩ = some (.slice (some ⟨h3, 0, none⟩) m m))
      (simp (maxDischargeDepth := 12) [go_sem, le1, lt1, *])
      (first
      | (go_at_call 20; refine (unhide HT _ (by repeat (first | exact unhide HB5 | refine Below.drew ?_))).mono ?_; rintro e w' ⟨⟨g6, h6, rfl, hg6, hh6, hk6⟩, hb⟩; have HB6 := hide (show Below w.heap.size w w' from bc (by repeat (first | exact unhide HB5 | refine Below.drew ?_)) hb); have HK6 := hide hk6; have HK7 := hide (show Fmd w' g3 h3 n m S L from (unhide HK5).bel (bc (by repeat (first | exact Below.refl _ _ | refine Below.drew ?_)) hb)); have y0 := keep1 hb (b := w.heap.size) (o := 0) (v := .int .i64 N) (by simp (maxDischargeDepth := 12) [go_sem, le1, lt1, *]); have y1 := keep1 hb (b := w.heap.size) (o := 1) (v := .slice u n c) (by simp (maxDischargeDepth := 12) [go_sem, le1, lt1, *]); have y2 := keep1 hb (b := w.heap.size) (o := 2) (v := .slice v m d) (by simp (maxDischargeDepth := 12) [go_sem, le1, lt1, *]); have y3 := keep1 hb (b := W3.heap.size) (o := 0) (v := .int .i64 N) (by simp (maxDischargeDepth := 12) [go_sem, le1, lt1, *]); have y4 := keep1 hb (b := W3.heap.size) (o := 1) (v := .slice (some ⟨g3, 0, none⟩) n n) (by simp (maxDischargeDepth := 12) [go_sem, le1, lt1, *]); have y5 := keep1 hb (b := W3.heap.size) (o := 2) (v := .slice (some ⟨h3, 0, none⟩) m m) (by simp (maxDischargeDepth := 12) [go_sem, le1, lt1, *]); clear hb hk6 hg6 hh6)
      | (go_at_call 22; refine (unhide HE _ _ _ _ _ (unhide HK7) (unhide HK6)).mono ?_; rintro e w' ⟨rfl, hb⟩; have HB7 := hide (show Below w.heap.size w w' from bc (by repeat (first | exact unhide HB6 | refine Below.drew ?_)) hb); have z0 := keep1 hb (b := w.heap.size) (o := 0) (v := .int .i64 N) (by simp (maxDischargeDepth := 12) [go_sem, le1, lt1, *]); have z1 := keep1 hb (b := w.heap.size) (o := 1) (v := .slice u n c) (by simp (maxDischargeDepth := 12) [go_sem, le1, lt1, *]); have z2 := keep1 hb (b := w.heap.size) (o := 2) (v := .slice v m d) (by simp (maxDischargeDepth := 12) [go_sem, le1, lt1, *]); have z3 := keep1 hb (b := W3.heap.size) (o := 0) (v := .int .i64 N) (by simp (maxDischargeDepth := 12) [go_sem, le1, lt1, *]); have z4 := keep1 hb (b := W3.heap.size) (o := 1) (v := .slice (some ⟨g3, 0, none⟩) n n) (by simp (maxDischargeDepth := 12) [go_sem, le1, lt1, *]); have z5 := keep1 hb (b := W3.heap.size) (o := 2) (v := .slice (some ⟨h3, 0, none⟩) m m) (by simp (maxDischargeDepth := 12) [go_sem, le1, lt1, *]); clear hb))
    all_goals
      go_wp2_with fail
      go_ret
      exact ⟨rfl, by repeat (first | exact unhide HB7 | refine Below.drew ?_)⟩
  · have HZ := hide (fun X => fm_sz_out N u v n c m d 1048576 X (by omega) (by omega) (by omega) hn hm)
    clear hx hu hl hl0 hs hx' hu'
    go_enter Try.func4, Try.ntmps4
    go_wp2_with fail
    refine (unhide HZ _).mono ?_
    rintro e W0 ⟨rfl, hb0⟩
    have HB1 := hide (bc (unhide HB0) hb0)
    clear hb0
    go_wp2_with fail
    go_ret
    exact ⟨rfl, unhide HB1⟩
theorem fnExactFrameOK_own : ownKnob Try.prog.godebug = none := by kernel_rfl
theorem fnExactFrameOK_laidOut : laidOutB Try.prog = true := by kernel_rfl
theorem cells49 : Try.prog.cellsOf 49 = 3 := by kernel_rfl

set_option maxRecDepth 100000 in
theorem fnExactFrameOK_lifted (os : Os) (started : os.Started) (H : Type) (enc : TypeId × Value → H) :
    ReturnsInHanded {} Try.checked os 4 .any (Rows.fnExactFrameOKSpec.pre6 enc Try.prog Try.f4 Rows.fnExactFrameOKRow.domain false) (Rows.fnExactFrameOKSpec.post enc Try.prog Try.f4 false true false false) := by
  refine returnsInHanded_of_change (C := Try.checked) fnExactFrameOK_own started (by kernel_rfl) Try.func4
    (ChangeSpec.witness6 (enc := enc) (C := Try.checked) false ⟨#[], #[.agg #[.int .i64 0, .slice none 0 0, .slice none 0 0]], []⟩ 8 (by kernel_rfl) (by kernel_rfl) (by kernel_rfl) (by kernel_rfl)) ?_
  intro W base args ds gs before hval0 hW hcnd _
  have hval : ∀ (j : Nat) t v, Try.f4.params[j]? = some t → args[j]? = some v → Value.okWide Try.prog W .any base t v := hval0
  have hW' := hW
  obtain ⟨p, q, hA0, hV, rfl, hfz, hnd⟩ := hW
  have hA : DataW.TrodAll enc Try.prog W 0 (fun _ => true) true Try.f4.params.toList args.toList ds p := hA0
  rw [Try.params4] at hA hval
  obtain ⟨v0, vs0, d0, ds0, p0, q0, hargs, rfl, rfl, h0, r0⟩ := trodAll_cons hA
  obtain ⟨rfl, rfl, rfl⟩ := trodAll_nil r0
  obtain rfl : args = #[v0] := by cases args; simp_all
  obtain ⟨rfl, rfl⟩ := trodVars_none hV
  have k0 := h0
  have lt0 : ∀ x ∈ p0, x.block < W.heap.size := by obtain ⟨m, hm⟩ := k0; exact DataW.trod_lt m _ _ _ hm
  obtain ⟨c0, e0, s0, y0, x0, z0, m0, rfl, rfl, rfl, hy0, hx0, hz0⟩ := open_agg3 Try.underlying49 (by kernel_rfl) cells49 (hval 0 49 v0 rfl rfl) h0
  obtain ⟨n0, en0, _, wn0⟩ := DataW.trod_int Try.underlying3 hy0
  simp at en0
  subst en0
  obtain ⟨a0, len0, cap0, L0, hcs0, b0, l0, w0⟩ := open_structs Try.underlying47 Try.underlying102 (k := 3) (by kernel_rfl) (by decide) rfl (by kernel_rfl) hx0
  simp at hcs0
  subst hcs0
  obtain ⟨a0', len0', cap0', L0', hcs0', b0', l0', w0'⟩ := open_irow Try.underlying24 Try.underlying3 (by kernel_rfl) hz0
  simp at hcs0'
  subst hcs0'

  clear hA0 hval0
  refine (fnExactFrameOK_walk n0 a0 len0 cap0 L0 a0' len0' cap0' L0' W b0 l0 w0 b0' l0' w0').mono fun e W' ⟨he, bel⟩ => ?_
  subst he
  exact ⟨_, rfl, _, _, _, [], _, [], hW', trodAll_mk1 (shut_bool Try.underlying4 _), (trodAll_cons_mk (Below.trod fnExactFrameOK_laidOut (by kernel_rfl) (of_decide_eq_true (by kernel_rfl)) k0 bel lt0) trodAll_mk0), rfl, bel.frame _, fun h => by cases h⟩

theorem fnExactFrameOK_over : Rows.fnExactFrameOKRow.holds Try.pinned (OpenSpec.ofChange Rows.fnExactFrameOKSpec) :=
  OpenClaim.holds_of_wide 4 Try.f4 rfl rfl rfl rfl rfl rfl rfl ⟨rfl, rfl, rfl, rfl, rfl⟩ rfl rfl rfl rfl rfl (by kernel_rfl) Try.func4 (by kernel_rfl)
    (of_decide_eq_true (by kernel_rfl)) (by unfold Func.isWrapper; first | (rw [if_pos (by decide +kernel)]; kernel_rfl) | (rw [if_neg (by decide +kernel)]; exact ⟨rfl, rfl⟩))
    (fun os started H enc _ => fnExactFrameOK_lifted os started H enc)

/-- The statement, as it was given. -/
theorem fnExactFrameOK_holds : Rows.FnExactFrameOKSaid := fnExactFrameOK_over
#print axioms fnExactFrameOK_holds
end Go.Proofs.Ytjbbpllmojiaoaa
