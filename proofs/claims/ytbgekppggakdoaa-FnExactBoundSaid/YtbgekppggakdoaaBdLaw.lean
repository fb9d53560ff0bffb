/-
  The program's Bound answers as the model at every shop and every jobs; it changes none of them.
-/
import Derived.Test.YtbgekppggakdoaaBdM
import Derived.Test.YtbgekppggakdoaaBdP
import Derived.Test.YtbgekppggakdoaaPOpen
import Derived.Test.YtbgekppggakdoaaChecked
import Derived.Test.YtbgekppggakdoaaRows
import Derived.ChangeOld
import Derived.Lib.SmallJoins
namespace Go.Proofs.Ytbgekppggakdoaa
open Go.ChangeShapes Go.WideShapes Go.ChangeAt Go.RowKit Go.Joins
set_option linter.unusedVariables false
set_option linter.unusedSimpArgs false

set_option maxHeartbeats 4000000 in
theorem fnExactBound_walk (N S L : Int) (u : Option Addr) (n c p po : Nat) (J : List Jb) (w : World) (hn : n ≤ 9223372036854775807) (hl : J.length = n) (hu : Jbs w u p po J) :
    Calls Try.prog 6 #[.agg #[.int .i64 N, .int .i64 S, .int .i64 L], .slice u n c] w fun e w' => e = .returned (.bool true) ∧ Below w.heap.size w w' := by
  have HB0 := hide (ba (Below.refl w.heap.size w) (.cells #[.int .i64 N, .int .i64 S, .int .i64 L] 23))
  have HV := hide (vb_new w 23 [.int .i64 N, .int .i64 S, .int .i64 L] w.heap.size rfl)
  have HZ := hide (fun X (hX : Below w.heap.size w X) => jb_sz u p po n c J 1048576 X hl hn (by omega) (by omega) (hu.bel hX))
  have HT := hide (fun (h1 : n ≤ 1048576) (h2 : ∀ j ∈ J, j.sn ≤ 1048576) X (hX : Below w.heap.size w X) => jb_to u p po n c J X hl h1 h2 (hu.bel hX))
  have HM : Hid (∀ g c J' X, Jbs X (some ⟨g, 0, none⟩) g 0 J' → Alike J J' → Calls Try.prog 25 #[.agg #[.int .i64 N, .int .i64 S, .int .i64 L], .slice (some ⟨g, 0, none⟩) n c] X fun e w' => e = .returned (.tuple #[.int .i64 (bdV N S L J), .int .i64 (bdC N S L J)]) ∧ Below X.heap.size X w') := hide (fun g c J' X hX ha => by
    have := bdM_any N S L (some ⟨g, 0, none⟩) g 0 n c J' X (by rw [ha.len, hl]) hn hX
    rw [ha.bdV, ha.bdC] at this
    exact this)
  have HP : Hid (∀ g c J' X, Jbs X (some ⟨g, 0, none⟩) g 0 J' → Alike J J' → Calls Try.prog 26 #[.agg #[.int .i64 N, .int .i64 S, .int .i64 L], .slice (some ⟨g, 0, none⟩) n c] X fun e w' => e = .returned (.tuple #[.int .i64 (bdV N S L J), .int .i64 (bdC N S L J)]) ∧ Below X.heap.size X w') := hide (fun g c J' X hX ha => by
    have := bdP_any N S L (some ⟨g, 0, none⟩) g 0 n c J' X (by rw [ha.len, hl]) hn hX
    rw [ha.bdV, ha.bdC] at this
    exact this)
  have HE := hide (fun (h1 : n ≤ 1048576) g g' J1 J2 X (ha : Alike J J1) (ha2 : Alike J J2) (hs : ∀ j ∈ J1, j.sn ≤ 1048576) (hX : Jbs X (some ⟨g, 0, none⟩) g 0 J1) (hY : Jbs X (some ⟨g', 0, none⟩) g' 0 J2) => jb_same (some ⟨g, 0, none⟩) (some ⟨g', 0, none⟩) g 0 g' 0 n n n J1 J2 X (by rw [ha.len, hl]) h1 hs (Alike.trans ha.symm ha2) hX hY)
  generalize bdV N S L J = bv at *
  generalize bdC N S L J = bq at *
  have bn : (bv != bv) = false := by simp
  have bn2 : (bq != bq) = false := by simp
  clear hu hl
  go_enter Try.func6, Try.ntmps6
  go_wp2_with fail
  refine (unhide HZ _ (unhide HB0)).mono ?_
  rintro e W0 ⟨⟨r, rfl, hr⟩, hb0⟩
  have v0 := (unhide HV).bel hb0
  have k0 := v0.cell (m := 0) rfl
  have k1 := v0.cell (m := 1) rfl
  have k2 := v0.cell (m := 2) rfl
  have HV0 := hide v0
  have HB1 := hide (bc (unhide HB0) hb0)
  clear hb0 v0
  rcases hr with rfl | ⟨r0, r1, r2, r3⟩
  · go_wp2_with fail
    go_ret
    exact ⟨rfl, unhide HB1⟩
  have rz : decide (r < 0) = false := decide_eq_false (by omega)
  have HT := hide (unhide HT (by omega) r3)
  have HE := hide (unhide HE (by omega))
  clear r3
  go_wp2_with fail
  refine (shop_conv N S L _).mono ?_
  rintro e W1 ⟨rfl, hb1⟩
  have HV1 := hide ((unhide HV0).bel hb1)
  have HB2 := hide (bc (unhide HB1) hb1)
  clear hb1 k0 k1 k2
  go_wp2_with fail
  refine (unhide HT _ (unhide HB2)).mono ?_
  rintro e W2 ⟨⟨g2, J2, rfl, ha2, hk2⟩, hb2⟩
  have HK2 := hide hk2.jbs
  have HV2 := hide ((unhide HV1).bel hb2)
  have HB3 := hide (bc (unhide HB2) hb2)
  have HA2 := hide ha2
  clear hb2 hk2 ha2
  go_wp2_with fail
  refine (unhide HM _ _ _ _ (unhide HK2) (unhide HA2)).mono ?_
  rintro e W3 ⟨rfl, hb3⟩
  have HV3 := hide ((unhide HV2).bel hb3)
  have HB4 := hide (bc (unhide HB3) hb3)
  clear hb3
  go_wp2_with fail
  refine (unhide HT _ (unhide HB4)).mono ?_
  rintro e W4 ⟨⟨g4, J4, rfl, ha4, hk4⟩, hb4⟩
  have v4 := (unhide HV3).bel hb4
  have k0 := v4.cell (m := 0) rfl
  have k1 := v4.cell (m := 1) rfl
  have k2 := v4.cell (m := 2) rfl
  have HS4 := hide (fun j hj => (hk4.each j hj).1.most)
  have HK4 := hide hk4.jbs
  have HA4 := hide ha4
  have HB5 := hide (bc (unhide HB4) hb4)
  clear hb4 v4 hk4 ha4
  go_wp2_with fail
  refine (shop_conv N S L _).mono ?_
  rintro e W5 ⟨rfl, hb5⟩
  have HB6 := hide (bc (unhide HB5) hb5)
  have HK5 := hide ((unhide HK4).bel hb5)
  clear hb5 k0 k1 k2
  go_wp2_with fail
  refine (unhide HP _ _ _ _ (unhide HK5) (unhide HA4)).mono ?_
  rintro e W6 ⟨rfl, hb6⟩
  have HB7 := hide (bc (unhide HB6) hb6)
  have HK6 := hide ((unhide HK5).bel hb6)
  clear hb6
  go_wp2_with fail
  refine (unhide HT _ (unhide HB7)).mono ?_
  rintro e W7 ⟨⟨g7, J7, rfl, ha7, hk7⟩, hb7⟩
  have HK7 := hide hk7.jbs
  have HK8 := hide ((unhide HK6).bel hb7)
  have HA7 := hide ha7
  have HB8 := hide (bc (unhide HB7) hb7)
  clear hb7 hk7 ha7
  go_wp2_with fail
  refine (unhide HE _ _ _ _ _ (unhide HA4) (unhide HA7) (unhide HS4) (unhide HK8) (unhide HK7)).mono ?_
  rintro e W8 ⟨rfl, hb8⟩
  have HB9 := hide (bc (unhide HB8) hb8)
  clear hb8
  go_wp2_with fail
  go_ret
  exact ⟨rfl, unhide HB9⟩
theorem fnExactBound_own : ownKnob Try.prog.godebug = none := by kernel_rfl
theorem fnExactBound_laidOut : laidOutB Try.prog = true := by kernel_rfl
theorem cells23 : Try.prog.cellsOf 23 = 3 := by kernel_rfl

set_option maxRecDepth 100000 in
theorem fnExactBound_lifted (os : Os) (started : os.Started) (H : Type) (enc : TypeId × Value → H) :
    ReturnsInHanded {} Try.checked os 6 .any (Rows.fnExactBoundSpec.pre6 enc Try.prog Try.f6 Rows.fnExactBoundRow.domain false) (Rows.fnExactBoundSpec.post enc Try.prog Try.f6 false true false false) := by
  refine returnsInHanded_of_change (C := Try.checked) fnExactBound_own started (by kernel_rfl) Try.func6
    (ChangeSpec.witness6 (enc := enc) (C := Try.checked) false ⟨#[], #[.agg #[.int .i64 0, .int .i64 0, .int .i64 0], .slice none 0 0], []⟩ 8 (by kernel_rfl) (by kernel_rfl) (by kernel_rfl) (by kernel_rfl)) ?_
  intro W base args ds gs before hval0 hW hcnd _
  have hval : ∀ (j : Nat) t v, Try.f6.params[j]? = some t → args[j]? = some v → Value.okWide Try.prog W .any base t v := hval0
  have hW' := hW
  obtain ⟨p, q, hA0, hV, rfl, hfz, hnd⟩ := hW
  have hA : DataW.TrodAll enc Try.prog W 0 (fun _ => true) true Try.f6.params.toList args.toList ds p := hA0
  rw [Try.params6] at hA hval
  obtain ⟨v0, vs0, d0, ds0, p0, q0, hargs, rfl, rfl, h0, r0⟩ := trodAll_cons hA
  obtain ⟨v1, vs1, d1, ds1, p1, q1, rfl, rfl, rfl, h1, r1⟩ := trodAll_cons r0
  obtain ⟨rfl, rfl, rfl⟩ := trodAll_nil r1
  obtain rfl : args = #[v0, v1] := by cases args; simp_all
  obtain ⟨rfl, rfl⟩ := trodVars_none hV
  have k0 := h0
  have lt0 : ∀ x ∈ p0, x.block < W.heap.size := by obtain ⟨m, hm⟩ := k0; exact DataW.trod_lt m _ _ _ hm
  obtain ⟨c0, e0, s0, y0, x0, z0, m0, rfl, rfl, rfl, hy0, hx0, hz0⟩ := open_agg3 Try.underlying23 (by kernel_rfl) cells23 (hval 0 23 v0 rfl rfl) h0
  obtain ⟨n0, en0, _, wn0⟩ := DataW.trod_int Try.underlying3 hy0
  obtain ⟨o0, eo0, _, wo0⟩ := DataW.trod_int Try.underlying3 hx0
  obtain ⟨r0a, er0, _, wr0⟩ := DataW.trod_int Try.underlying3 hz0
  simp at en0 eo0 er0
  subst en0 eo0 er0
  obtain ⟨a1, len1, cap1, rfl⟩ := okWide_slice Try.underlying24 (hval 1 24 v1 rfl rfl)
  have k1 := h1
  have lt1 : ∀ x ∈ p1, x.block < W.heap.size := by obtain ⟨m, hm⟩ := k1; exact DataW.trod_lt m _ _ _ hm
  obtain ⟨pp1, po1, ms1, b1, l1, w1⟩ : ∃ (pp po : Nat) (J : List Jb), len1 ≤ 9223372036854775807 ∧ J.length = len1 ∧ Jbs W a1 pp po J := by
    obtain ⟨fuel, hf⟩ := h1
    obtain ⟨u, n, cap, pp, po, ms, hcs, hn, hl, hx⟩ := open_jobs hf
    simp [Value.cells] at hcs
    obtain ⟨rfl, rfl, rfl⟩ := hcs
    exact ⟨pp, po, ms, hn, hl, hx⟩
  clear hA0 hval0
  refine (fnExactBound_walk n0 o0 r0a a1 len1 cap1 pp1 po1 ms1 W b1 l1 w1).mono fun e W' ⟨he, bel⟩ => ?_
  subst he
  exact ⟨_, rfl, _, _, _, [], _, [], hW', trodAll_mk1 (shut_bool Try.underlying4 _), (trodAll_cons_mk (Below.trod fnExactBound_laidOut (by kernel_rfl) (of_decide_eq_true (by kernel_rfl)) k0 bel lt0) (trodAll_cons_mk (Below.trod fnExactBound_laidOut (by kernel_rfl) (of_decide_eq_true (by kernel_rfl)) k1 bel lt1) trodAll_mk0)), rfl, bel.frame _, fun h => by cases h⟩

theorem fnExactBound_over : Rows.fnExactBoundRow.holds Try.pinned (OpenSpec.ofChange Rows.fnExactBoundSpec) :=
  OpenClaim.holds_of_wide 6 Try.f6 rfl rfl rfl rfl rfl rfl rfl ⟨rfl, rfl, rfl, rfl, rfl⟩ rfl rfl rfl rfl rfl (by kernel_rfl) Try.func6 (by kernel_rfl)
    (of_decide_eq_true (by kernel_rfl)) (by unfold Func.isWrapper; first | (rw [if_pos (by decide +kernel)]; kernel_rfl) | (rw [if_neg (by decide +kernel)]; exact ⟨rfl, rfl⟩))
    (fun os started H enc _ => fnExactBound_lifted os started H enc)

/-- The statement, as it was given. -/
theorem fnExactBound_holds : Rows.FnExactBoundSaid := fnExactBound_over
#print axioms fnExactBound_holds
end Go.Proofs.Ytbgekppggakdoaa
