/-
  The program's PlanCode answers as the model at every shop, jobs and slots; it changes none of them.
-/
import Derived.Test.YtbgekppggakdoaaPcM
import Derived.Test.YtbgekppggakdoaaPcPl
import Derived.Test.YtbgekppggakdoaaSlRows
import Derived.Test.YtbgekppggakdoaaPOpen
import Derived.Test.YtbgekppggakdoaaChecked
import Derived.Test.YtbgekppggakdoaaRows
import Derived.ChangeOld
import Derived.Lib.SmallJoins
namespace Go.Proofs.Ytbgekppggakdoaa
open Go.ChangeShapes Go.WideShapes Go.ChangeAt Go.RowKit Go.Joins
set_option linter.unusedVariables false
set_option linter.unusedSimpArgs false

set_option maxHeartbeats 4000000 in
theorem fnExactPlanCode_walk (N S L : Int) (u : Option Addr) (n c p po : Nat) (J : List Jb) (v : Option Addr) (k d r0 ro : Nat) (P : List Slt) (w : World) (hn : n ≤ 9223372036854775807) (hl : J.length = n) (hu : Jbs w u p po J) (hk : k ≤ 9223372036854775807) (hpl : P.length = k) (hv : SlG slc 6 w v r0 ro P) :
    Calls Try.prog 4 #[.agg #[.int .i64 N, .int .i64 S, .int .i64 L], .slice u n c, .slice v k d] w fun e w' => e = .returned (.bool true) ∧ Below w.heap.size w w' := by
  have HB0 := hide (ba (Below.refl w.heap.size w) (.cells #[.int .i64 N, .int .i64 S, .int .i64 L] 23))
  have HV := hide (vb_new w 23 [.int .i64 N, .int .i64 S, .int .i64 L] w.heap.size rfl)
  have HZ := hide (fun X (hX : Below w.heap.size w X) => jb_sz u p po n c J 1048576 X hl hn (by omega) (by omega) (hu.bel hX))
  have HT := hide (fun (h1 : n ≤ 1048576) (h2 : ∀ j ∈ J, j.sn ≤ 1048576) X (hX : Below w.heap.size w X) => jb_to u p po n c J X hl h1 h2 (hu.bel hX))
  have HTS := hide (fun (h1 : k ≤ 1048576) X (hX : Below w.heap.size w X) => sl_to v r0 ro k d P X hpl h1 (hv.bel hX))
  have HM : Hid (∀ g c J' h d X, Jbs X (some ⟨g, 0, none⟩) g 0 J' → Alike J J' → vb X h 71 (flatG slc P) → Calls Try.prog 14 #[.agg #[.int .i64 N, .int .i64 S, .int .i64 L], .slice (some ⟨g, 0, none⟩) n c, .slice (some ⟨h, 0, none⟩) k d] X fun e w' => e = .returned (.tuple #[.int .i64 (pcC N S L J P), .int .i64 (pcN N S L J P)]) ∧ Below X.heap.size X w') := hide (fun g c J' h d X hX ha hv => by
    have := pcM_any N S L (some ⟨g, 0, none⟩) g 0 n c J' (some ⟨h, 0, none⟩) h 0 k d P X (by rw [ha.len, hl]) hn hX hpl hk (hv.slG slc_len')
    rw [ha.pcC, ha.pcN] at this
    exact this)
  have HP : Hid (∀ g c J' h d X, Jbs X (some ⟨g, 0, none⟩) g 0 J' → Alike J J' → vb X h 71 (flatG slc P) → Calls Try.prog 16 #[.agg #[.int .i64 N, .int .i64 S, .int .i64 L], .slice (some ⟨g, 0, none⟩) n c, .slice (some ⟨h, 0, none⟩) k d] X fun e w' => e = .returned (.tuple #[.int .i64 (pcC N S L J P), .int .i64 (pcN N S L J P)]) ∧ Below X.heap.size X w') := hide (fun g c J' h d X hX ha hv => by
    have := pcP_any N S L (some ⟨g, 0, none⟩) g 0 n c J' (some ⟨h, 0, none⟩) h 0 k d P X (by rw [ha.len, hl]) hn hX hpl hk (hv.slG slc_len')
    rw [ha.pcC, ha.pcN] at this
    exact this)
  have HE := hide (fun (h1 : n ≤ 1048576) g g' J1 J2 X (ha : Alike J J1) (ha2 : Alike J J2) (hs : ∀ j ∈ J1, j.sn ≤ 1048576) (hX : Jbs X (some ⟨g, 0, none⟩) g 0 J1) (hY : Jbs X (some ⟨g', 0, none⟩) g' 0 J2) => jb_same (some ⟨g, 0, none⟩) (some ⟨g', 0, none⟩) g 0 g' 0 n n n J1 J2 X (by rw [ha.len, hl]) h1 hs (Alike.trans ha.symm ha2) hX hY)
  have HES := hide (fun (h1 : k ≤ 1048576) g g' X (hX : vb X g 71 (flatG slc P)) (hY : vb X g' 71 (flatG slc P)) => sl_same (some ⟨g, 0, none⟩) (some ⟨g', 0, none⟩) g 0 g' 0 k k k P X hpl h1 (hX.slG slc_len') (hY.slG slc_len'))
  generalize pcC N S L J P = bv at *
  generalize pcN N S L J P = bq at *
  have bn : (bv != bv) = false := by simp
  have bn2 : (bq != bq) = false := by simp
  have k0' : (0 : Int) ≤ (k : Int) := Int.natCast_nonneg _
  clear hu hl hv hpl
  go_enter Try.func4, Try.ntmps4
  go_wp2_with fail
  refine (unhide HZ _ (unhide HB0)).mono ?_
  rintro e W0 ⟨⟨r, rfl, hr⟩, hb0⟩
  have v0 := (unhide HV).bel hb0
  have k0 := v0.cell (m := 0) rfl
  have k1 := v0.cell (m := 1) rfl
  have k2 := v0.cell (m := 2) rfl
  have HV0 := hide v0
  have HB1 := hide (bc (unhide HB0) hb0)
  clear hb0 v0
  rcases hr with rfl | ⟨r0', r1, r2, r3⟩
  · go_wp2_with fail
    go_ret
    exact ⟨rfl, unhide HB1⟩
  have rz : decide (r < 0) = false := decide_eq_false (by omega)
  have HT := hide (unhide HT (by omega) r3)
  have HE := hide (unhide HE (by omega))
  clear r3
  by_cases hkr : (k : Int) ≤ r
  rotate_left
  · have HZ2 := hide (fun X => sl_sz_out v k d r X (by omega) (by omega) (by omega) hk)
    go_wp2_with fail
    refine (unhide HZ2 _).mono ?_
    rintro e X1 ⟨rfl, rfl⟩
    go_wp2_with fail
    go_ret
    exact ⟨rfl, unhide HB1⟩
  have HZ2 := hide (fun X => sl_sz_in v k d r X (by omega) hkr)
  have rz2 : decide (r - (k : Int) < 0) = false := decide_eq_false (by omega)
  have HTS := hide (unhide HTS (by omega))
  have HES := hide (unhide HES (by omega))
  go_wp2_with fail
  refine (unhide HZ2 _).mono ?_
  rintro e X1 ⟨rfl, rfl⟩
  go_wp2_with fail
  refine (shop_conv N S L _).mono ?_
  rintro e W1 ⟨rfl, hb1⟩
  have HV1 := hide ((unhide HV0).bel hb1)
  have HB2 := hide (bc (unhide HB1) hb1)
  clear hb1 k0 k1 k2
  go_wp2_with fail
  refine (unhide HT _ (unhide HB2)).mono ?_
  rintro e W2 ⟨⟨g2, J2, rfl, ha2, hk2⟩, hb2⟩
  have HK2 := hide hk2.jbs
  have HV2 := hide ((unhide HV1).bel hb2)
  have HB3 := hide (bc (unhide HB2) hb2)
  have HA2 := hide ha2
  clear hb2 hk2 ha2
  go_wp2_with fail
  refine (unhide HTS _ (unhide HB3)).mono ?_
  rintro e W3 ⟨⟨g3, rfl, hg3, hs3⟩, hb3⟩
  have HS3 := hide hs3
  have HK3 := hide ((unhide HK2).bel hb3)
  have HV3 := hide ((unhide HV2).bel hb3)
  have HB4 := hide (bc (unhide HB3) hb3)
  clear hb3 hg3 hs3
  go_wp2_with fail
  refine (unhide HM _ _ _ _ _ _ (unhide HK3) (unhide HA2) (unhide HS3)).mono ?_
  rintro e W4 ⟨rfl, hb4⟩
  have HV4 := hide ((unhide HV3).bel hb4)
  have HB5 := hide (bc (unhide HB4) hb4)
  clear hb4
  go_wp2_with fail
  refine (unhide HT _ (unhide HB5)).mono ?_
  rintro e W5 ⟨⟨g5, J5, rfl, ha5, hk5⟩, hb5⟩
  have HSN5 := hide (fun j hj => (hk5.each j hj).1.most)
  have HK5 := hide hk5.jbs
  have HA5 := hide ha5
  have HV5 := hide ((unhide HV4).bel hb5)
  have HB6 := hide (bc (unhide HB5) hb5)
  clear hb5 hk5 ha5
  go_wp2_with fail
  refine (unhide HTS _ (unhide HB6)).mono ?_
  rintro e W6 ⟨⟨g6, rfl, hg6, hs6⟩, hb6⟩
  have HS6 := hide hs6
  have HK6 := hide ((unhide HK5).bel hb6)
  have v6 := (unhide HV5).bel hb6
  have k0 := v6.cell (m := 0) rfl
  have k1 := v6.cell (m := 1) rfl
  have k2 := v6.cell (m := 2) rfl
  have HB7 := hide (bc (unhide HB6) hb6)
  clear hb6 hg6 hs6 v6
  go_wp2_with fail
  refine (shop_conv N S L _).mono ?_
  rintro e W7 ⟨rfl, hb7⟩
  have HK7 := hide ((unhide HK6).bel hb7)
  have HS7 := hide ((unhide HS6).bel hb7)
  have HB8 := hide (bc (unhide HB7) hb7)
  clear hb7 k0 k1 k2
  go_wp2_with fail
  refine (unhide HP _ _ _ _ _ _ (unhide HK7) (unhide HA5) (unhide HS7)).mono ?_
  rintro e W8 ⟨rfl, hb8⟩
  have HK8 := hide ((unhide HK7).bel hb8)
  have HS8 := hide ((unhide HS7).bel hb8)
  have HB9 := hide (bc (unhide HB8) hb8)
  clear hb8
  go_wp2_with fail
  refine (unhide HT _ (unhide HB9)).mono ?_
  rintro e W9 ⟨⟨g9, J9, rfl, ha9, hk9⟩, hb9⟩
  have HK9 := hide hk9.jbs
  have HKA := hide ((unhide HK8).bel hb9)
  have HS9 := hide ((unhide HS8).bel hb9)
  have HA9 := hide ha9
  have HBA := hide (bc (unhide HB9) hb9)
  clear hb9 hk9 ha9
  go_wp2_with fail
  refine (unhide HE _ _ _ _ _ (unhide HA5) (unhide HA9) (unhide HSN5) (unhide HKA) (unhide HK9)).mono ?_
  rintro e WB ⟨rfl, hbB⟩
  have HSB := hide ((unhide HS9).bel hbB)
  have HBB := hide (bc (unhide HBA) hbB)
  clear hbB
  go_wp2_with fail
  refine (unhide HTS _ (unhide HBB)).mono ?_
  rintro e WC ⟨⟨gC, rfl, hgC, hsC⟩, hbC⟩
  have HSC := hide hsC
  have HSD := hide ((unhide HSB).bel hbC)
  have HBC := hide (bc (unhide HBB) hbC)
  clear hbC hgC hsC
  go_wp2_with fail
  refine (unhide HES _ _ _ (unhide HSD) (unhide HSC)).mono ?_
  rintro e WD ⟨rfl, hbD⟩
  have HBD := hide (bc (unhide HBC) hbD)
  clear hbD
  go_wp2_with fail
  go_ret
  exact ⟨rfl, unhide HBD⟩
theorem fnExactPlanCode_own : ownKnob Try.prog.godebug = none := by kernel_rfl
theorem fnExactPlanCode_laidOut : laidOutB Try.prog = true := by kernel_rfl
theorem cells23 : Try.prog.cellsOf 23 = 3 := by kernel_rfl

set_option maxRecDepth 100000 in
theorem fnExactPlanCode_lifted (os : Os) (started : os.Started) (H : Type) (enc : TypeId × Value → H) :
    ReturnsInHanded {} Try.checked os 4 .any (Rows.fnExactPlanCodeSpec.pre6 enc Try.prog Try.f4 Rows.fnExactPlanCodeRow.domain false) (Rows.fnExactPlanCodeSpec.post enc Try.prog Try.f4 false true false false) := by
  refine returnsInHanded_of_change (C := Try.checked) fnExactPlanCode_own started (by kernel_rfl) Try.func4
    (ChangeSpec.witness6 (enc := enc) (C := Try.checked) false ⟨#[], #[.agg #[.int .i64 0, .int .i64 0, .int .i64 0], .slice none 0 0, .slice none 0 0], []⟩ 8 (by kernel_rfl) (by kernel_rfl) (by kernel_rfl) (by kernel_rfl)) ?_
  intro W base args ds gs before hval0 hW hcnd _
  have hval : ∀ (j : Nat) t v, Try.f4.params[j]? = some t → args[j]? = some v → Value.okWide Try.prog W .any base t v := hval0
  have hW' := hW
  obtain ⟨p, q, hA0, hV, rfl, hfz, hnd⟩ := hW
  have hA : DataW.TrodAll enc Try.prog W 0 (fun _ => true) true Try.f4.params.toList args.toList ds p := hA0
  rw [Try.params4] at hA hval
  obtain ⟨v0, vs0, d0, ds0, p0, q0, hargs, rfl, rfl, h0, r0⟩ := trodAll_cons hA
  obtain ⟨v1, vs1, d1, ds1, p1, q1, rfl, rfl, rfl, h1, r1⟩ := trodAll_cons r0
  obtain ⟨v2, vs2, d2, ds2, p2, q2, rfl, rfl, rfl, h2, r2⟩ := trodAll_cons r1
  obtain ⟨rfl, rfl, rfl⟩ := trodAll_nil r2
  obtain rfl : args = #[v0, v1, v2] := by cases args; simp_all
  obtain ⟨rfl, rfl⟩ := trodVars_none hV
  have k0 := h0
  have lt0 : ∀ x ∈ p0, x.block < W.heap.size := by obtain ⟨m, hm⟩ := k0; exact DataW.trod_lt m _ _ _ hm
  obtain ⟨c0, e0, s0, y0, x0, z0, m0, rfl, rfl, rfl, hy0, hx0, hz0⟩ := open_agg3 Try.underlying23 (by kernel_rfl) cells23 (hval 0 23 v0 rfl rfl) h0
  obtain ⟨n0, en0, _, wn0⟩ := DataW.trod_int Try.underlying3 hy0
  obtain ⟨o0, eo0, _, wo0⟩ := DataW.trod_int Try.underlying3 hx0
  obtain ⟨r0a, er0, _, wr0⟩ := DataW.trod_int Try.underlying3 hz0
  simp at en0 eo0 er0
  subst en0 eo0 er0
  obtain ⟨a1, len1, cap1, rfl⟩ := okWide_slice Try.underlying24 (hval 1 24 v1 rfl rfl)
  have k1 := h1
  have lt1 : ∀ x ∈ p1, x.block < W.heap.size := by obtain ⟨m, hm⟩ := k1; exact DataW.trod_lt m _ _ _ hm
  obtain ⟨pp1, po1, ms1, b1, l1, w1⟩ : ∃ (pp po : Nat) (J : List Jb), len1 ≤ 9223372036854775807 ∧ J.length = len1 ∧ Jbs W a1 pp po J := by
    obtain ⟨fuel, hf⟩ := h1
    obtain ⟨u, n, cap, pp, po, ms, hcs, hn, hl, hx⟩ := open_jobs hf
    simp [Value.cells] at hcs
    obtain ⟨rfl, rfl, rfl⟩ := hcs
    exact ⟨pp, po, ms, hn, hl, hx⟩
  obtain ⟨a2, len2, cap2, rfl⟩ := okWide_slice Try.underlying33 (hval 2 33 v2 rfl rfl)
  have k2 := h2
  have lt2 : ∀ x ∈ p2, x.block < W.heap.size := by obtain ⟨m, hm⟩ := k2; exact DataW.trod_lt m _ _ _ hm
  obtain ⟨pp2, po2, ms2, b2, l2, w2⟩ : ∃ (pp po : Nat) (J : List Slt), len2 ≤ 9223372036854775807 ∧ J.length = len2 ∧ SlG slc 6 W a2 pp po J := by
    obtain ⟨fuel, hf⟩ := h2
    obtain ⟨u, n, cap, pp, po, ms, hcs, hn, hl, hx⟩ := open_slots hf
    simp [Value.cells] at hcs
    obtain ⟨rfl, rfl, rfl⟩ := hcs
    exact ⟨pp, po, ms, hn, hl, hx⟩
  clear hA0 hval0
  refine (fnExactPlanCode_walk n0 o0 r0a a1 len1 cap1 pp1 po1 ms1 a2 len2 cap2 pp2 po2 ms2 W b1 l1 w1 b2 l2 w2).mono fun e W' ⟨he, bel⟩ => ?_
  subst he
  exact ⟨_, rfl, _, _, _, [], _, [], hW', trodAll_mk1 (shut_bool Try.underlying4 _), (trodAll_cons_mk (Below.trod fnExactPlanCode_laidOut (by kernel_rfl) (of_decide_eq_true (by kernel_rfl)) k0 bel lt0) (trodAll_cons_mk (Below.trod fnExactPlanCode_laidOut (by kernel_rfl) (of_decide_eq_true (by kernel_rfl)) k1 bel lt1) (trodAll_cons_mk (Below.trod fnExactPlanCode_laidOut (by kernel_rfl) (of_decide_eq_true (by kernel_rfl)) k2 bel lt2) trodAll_mk0))), rfl, bel.frame _, fun h => by cases h⟩

theorem fnExactPlanCode_over : Rows.fnExactPlanCodeRow.holds Try.pinned (OpenSpec.ofChange Rows.fnExactPlanCodeSpec) :=
  OpenClaim.holds_of_wide 4 Try.f4 rfl rfl rfl rfl rfl rfl rfl ⟨rfl, rfl, rfl, rfl, rfl⟩ rfl rfl rfl rfl rfl (by kernel_rfl) Try.func4 (by kernel_rfl)
    (of_decide_eq_true (by kernel_rfl)) (by unfold Func.isWrapper; first | (rw [if_pos (by decide +kernel)]; kernel_rfl) | (rw [if_neg (by decide +kernel)]; exact ⟨rfl, rfl⟩))
    (fun os started H enc _ => fnExactPlanCode_lifted os started H enc)

/-- The statement, as it was given. -/
theorem fnExactPlanCode_holds : Rows.FnExactPlanCodeSaid := fnExactPlanCode_over
#print axioms fnExactPlanCode_holds
end Go.Proofs.Ytbgekppggakdoaa
