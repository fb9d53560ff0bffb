/-
  The program's FileBytes answers as the model at every list of features; it changes none of them, and its answer owns its memory.
-/
import Derived.Test.YtibcgimggcdllaaFiM
import Derived.Test.YtibcgimggcdllaaByMk
import Derived.Test.YtibcgimggcdllaaFtRows
import Derived.Test.YtibcgimggcdllaaFtTo
import Derived.Test.YtibcgimggcdllaaFtSz
import Derived.Test.YtibcgimggcdllaaFtMark
import Derived.Test.YtibcgimggcdllaaFtOpen
import Derived.Test.YtibcgimggcdllaaChecked
import Derived.Test.YtibcgimggcdllaaRows
import Derived.ChangeOld
import Derived.Lib.SmallJoins
namespace Go.Proofs.Ytibcgimggcdllaa
open Go.ChangeShapes Go.WideShapes Go.ChangeAt Go.RowKit Go.Joins
set_option linter.unusedVariables false
set_option linter.unusedSimpArgs false

theorem fbL_len {fs : List Ft} {c : Int} {ab : List ByteArray} (h : Chk fs c ab) : (fbL fs c).length ≤ 10000 := by
  unfold fbL
  split
  · rename_i e
    subst e
    have hf := h.zero.1
    have h1 := recs_len (fs := fs) (fun f hf' => frs_of (hf.right f hf'))
    have h2 := hf.len
    simp only [fileL, List.length_append, headL, two, List.length_cons, List.length_nil]
    omega
  · simp
theorem Rb.mw {w w' : World} {B g n : Nat} {v : Value} {L : List Int} (h : Rb w B v n L) (hm : Mw g w w') (hg : g < B) : Rb w' B v n L :=
  own_kept h (fun k hk => by have := own_ge h k hk; exact hm.block k this.2 (by omega))
set_option maxRecDepth 100000 in
set_option maxHeartbeats 4000000 in
theorem fnExactFileBytes_walk (u : Option Addr) (n cap p po : Nat) (fs : List Ft) (w : World) (hn : n ≤ 9223372036854775807) (hl : fs.length = n) (hr : (∀ f ∈ fs, f.nm.size ≤ maxLen ∧ f.on.size ≤ maxLen ∧ f.ov.size ≤ maxLen) ∧ SlG ftc 15 w u p po fs) :
    Calls Try.prog 4 #[.slice u n cap] w fun e w' => e = .returned (.bool true) ∧ Below w.heap.size w w' := by
  obtain ⟨hs, hu⟩ := hr
  have HSZ := hide (ft_sz u p po n cap fs w hl hn hs hu)
  have HT := hide (fun (hb : n ≤ 1048576) X (hX : Below w.heap.size w X) => ft_to u p po n cap fs X hl hb (hu.bel hX))
  have HM := hide (fun (hb : n ≤ 1048576) g X (hX : vb X g 53 (flatG ftc fs)) => fbM_any (some ⟨g, 0, none⟩) g 0 n n fs X hl hb (Nat.le_refl _) hs (hX.slG ftc_len))
  have HP := hide (fun (hb : n ≤ 1048576) g X (hX : vb X g 53 (flatG ftc fs)) => fbP_any (some ⟨g, 0, none⟩) g 0 n n fs X hl hb hs (hX.slG ftc_len))
  have HE := hide (fun (hb : n ≤ 1048576) g g' X (hX : vb X g 53 (flatG ftc fs)) (hY : vb X g' 53 (flatG ftc fs)) => ft_same (some ⟨g, 0, none⟩) (some ⟨g', 0, none⟩) g 0 g' 0 n n n fs X hl hb (hX.slG ftc_len) (hY.slG ftc_len))
  have HFL : Hid ((flatG ftc fs).length = n * 15) := hide (by rw [flatG_len ftc_len, hl])
  clear hu hs hl
  go_enter Try.func4, Try.ntmps4
  go_wp2_with fail
  refine (unhide HSZ).mono ?_
  rintro e W0 ⟨⟨r, rfl, hr⟩, hb0⟩
  have HB0 := hide hb0
  clear hb0 HSZ
  by_cases hz : r < 0
  · have t : decide (r < 0) = true := decide_eq_true hz
    clear hr
    go_wp2_with fail
    go_ret
    exact ⟨rfl, unhide HB0⟩
  have t : decide (r < 0) = false := decide_eq_false hz
  have hb : n ≤ 1048576 := (hr (by omega)).1
  have HT := hide (unhide HT hb)
  have HM := hide (unhide HM hb)
  have HP := hide (unhide HP hb)
  have HE := hide (unhide HE hb)
  clear hr
  go_wp2_with fail
  refine (unhide HT _ (unhide HB0)).mono ?_
  rintro e W1 ⟨⟨g1, rfl, hg1, hk1⟩, hb1⟩
  have K1 := hide (bc (unhide HB0) hb1)
  have K2 := hide (hk1)
  clear hb1 hk1 hg1
  go_wp2_with fail
  refine (unhide HM _ _ (unhide K2)).mono ?_
  rintro e W2 ⟨⟨v1, c, ab, N1, rfl, hck, hr2⟩, hb2⟩
  have K3 := hide (bc (unhide K1) hb2)
  have hlen := fbL_len hck
  have HPX : Hid (∀ g X, vb X g 53 (flatG ftc fs) → Calls Try.prog 12 #[.slice (some ⟨g, 0, none⟩) n n] X fun e w' => (∃ a k, e = .returned (.tuple #[.slice a (fbL fs c).length k, .int .i64 c]) ∧ Rb w' X.heap.size (.slice a (fbL fs c).length k) (fbL fs c).length (fbL fs c)) ∧ Below X.heap.size X w') := hide (fun g X hX => (unhide HP g X hX).mono (by
    rintro e w' ⟨⟨v, c', ab', N, rfl, hck', hr'⟩, hb'⟩
    obtain ⟨rfl, _⟩ := hck'.uniq hck
    have eN := hr'.len
    obtain ⟨a, k, rfl, _⟩ := own_form hr'
    rw [← eN] at hr' ⊢
    exact ⟨⟨a, k, rfl, hr'⟩, hb'⟩))
  have eN1 := hr2.len
  obtain ⟨a1, k1, rfl, _⟩ := own_form hr2
  obtain ⟨p1, hsl1, hp1⟩ := hr2.slG
  have HMB : Hid (∀ W, Below W2.heap.size W2 W → SlG byc 1 W a1 p1 0 (fbL fs c)) := hide (fun W hW => hsl1.bel hW)
  generalize fbL fs c = L at *
  have HPX2 := HPX
  obtain ⟨N, hN⟩ : ∃ N, L.length = N := ⟨_, rfl⟩
  rw [hN] at HPX2 hlen eN1
  subst eN1
  have HLN := hide hN
  have HSB := hide (fun (a b : Option Addr) (q1 q2 j1 j2 : Nat) (W : World) (ha : SlG byc 1 W a q1 0 L) (hb' : SlG byc 1 W b q2 0 L) => by_same a b q1 0 q2 0 N j1 j2 L W hN (by omega) ha hb')
  have cc : (c != c) = false := by simp
  have n0 : (0 : Int) ≤ (N : Int) := Int.natCast_nonneg _
  clear hck hr2 hsl1 hp1 hN HPX HP HM hb2
  have HBW2 := K3
  have KD : Hid (Below W2.heap.size W2 W2) := hide (Below.refl _ _)
  go_wp2_with fail
  refine (unhide HT _ (unhide K3)).mono ?_
  rintro e W3 ⟨⟨g2, rfl, hg2, hk2⟩, hb3⟩
  have K4 := hide (bc (unhide K3) hb3)
  have K5 := hide ((unhide KD).trans (hb3.mono (unhide KD).size))
  have K6 := hide (hk2)
  have HG2 : Hid (W2.heap.size ≤ g2 ∧ g2 < W3.heap.size) := hide ⟨hg2, hk2.lt⟩
  have HG0 : Hid (w.heap.size ≤ W2.heap.size) := hide (by have h1 := (unhide K4).size; have h2 := hb3.size; have h3 := (unhide HBW2).size; omega)
  clear hb3 hk2 hg2
  go_wp2_with fail
  refine (unhide HPX2 _ _ (unhide K6)).mono ?_
  rintro e W4 ⟨⟨a2, k2, rfl, hr4⟩, hb4⟩
  have HZ4 := hide hb4.size
  have K7 := hide (bc (unhide K4) hb4)
  have K8 := hide ((unhide K5).trans (hb4.mono (unhide K5).size))
  have K9 := hide ((unhide K6).bel hb4)
  have K10 := hide (hr4)
  clear hb4 hr4
  obtain ⟨q2, hq2, _⟩ := (unhide K10).slG
  have HQ2 := hide hq2
  clear hq2
  go_wp2_with fail
  refine (unhide HSB a2 a1 _ _ k2 k1 _ (unhide HQ2) (unhide HMB _ (unhide K8))).mono ?_
  rintro e W5 ⟨rfl, hb⟩
  have HZ5 := hide (Nat.le_trans (unhide HZ4) hb.size)
  have K11 := hide (bc (unhide K7) hb)
  have K12 := hide ((unhide K8).trans (hb.mono (unhide K8).size))
  have K13 := hide ((unhide K9).bel hb)
  have K14 := hide ((unhide K10).bel hb)
  clear hb HQ2
  go_wp2_with fail
  refine (unhide HT _ (unhide K11)).mono ?_
  rintro e W6 ⟨⟨g3, rfl, hg3, hk3⟩, hb⟩
  have HZ6 := hide (Nat.le_trans (unhide HZ5) hb.size)
  have K15 := hide (bc (unhide K11) hb)
  have K16 := hide ((unhide K12).trans (hb.mono (unhide K12).size))
  have K17 := hide ((unhide K13).bel hb)
  have K18 := hide ((unhide K14).bel hb)
  have K19 := hide (hk3)
  clear hb hk3 hg3
  go_wp2_with fail
  refine (unhide HE _ _ _ (unhide K17) (unhide K19)).mono ?_
  rintro e W7 ⟨rfl, hb⟩
  have HZ7 := hide (Nat.le_trans (unhide HZ6) hb.size)
  have K20 := hide (bc (unhide K15) hb)
  have K21 := hide ((unhide K16).trans (hb.mono (unhide K16).size))
  have K22 := hide ((unhide K17).bel hb)
  have K23 := hide ((unhide K18).bel hb)
  clear hb
  go_wp2_with fail
  refine (ft_mark (some ⟨g2, 0, none⟩) g2 n n 1 (flatG ftc fs) _ (unhide HFL) hb (by omega) (by omega) rfl (unhide K22)).mono ?_
  rintro e W8 ⟨rfl, hmw⟩
  have HZ8 := hide (Nat.le_trans (unhide HZ7) hmw.size)
  have t2 : decide (((1 : Nat) : Int) + 15 * (n : Int) < 0) = false := decide_eq_false (by omega)
  have t2b : decide ((1 : Int) + 15 * (n : Int) < 0) = false := decide_eq_false (by omega)
  have zg := unhide HG2
  have z0 := unhide HG0
  have K24 := hide ((unhide K20).trans (hmw.below (Nat.le_trans z0 zg.1) (unhide K20).size))
  have K25 := hide ((unhide K21).trans (hmw.below zg.1 (unhide K21).size))
  have K26 := hide ((unhide K23).mw hmw zg.2)
  clear hmw zg z0
  obtain ⟨q2, hq2, _⟩ := (unhide K26).slG
  have HQ2 := hide hq2
  clear hq2
  go_wp2_with fail
  refine (unhide HSB a2 a1 _ _ k2 k1 _ (unhide HQ2) (unhide HMB _ (unhide K25))).mono ?_
  rintro e W9 ⟨rfl, hb⟩
  have HZ9 := hide (Nat.le_trans (unhide HZ8) hb.size)
  have K27 := hide (bc (unhide K24) hb)
  have K28 := hide ((unhide K25).trans (hb.mono (unhide K25).size))
  have K29 := hide ((unhide K26).bel hb)
  clear hb HQ2
  go_wp2_with fail
  refine (by_mark a2 N k2 W3.heap.size L 1 _ (unhide K29) (unhide HZ9) (by omega) (by omega) (by omega)).mono ?_
  rintro e WA ⟨rfl, hrA, hbA⟩
  have z32 := Nat.le_trans (unhide HG2).1 (Nat.le_of_lt (unhide HG2).2)
  have z30 := Nat.le_trans (unhide HG0) z32
  have K30 := hide ((unhide K27).trans (hbA.mono z30))
  have K31 := hide ((unhide K28).trans (hbA.mono z32))
  have K32 := hide (hrA)
  clear hbA hrA z32 z30
  have mk1 : decide ((1 : Int) + (N : Int) < 0) = false := decide_eq_false (by omega)
  have mk2 : ¬ ((1 : Int) + (N : Int) < 0) := by omega
  have mk3 : ((1 : Int) + (N : Int) != 1 + (N : Int)) = false := by simp
  go_wp2_with fail
  refine (by_held a2 N k2 W3.heap.size 1 _ (unhide K32) (by omega) (by omega) (by omega)).mono ?_
  rintro e WB ⟨rfl, hb⟩
  have K33 := hide (bc (unhide K30) hb)
  have K34 := hide ((unhide K31).trans (hb.mono (unhide K31).size))
  have K35 := hide ((unhide K32).bel hb)
  clear hb
  go_wp2_with fail
  refine (unhide HT _ (unhide K33)).mono ?_
  rintro e WC ⟨⟨g5, rfl, hg5, hk5⟩, hb⟩
  have K36 := hide (bc (unhide K33) hb)
  have K37 := hide ((unhide K34).trans (hb.mono (unhide K34).size))
  have K38 := hide ((unhide K35).bel hb)
  have K39 := hide (hk5)
  clear hb hk5 hg5
  go_wp2_with fail
  refine (unhide HPX2 _ _ (unhide K39)).mono ?_
  rintro e WD ⟨⟨a5, k5, rfl, hr5⟩, hb⟩
  have K40 := hide (bc (unhide K36) hb)
  have K41 := hide ((unhide K37).trans (hb.mono (unhide K37).size))
  have K42 := hide ((unhide K38).bel hb)
  obtain ⟨q5, hq5, _⟩ := hr5.slG
  have HQ5 := hide hq5
  clear hb hr5 hq5
  go_wp2_with fail
  refine (unhide HSB a5 a1 _ _ k5 k1 _ (unhide HQ5) (unhide HMB _ (unhide K41))).mono ?_
  rintro e WE ⟨rfl, hb⟩
  have K43 := hide (bc (unhide K40) hb)
  have K44 := hide ((unhide K41).trans (hb.mono (unhide K41).size))
  have K45 := hide ((unhide K42).bel hb)
  clear hb HQ5
  go_wp2_with fail
  refine (by_held a2 N k2 W3.heap.size 1 _ (unhide K45) (by omega) (by omega) (by omega)).mono ?_
  rintro e WF ⟨rfl, hb⟩
  have K46 := hide (bc (unhide K43) hb)
  have K47 := hide ((unhide K44).trans (hb.mono (unhide K44).size))
  have K48 := hide ((unhide K45).bel hb)
  clear hb
  go_wp2_with fail
  go_ret
  exact ⟨rfl, (unhide K46)⟩
theorem fnExactFileBytes_own : ownKnob Try.prog.godebug = none := by kernel_rfl
theorem fnExactFileBytes_laidOut : laidOutB Try.prog = true := by kernel_rfl

set_option maxRecDepth 100000 in
theorem fnExactFileBytes_lifted (os : Os) (started : os.Started) (H : Type) (enc : TypeId × Value → H) :
    ReturnsInHanded {} Try.checked os 4 .any (Rows.fnExactFileBytesSpec.pre6 enc Try.prog Try.f4 Rows.fnExactFileBytesRow.domain false) (Rows.fnExactFileBytesSpec.post enc Try.prog Try.f4 false true false false) := by
  refine returnsInHanded_of_change (C := Try.checked) fnExactFileBytes_own started (by kernel_rfl) Try.func4
    (ChangeSpec.witness6 (enc := enc) (C := Try.checked) false ⟨#[], #[.slice none 0 0], []⟩ 8 (by kernel_rfl) (by kernel_rfl) (by kernel_rfl) (by kernel_rfl)) ?_
  intro W base args ds gs before hval0 hW hcnd _
  have hval : ∀ (j : Nat) t v, Try.f4.params[j]? = some t → args[j]? = some v → Value.okWide Try.prog W .any base t v := hval0
  have hW' := hW
  obtain ⟨p, q, hA0, hV, rfl, hfz, hnd⟩ := hW
  have hA : DataW.TrodAll enc Try.prog W 0 (fun _ => true) true Try.f4.params.toList args.toList ds p := hA0
  rw [Try.params4] at hA hval
  obtain ⟨v0, vs0, d0, ds0, p0, q0, hargs, rfl, rfl, h0, r0⟩ := trodAll_cons hA
  obtain ⟨rfl, rfl, rfl⟩ := trodAll_nil r0
  obtain rfl : args = #[v0] := by cases args; simp_all
  obtain ⟨rfl, rfl⟩ := trodVars_none hV
  obtain ⟨a0, len0, cap0, rfl⟩ := okWide_slice Try.underlying27 (hval 0 27 v0 rfl rfl)
  have k0 := h0
  have lt0 : ∀ x ∈ p0, x.block < W.heap.size := by obtain ⟨m, hm⟩ := k0; exact DataW.trod_lt m _ _ _ hm
  obtain ⟨pp0, po0, ms0, b0, l0, w0⟩ : ∃ (pp po : Nat) (J : List Ft), len0 ≤ 9223372036854775807 ∧ J.length = len0 ∧ (∀ f ∈ J, f.nm.size ≤ maxLen ∧ f.on.size ≤ maxLen ∧ f.ov.size ≤ maxLen) ∧ SlG ftc 15 W a0 pp po J := by
    obtain ⟨fuel, hf⟩ := h0
    obtain ⟨u, n, cap, pp, po, ms, hcs, hn, hl, hx⟩ := open_fts hf
    simp [Value.cells] at hcs
    obtain ⟨rfl, rfl, rfl⟩ := hcs
    exact ⟨pp, po, ms, hn, hl, hx⟩
  clear hA0 hval0
  refine (fnExactFileBytes_walk a0 len0 cap0 pp0 po0 ms0 W b0 l0 w0).mono fun e W' ⟨he, bel⟩ => ?_
  subst he
  exact ⟨_, rfl, _, _, _, [], _, [], hW', trodAll_mk1 (shut_bool Try.underlying4 _), (trodAll_cons_mk (Below.trod fnExactFileBytes_laidOut (by kernel_rfl) (of_decide_eq_true (by kernel_rfl)) k0 bel lt0) trodAll_mk0), rfl, bel.frame _, fun h => by cases h⟩

theorem fnExactFileBytes_over : Rows.fnExactFileBytesRow.holds Try.pinned (OpenSpec.ofChange Rows.fnExactFileBytesSpec) :=
  OpenClaim.holds_of_wide 4 Try.f4 rfl rfl rfl rfl rfl rfl rfl ⟨rfl, rfl, rfl, rfl, rfl⟩ rfl rfl rfl rfl rfl (by kernel_rfl) Try.func4 (by kernel_rfl)
    (of_decide_eq_true (by kernel_rfl)) (by unfold Func.isWrapper; first | (rw [if_pos (by decide +kernel)]; kernel_rfl) | (rw [if_neg (by decide +kernel)]; exact ⟨rfl, rfl⟩))
    (fun os started H enc _ => fnExactFileBytes_lifted os started H enc)

/-- The statement, as it was given. -/
theorem fnExactFileBytes_holds : Rows.FnExactFileBytesSaid := fnExactFileBytes_over
#print axioms fnExactFileBytes_holds
end Go.Proofs.Ytibcgimggcdllaa
