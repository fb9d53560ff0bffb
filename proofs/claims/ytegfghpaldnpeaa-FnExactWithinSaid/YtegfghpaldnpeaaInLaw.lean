/-
  The program's Within answers as the model at every list of points and every point, right or not, and changes none.
-/
import Derived.Test.YtegfghpaldnpeaaIn2
import Derived.Test.YtegfghpaldnpeaaOpenRows
import Derived.Test.YtegfghpaldnpeaaRows
import Derived.ChangeOld
import Derived.Lib.SmallJoins
namespace Go.Proofs.Ytegfghpaldnpeaa
open Go.ChangeShapes Go.WideShapes Go.ChangeAt Go.RowKit Go.Joins
set_option linter.unusedVariables false
set_option linter.unusedSimpArgs false

/-- the numbers in pairs -/
def toPts (L : List Int) (n : Nat) : List Pt := (List.range n).map fun i => (L.getD (i * 2) 0, L.getD (i * 2 + 1) 0)
theorem toPts_len (L : List Int) (n : Nat) : (toPts L n).length = n := by simp [toPts]
theorem ptsAt_of {w : World} {g : Nat} {L : List Int} {n : Nat} (h : iblk w g 26 L) (hl : L.length = n * 2) : PtsAt w g 0 (toPts L n) := by
  intro j p hj
  have hjn : j < n := by
    have := (List.getElem?_eq_some_iff.1 hj).1
    simpa [toPts] using this
  unfold toPts at hj
  rw [List.getElem?_map, List.getElem?_range hjn] at hj
  simp only [Option.map_some, Option.some.injEq] at hj
  rw [← hj, Nat.zero_add]
  have h0 : L[j * 2]? = some (L.getD (j * 2) 0) := by rw [List.getD_eq_getElem?_getD, List.getElem?_eq_getElem (by omega)]; rfl
  have h1 : L[j * 2 + 1]? = some (L.getD (j * 2 + 1) 0) := by rw [List.getD_eq_getElem?_getD, List.getElem?_eq_getElem (by omega)]; rfl
  exact ⟨h.cell h0, h.cell h1⟩


set_option maxHeartbeats 2000000 in
set_option maxRecDepth 100000 in
theorem fnExactWithin_core (u : Option Addr) (n cap p po : Nat) (L : List Int) (x1 x2 C A : Int) (w : World) (hn : n ≤ 1048576) (HL : Hid (L.length = n * 2))
    (HX : Hid (n ≠ 0 → u = some ⟨p, po, none⟩ ∧ p < w.heap.size ∧ IntsAt w p po L))
    (HM : Hid (∀ (g : Nat) (W : World), iblk W g 26 L → Calls Try.prog 18 #[.slice (some ⟨g, 0, none⟩) n n, .agg #[.int .i64 x1, .int .i64 x2]] W fun e w' => e = .returned (.tuple #[.int .i64 C, .int .i64 A]) ∧ Below W.heap.size W w'))
    (HP : Hid (∀ (g : Nat) (W : World), iblk W g 26 L → Calls Try.prog 20 #[.slice (some ⟨g, 0, none⟩) n n, .agg #[.int .i64 x1, .int .i64 x2]] W fun e w' => e = .returned (.tuple #[.int .i64 C, .int .i64 A]) ∧ Below W.heap.size W w')) :
    Calls Try.prog 5 #[.slice u n cap, .agg #[.int .i64 x1, .int .i64 x2]] w fun e w' => e = .returned (.bool true) ∧ Below w.heap.size w w' := by
  have t1 : decide ((1048576 : Int) - (n : Int) < 0) = false := decide_eq_false (by omega)
  have HT := hide (fun W (hW : Below w.heap.size w W) => pt_to u p po n cap L W (unhide HL) hn (fun h => ⟨(unhide HX h).1, Nat.lt_of_lt_of_le (unhide HX h).2.1 hW.size, (unhide HX h).2.2.below hW (unhide HX h).2.1⟩))
  go_enter Try.func5, Try.ntmps5
  go_wp2_with fail
  have HB0 := hide (ba (Below.refl w.heap.size w) (.cells #[.int .i64 x1, .int .i64 x2] 23))
  refine (pt_sz_in u n cap 1048576 _ (by omega) (by omega)).mono ?_
  rintro e W0 ⟨rfl, rfl⟩
  go_upto_region 5 with fail
  go_cut [6, 7] (fun s7 s8 wx => s7 = .int .i64 C ∧ s8 = .int .i64 A ∧ wx.cell? ⟨w.heap.size, 0, none⟩ = some (.int .i64 x1) ∧ wx.cell? ⟨w.heap.size, 1, none⟩ = some (.int .i64 x2) ∧ Below w.heap.size w wx)
  case first =>
    go_region_held3 (fun wx => wx.cell? ⟨w.heap.size, 0, none⟩ = some (.int .i64 x1) ∧ wx.cell? ⟨w.heap.size, 1, none⟩ = some (.int .i64 x2))
      (simp (maxDischargeDepth := 12) [go_sem, le1, lt1, *])
      (first
      | (go_at_call 19; refine (unhide HT _ (by repeat (first | exact unhide HB0 | refine Below.drew ?_))).mono ?_; rintro e w' ⟨⟨g1, rfl, hg1, hk1⟩, hb⟩; have HB1 := hide (show Below w.heap.size w w' from bc (by repeat (first | exact unhide HB0 | refine Below.drew ?_)) hb); have HK1 := hide hk1; have k0 := keep1 hb (b := w.heap.size) (o := 0) (v := .int .i64 x1) (by simp (maxDischargeDepth := 12) [go_sem, le1, lt1, *]); have k1 := keep1 hb (b := w.heap.size) (o := 1) (v := .int .i64 x2) (by simp (maxDischargeDepth := 12) [go_sem, le1, lt1, *]); clear hb hk1 hg1)
      | (go_at_call 10; refine (pt_conv _ _ _).mono ?_; rintro e w' ⟨rfl, hb⟩; have HK2 := hide ((unhide HK1).bel hb); have HB2 := hide (show Below w.heap.size w w' from bc (by repeat (first | exact unhide HB1 | refine Below.drew ?_)) hb); have j0 := keep1 hb (b := w.heap.size) (o := 0) (v := .int .i64 x1) (by simp (maxDischargeDepth := 12) [go_sem, le1, lt1, *]); have j1 := keep1 hb (b := w.heap.size) (o := 1) (v := .int .i64 x2) (by simp (maxDischargeDepth := 12) [go_sem, le1, lt1, *]); clear hb)
      | (go_at_call 18; refine (unhide HM _ _ (unhide HK2)).mono ?_; rintro e w' ⟨rfl, hb⟩; have HB3 := hide (show Below w.heap.size w w' from bc (by repeat (first | exact unhide HB2 | refine Below.drew ?_)) hb); have i0 := keep1 hb (b := w.heap.size) (o := 0) (v := .int .i64 x1) (by simp (maxDischargeDepth := 12) [go_sem, le1, lt1, *]); have i1 := keep1 hb (b := w.heap.size) (o := 1) (v := .int .i64 x2) (by simp (maxDischargeDepth := 12) [go_sem, le1, lt1, *]); clear hb))
    all_goals
      go_wp2_with fail
      go_meet
      case rel => exact ⟨rfl, rfl, by simp (maxDischargeDepth := 12) [go_sem, le1, lt1, *], by simp (maxDischargeDepth := 12) [go_sem, le1, lt1, *], by repeat (first | exact unhide HB3 | refine Below.drew ?_)⟩
  case rest =>
    obtain ⟨rfl, rfl, x0, y0, hw⟩ := hcut
    have HB2 := hide hw
    clear hw
    go_wp2_with fail
    refine (unhide HT _ (unhide HB2)).mono ?_
    rintro e W3 ⟨⟨g2, rfl, hg2, hk2⟩, hb3⟩
    have k0 := keep1 hb3 x0
    have k1 := keep1 hb3 y0
    have HB3 := hide (bc (unhide HB2) hb3)
    have HK2 := hide hk2
    clear hb3 hk2 hg2 x0 y0
    go_wp2_with fail
    refine (pt_conv _ _ _).mono ?_
    rintro e W3' ⟨rfl, hb⟩
    have HK2' := hide ((unhide HK2).bel hb)
    have HB3' := hide (bc (unhide HB3) hb)
    clear hb k0 k1
    go_wp2_with fail
    refine (unhide HP _ _ (unhide HK2')).mono ?_
    rintro e W4 ⟨rfl, hb4⟩
    have HB4 := hide (bc (unhide HB3') hb4)
    have HK2b := hide ((unhide HK2').bel hb4)
    clear hb4
    go_wp2_with fail
    refine (unhide HT _ (unhide HB4)).mono ?_
    rintro e W5 ⟨⟨g3, rfl, hg3, hk3⟩, hb5⟩
    have HB5 := hide (bc (unhide HB4) hb5)
    have HK2c := hide ((unhide HK2b).bel hb5)
    have HK3 := hide hk3
    clear hb5 hk3 hg3
    go_wp2_with fail
    refine (pt_same _ _ g2 0 g3 0 n n n L _ (unhide HL) (by omega) (fun _ => ⟨rfl, (unhide HK2c).lt, (unhide HK2c).ints⟩) (fun _ => ⟨rfl, (unhide HK3).lt, (unhide HK3).ints⟩)).mono ?_
    rintro e W6 ⟨rfl, hb6⟩
    have HB6 := hide (bc (unhide HB5) hb6)
    clear hb6
    go_wp2_with fail
    go_ret
    exact ⟨rfl, unhide HB6⟩
theorem fnExactWithin_walk (u : Option Addr) (n cap : Nat) (L : List Int) (x1 x2 : Int) (w : World) (hn : n ≤ 9223372036854775807) (hl : L.length = n * 2) (hx : n ≠ 0 → ∃ p po, u = some ⟨p, po, none⟩ ∧ p < w.heap.size ∧ IntsAt w p po L) (h0 : (Lit.int .i64 x1).wf = true) (h1 : (Lit.int .i64 x2).wf = true) :
    Calls Try.prog 5 #[.slice u n cap, .agg #[.int .i64 x1, .int .i64 x2]] w fun e w' => e = .returned (.bool true) ∧ Below w.heap.size w w' := by
  by_cases hb : n ≤ 1048576
  · obtain ⟨p, po, hx'⟩ : ∃ p po, n ≠ 0 → u = some ⟨p, po, none⟩ ∧ p < w.heap.size ∧ IntsAt w p po L := by
      by_cases h : n = 0
      · exact ⟨0, 0, fun h' => absurd h h'⟩
      · obtain ⟨p, po, h1⟩ := hx h
        exact ⟨p, po, fun _ => h1⟩
    refine fnExactWithin_core u n cap p po L x1 x2 (inV (toPts L n) n (x1, x2)) (inC (toPts L n) n (x1, x2)) w hb (hide hl) (hide hx') (hide fun g W hg => ?_) (hide fun g W hg => ?_)
    · exact withinM_any g 0 n n (toPts L n) x1 x2 W (hide (toPts_len L n)) (by omega) (hide hg.lt) (hide (ptsAt_of hg hl))
    · exact withinP_any g 0 n n (toPts L n) x1 x2 W (hide (toPts_len L n)) (by omega) (hide (Nat.le_refl _)) (hide hg.lt) (hide (ptsAt_of hg hl))
  · have HX := hide hx
    clear hx
    go_enter Try.func5, Try.ntmps5
    go_wp2_with fail
    refine (pt_sz_out u n cap 1048576 _ (by omega) (by omega) (by omega) hn).mono ?_
    rintro e W0 ⟨rfl, rfl⟩
    go_wp2_with fail
    go_ret
    exact ⟨rfl, ba (Below.refl _ _) _⟩

theorem fnExactWithin_own : ownKnob Try.prog.godebug = none := by kernel_rfl
theorem fnExactWithin_laidOut : laidOutB Try.prog = true := by kernel_rfl
theorem cells23 : Try.prog.cellsOf 23 = 2 := by kernel_rfl

set_option maxRecDepth 100000 in
theorem fnExactWithin_lifted (os : Os) (started : os.Started) (H : Type) (enc : TypeId × Value → H) :
    ReturnsInHanded {} Try.checked os 5 .any (Rows.fnExactWithinSpec.pre6 enc Try.prog Try.f5 Rows.fnExactWithinRow.domain false) (Rows.fnExactWithinSpec.post enc Try.prog Try.f5 false true false false) := by
  refine returnsInHanded_of_change (C := Try.checked) fnExactWithin_own started (by kernel_rfl) Try.func5
    (ChangeSpec.witness6 (enc := enc) (C := Try.checked) false ⟨#[], #[.slice none 0 0, .agg #[.int .i64 0, .int .i64 0]], []⟩ 8 (by kernel_rfl) (by kernel_rfl) (by kernel_rfl) (by kernel_rfl)) ?_
  intro W base args ds gs before hval0 hW hcnd _
  have hval : ∀ (j : Nat) t v, Try.f5.params[j]? = some t → args[j]? = some v → Value.okWide Try.prog W .any base t v := hval0
  have hW' := hW
  obtain ⟨p, q, hA0, hV, rfl, hfz, hnd⟩ := hW
  have hA : DataW.TrodAll enc Try.prog W 0 (fun _ => true) true Try.f5.params.toList args.toList ds p := hA0
  rw [Try.params5] at hA hval
  obtain ⟨v0, vs0, d0, ds0, p0, q0, hargs, rfl, rfl, h0, r0⟩ := trodAll_cons hA
  obtain ⟨v1, vs1, d1, ds1, p1, q1, rfl, rfl, rfl, h1, r1⟩ := trodAll_cons r0
  obtain ⟨rfl, rfl, rfl⟩ := trodAll_nil r1
  obtain rfl : args = #[v0, v1] := by cases args; simp_all
  obtain ⟨rfl, rfl⟩ := trodVars_none hV
  obtain ⟨a0, len0, cap0, rfl⟩ := okWide_slice Try.underlying35 (hval 0 35 v0 rfl rfl)
  have k0 := h0
  have lt0 : ∀ x ∈ p0, x.block < W.heap.size := by obtain ⟨m, hm⟩ := k0; exact DataW.trod_lt m _ _ _ hm
  obtain ⟨z0, b0, l0, w0⟩ : ∃ L : List Int, len0 ≤ 9223372036854775807 ∧ L.length = len0 * 2 ∧ (len0 ≠ 0 → ∃ p po, a0 = some ⟨p, po, none⟩ ∧ p < W.heap.size ∧ IntsAt W p po L) := by
    obtain ⟨fuel, hf⟩ := h0
    obtain ⟨u, n, cap, L, hcs, hn, hl, hx⟩ := open_structs Try.underlying35 Try.underlying23 (k := 2) (by kernel_rfl) (by decide) rfl (by kernel_rfl) hf
    simp [Value.cells] at hcs
    obtain ⟨rfl, rfl, rfl⟩ := hcs
    exact ⟨L, hn, hl, hx⟩
  have k1 := h1
  have lt1 : ∀ x ∈ p1, x.block < W.heap.size := by obtain ⟨m, hm⟩ := k1; exact DataW.trod_lt m _ _ _ hm
  obtain ⟨c1, kk1, y1, z1, m1, rfl, rfl, rfl, hy1, hz1⟩ := open_agg2 Try.underlying23 (by kernel_rfl) cells23 (hval 1 23 v1 rfl rfl) h1
  obtain ⟨n1, en1, rfl, wn1⟩ := DataW.trod_int Try.underlying3 hy1
  obtain ⟨d1', ed1, rfl, wd1⟩ := DataW.trod_int Try.underlying3 hz1
  simp at en1 ed1
  subst en1 ed1
  clear hA0 hval0
  refine (fnExactWithin_walk a0 len0 cap0 z0 n1 d1' W b0 l0 w0 wn1 wd1).mono fun e W' ⟨he, bel⟩ => ?_
  subst he
  exact ⟨_, rfl, _, _, _, [], _, [], hW', trodAll_mk1 (shut_bool Try.underlying4 _), (trodAll_cons_mk (Below.trod fnExactWithin_laidOut (by kernel_rfl) (of_decide_eq_true (by kernel_rfl)) k0 bel lt0) (trodAll_cons_mk (Below.trod fnExactWithin_laidOut (by kernel_rfl) (of_decide_eq_true (by kernel_rfl)) k1 bel lt1) trodAll_mk0)), rfl, bel.frame _, fun h => by cases h⟩

theorem fnExactWithin_over : Rows.fnExactWithinRow.holds Try.pinned (OpenSpec.ofChange Rows.fnExactWithinSpec) :=
  OpenClaim.holds_of_wide 5 Try.f5 rfl rfl rfl rfl rfl rfl rfl ⟨rfl, rfl, rfl, rfl, rfl⟩ rfl rfl rfl rfl rfl (by kernel_rfl) Try.func5 (by kernel_rfl)
    (of_decide_eq_true (by kernel_rfl)) (by unfold Func.isWrapper; first | (rw [if_pos (by decide +kernel)]; kernel_rfl) | (rw [if_neg (by decide +kernel)]; exact ⟨rfl, rfl⟩))
    (fun os started H enc _ => fnExactWithin_lifted os started H enc)

/-- The statement, as it was given. -/
theorem fnExactWithin_holds : Rows.FnExactWithinSaid := fnExactWithin_over
#print axioms fnExactWithin_holds
end Go.Proofs.Ytegfghpaldnpeaa
