/-
  The program's SketchOK answers as the model at every sketch, right or not, and changes none.
-/
import Derived.Test.YtbceblgakehpnaaSkRows
import Derived.Test.YtbceblgakehpnaaOpenRows
import Derived.Test.YtbceblgakehpnaaRows
import Derived.ChangeOld
import Derived.Lib.SmallJoins
namespace Go.Proofs.Ytbceblgakehpnaa
open Go.ChangeShapes Go.WideShapes Go.ChangeAt Go.RowKit Go.Joins
set_option linter.unusedVariables false
set_option linter.unusedSimpArgs false

set_option maxHeartbeats 2000000 in
set_option maxRecDepth 100000 in
theorem fnExactSketchOK_core (n : Int) (u : Option Addr) (l cap p po : Nat) (L : List Int) (B : Bool) (w : World) (hn : l ≤ 1048576) (HL : Hid (L.length = l * 4))
    (HX : Hid (l ≠ 0 → u = some ⟨p, po, none⟩ ∧ p < w.heap.size ∧ IntsAt w p po L))
    (HM : Hid (∀ (g : Nat) (W : World), iblk W g 52 L → Calls Try.prog 8 #[skv n (some ⟨g, 0, none⟩) l l] W fun e w' => e = .returned (.bool B) ∧ Below W.heap.size W w'))
    (HP : Hid (∀ (g : Nat) (W : World), iblk W g 52 L → Calls Try.prog 10 #[skv n (some ⟨g, 0, none⟩) l l] W fun e w' => e = .returned (.bool B) ∧ Below W.heap.size W w')) :
    Calls Try.prog 3 #[skv n u l cap] w fun e w' => e = .returned (.bool true) ∧ Below w.heap.size w w' := by
  have t1 : decide ((1048576 : Int) - (l : Int) < 0) = false := decide_eq_false (by omega)
  have HT := hide (fun W (hW : Below w.heap.size w W) => sk_to n u p po l cap L W (unhide HL) hn (fun h => ⟨(unhide HX h).1, Nat.lt_of_lt_of_le (unhide HX h).2.1 hW.size, (unhide HX h).2.2.below hW (unhide HX h).2.1⟩))
  have HS := hide (fun W => sk_sz_in n u l cap 1048576 W (by omega) (by omega))
  go_enter Try.func3, Try.ntmps3
  go_wp2_with fail
  refine (unhide HS _).mono ?_
  rintro e W0 ⟨rfl, hb0⟩
  have a0 : W0.cell? ⟨w.heap.size, 0, none⟩ = some (.int .i64 n) := keep1 hb0 (by simp [go_sem])
  have a1 : W0.cell? ⟨w.heap.size, 1, none⟩ = some (.slice u l cap) := keep1 hb0 (by simp [go_sem])
  have HB0 := hide (bc (ba (Below.refl _ _) _) hb0)
  clear hb0
  go_wp2_with fail
  refine (unhide HT _ (unhide HB0)).mono ?_
  rintro e W1 ⟨⟨g1, rfl, hg1, hk1⟩, hb1⟩
  have b0 := keep1 hb1 a0
  have b1 := keep1 hb1 a1
  have HB1 := hide (bc (unhide HB0) hb1)
  have HK1 := hide hk1
  clear hb1 hk1 hg1 a0 a1
  go_wp2_with fail
  refine (unhide HM _ _ (unhide HK1)).mono ?_
  rintro e W2 ⟨rfl, hb2⟩
  have a0 := keep1 hb2 b0
  have a1 := keep1 hb2 b1
  have HB2 := hide (bc (unhide HB1) hb2)
  clear hb2 b0 b1
  go_wp2_with fail
  refine (unhide HT _ (unhide HB2)).mono ?_
  rintro e W3 ⟨⟨g2, rfl, hg2, hk2⟩, hb3⟩
  have b0 := keep1 hb3 a0
  have b1 := keep1 hb3 a1
  have HB3 := hide (bc (unhide HB2) hb3)
  have HK2 := hide hk2
  have lt3 := cell_lt b0
  clear hb3 hk2 hg2 a0 a1
  go_wp2_with fail
  refine (unhide HP _ _ ((unhide HK2).bel (ba (Below.refl _ _) _))).mono ?_
  rintro e W4 ⟨rfl, hb4⟩
  have c0 : W4.cell? ⟨w.heap.size, 0, none⟩ = some (.int .i64 n) := keep1 hb4 (ka b0)
  have c1 : W4.cell? ⟨w.heap.size, 1, none⟩ = some (.slice u l cap) := keep1 hb4 (ka b1)
  have d0 : W4.cell? ⟨W3.heap.size, 0, none⟩ = some (.int .i64 n) := keep1 hb4 (by simp [go_sem])
  have d1 : W4.cell? ⟨W3.heap.size, 1, none⟩ = some (.slice (some ⟨g2, 0, none⟩) l l) := keep1 hb4 (by simp [go_sem])
  have HB4 := hide (bc (ba (unhide HB3) _) hb4)
  have HK4 := hide (((unhide HK2).bel (ba (Below.refl _ _) (.cells #[.int .i64 n, .slice (some ⟨g2, 0, none⟩) l l] 29))).bel hb4)
  clear hb4 b0 b1
  have eB : (B != B) = false := by simp
  go_wp2_with fail
  go_region_held3 (fun wx => wx.cell? ⟨w.heap.size, 0, none⟩ = some (.int .i64 n) ∧ wx.cell? ⟨w.heap.size, 1, none⟩ = some (.slice u l cap) ∧ wx.cell? ⟨W3.heap.size, 0, none⟩ = some (.int .i64 n) ∧ wx.cell? ⟨W3.heap.size, 1, none⟩ = some (.slice (some ⟨g2, 0, none⟩) l l))
    (simp (maxDischargeDepth := 12) [go_sem, le1, lt1, *])
    (first
    | (go_at_call 9; refine (unhide HT _ (by repeat (first | exact unhide HB4 | refine Below.drew ?_))).mono ?_; rintro e w' ⟨⟨g3, rfl, hg3, hk3⟩, hb⟩; have HB := hide hb; have HK3 := hide hk3; have HK5 := hide (bel_iblk hb (unhide HK4)); have x0 := keep1 hb (b := w.heap.size) (o := 0) (v := .int .i64 n) c0; have x1 := keep1 hb (b := w.heap.size) (o := 1) (v := .slice u l cap) c1; have x2 := keep1 hb (b := W3.heap.size) (o := 0) (v := .int .i64 n) d0; have x3 := keep1 hb (b := W3.heap.size) (o := 1) (v := .slice (some ⟨g2, 0, none⟩) l l) d1; clear hb hk3 hg3)
    | (go_at_call 11; refine (sk_same n _ _ g2 0 g3 0 l l l L _ (unhide HL) (by omega) (fun _ => ⟨rfl, iblk.lt (unhide HK5), iblk.ints (unhide HK5)⟩) (fun _ => ⟨rfl, iblk.lt (unhide HK3), iblk.ints (unhide HK3)⟩)).mono ?_; rintro e w'' ⟨rfl, hb⟩; have HC := hide hb; have z0 := keep1 hb (b := w.heap.size) (o := 0) (v := .int .i64 n) x0; have z1 := keep1 hb (b := w.heap.size) (o := 1) (v := .slice u l cap) x1; have z2 := keep1 hb (b := W3.heap.size) (o := 0) (v := .int .i64 n) x2; have z3 := keep1 hb (b := W3.heap.size) (o := 1) (v := .slice (some ⟨g2, 0, none⟩) l l) x3; clear hb))
  all_goals
    go_wp2_with fail
    go_ret
    exact ⟨rfl, by repeat (first | exact unhide HB4 | refine bc ?_ (unhide HC) | refine bc ?_ (unhide HB) | refine Below.drew ?_)⟩
theorem fnExactSketchOK_walk (n : Int) (u : Option Addr) (l cap : Nat) (L : List Int) (w : World) (wn : (Lit.int .i64 n).wf = true) (hn : l ≤ 9223372036854775807) (hl : L.length = l * 4) (hx : l ≠ 0 → ∃ p po, u = some ⟨p, po, none⟩ ∧ p < w.heap.size ∧ IntsAt w p po L) :
    Calls Try.prog 3 #[skv n u l cap] w fun e w' => e = .returned (.bool true) ∧ Below w.heap.size w w' := by
  by_cases hb : l ≤ 1048576
  · obtain ⟨p, po, hx'⟩ : ∃ p po, l ≠ 0 → u = some ⟨p, po, none⟩ ∧ p < w.heap.size ∧ IntsAt w p po L := by
      by_cases h : l = 0
      · exact ⟨0, 0, fun h' => absurd h h'⟩
      · obtain ⟨p, po, h1⟩ := hx h
        exact ⟨p, po, fun _ => h1⟩
    refine fnExactSketchOK_core n u l cap p po L (skOk n (toRus L l)) w hb (hide hl) (hide hx') (hide fun g W hg => ?_) (hide fun g W hg => ?_)
    · exact okM_any n (some ⟨g, 0, none⟩) g 0 l l (toRus L l) W (hide (toRus_len L l)) (by omega) (hide fun _ => ⟨rfl, hg.lt, rusAt_of hg hl⟩)
    · exact okP_any n (some ⟨g, 0, none⟩) g 0 l l (toRus L l) W (hide (toRus_len L l)) (by omega) (hide fun _ => ⟨rfl, hg.lt, rusAt_of hg hl⟩)
  · have HX := hide hx
    have HS := hide (fun W => sk_sz_out n u l cap 1048576 W (by omega) (by omega) (by omega) hn)
    clear hx
    go_enter Try.func3, Try.ntmps3
    go_wp2_with fail
    refine (unhide HS _).mono ?_
    rintro e W0 ⟨rfl, hb0⟩
    have HB0 := hide (bc (ba (Below.refl _ _) _) hb0)
    clear hb0
    go_wp2_with fail
    go_ret
    exact ⟨rfl, unhide HB0⟩

theorem fnExactSketchOK_own : ownKnob Try.prog.godebug = none := by kernel_rfl
theorem fnExactSketchOK_laidOut : laidOutB Try.prog = true := by kernel_rfl
theorem cells24 : Try.prog.cellsOf 24 = 2 := by kernel_rfl

set_option maxRecDepth 100000 in
theorem fnExactSketchOK_lifted (os : Os) (started : os.Started) (H : Type) (enc : TypeId × Value → H) :
    ReturnsInHanded {} Try.checked os 3 .any (Rows.fnExactSketchOKSpec.pre6 enc Try.prog Try.f3 Rows.fnExactSketchOKRow.domain false) (Rows.fnExactSketchOKSpec.post enc Try.prog Try.f3 false true false false) := by
  refine returnsInHanded_of_change (C := Try.checked) fnExactSketchOK_own started (by kernel_rfl) Try.func3
    (ChangeSpec.witness6 (enc := enc) (C := Try.checked) false ⟨#[], #[.agg #[.int .i64 0, .slice none 0 0]], []⟩ 8 (by kernel_rfl) (by kernel_rfl) (by kernel_rfl) (by kernel_rfl)) ?_
  intro W base args ds gs before hval0 hW hcnd _
  have hval : ∀ (j : Nat) t v, Try.f3.params[j]? = some t → args[j]? = some v → Value.okWide Try.prog W .any base t v := hval0
  have hW' := hW
  obtain ⟨p, q, hA0, hV, rfl, hfz, hnd⟩ := hW
  have hA : DataW.TrodAll enc Try.prog W 0 (fun _ => true) true Try.f3.params.toList args.toList ds p := hA0
  rw [Try.params3] at hA hval
  obtain ⟨v0, vs0, d0, ds0, p0, q0, hargs, rfl, rfl, h0, r0⟩ := trodAll_cons hA
  obtain ⟨rfl, rfl, rfl⟩ := trodAll_nil r0
  obtain rfl : args = #[v0] := by cases args; simp_all
  obtain ⟨rfl, rfl⟩ := trodVars_none hV
  have k0 := h0
  have lt0 : ∀ x ∈ p0, x.block < W.heap.size := by obtain ⟨m, hm⟩ := k0; exact DataW.trod_lt m _ _ _ hm
  obtain ⟨c0, s0, y0, z0, m0, rfl, rfl, rfl, hy0, hz0⟩ := open_agg2 Try.underlying24 (by kernel_rfl) cells24 (hval 0 24 v0 rfl rfl) h0
  obtain ⟨n0, en0, _, wn0⟩ := DataW.trod_int Try.underlying3 hy0
  simp at en0
  subst en0
  obtain ⟨a0, len0, cap0, L0, hcs0, b0, l0, w0⟩ := open_structs Try.underlying22 Try.underlying77 (k := 4) (by kernel_rfl) (by decide) rfl (by kernel_rfl) hz0
  simp at hcs0
  subst hcs0
  clear hA0 hval0
  refine (fnExactSketchOK_walk n0 a0 len0 cap0 L0 W wn0 b0 l0 w0).mono fun e W' ⟨he, bel⟩ => ?_
  subst he
  exact ⟨_, rfl, _, _, _, [], _, [], hW', trodAll_mk1 (shut_bool Try.underlying4 _), (trodAll_cons_mk (Below.trod fnExactSketchOK_laidOut (by kernel_rfl) (of_decide_eq_true (by kernel_rfl)) k0 bel lt0) trodAll_mk0), rfl, bel.frame _, fun h => by cases h⟩

theorem fnExactSketchOK_over : Rows.fnExactSketchOKRow.holds Try.pinned (OpenSpec.ofChange Rows.fnExactSketchOKSpec) :=
  OpenClaim.holds_of_wide 3 Try.f3 rfl rfl rfl rfl rfl rfl rfl ⟨rfl, rfl, rfl, rfl, rfl⟩ rfl rfl rfl rfl rfl (by kernel_rfl) Try.func3 (by kernel_rfl)
    (of_decide_eq_true (by kernel_rfl)) (by unfold Func.isWrapper; first | (rw [if_pos (by decide +kernel)]; kernel_rfl) | (rw [if_neg (by decide +kernel)]; exact ⟨rfl, rfl⟩))
    (fun os started H enc _ => fnExactSketchOK_lifted os started H enc)

/-- The statement, as it was given. -/
theorem fnExactSketchOK_holds : Rows.FnExactSketchOKSaid := fnExactSketchOK_over
#print axioms fnExactSketchOK_holds
end Go.Proofs.Ytbceblgakehpnaa
