/-
  The program's FlatLength answers as the model at every argument, right or not, and changes none.
-/
import Derived.Test.YtimkinpbimangaaFlP
import Derived.Test.YtimkinpbimangaaFlM
import Derived.Test.YtimkinpbimangaaItL
import Derived.Test.YtimkinpbimangaaOpenRows
import Derived.Test.YtimkinpbimangaaChecked
import Derived.Test.YtimkinpbimangaaRows
import Derived.ChangeOld
import Derived.Lib.SmallJoins
namespace Go.Proofs.Ytimkinpbimangaa
open Go.ChangeShapes Go.WideShapes Go.ChangeAt Go.RowKit Go.Joins
set_option linter.unusedVariables false
set_option linter.unusedSimpArgs false

set_option maxHeartbeats 4000000 in
set_option maxRecDepth 100000 in
theorem fnExactFlatLength_walk (a0 : Option Addr) (n cap0 : Nat) (z0 : List Int) (a1 : Option Addr) (m cap1 : Nat) (z1 : List Int) (r t : Int) (w : World) (b0 : n ≤ 9223372036854775807) (l0 : z0.length = n) (w0 : n ≠ 0 → ∃ p po, a0 = some ⟨p, po, none⟩ ∧ p < w.heap.size ∧ IntsAt w p po z0) (b1 : m ≤ 9223372036854775807) (l1 : z1.length = m) (w1 : m ≠ 0 → ∃ p po, a1 = some ⟨p, po, none⟩ ∧ p < w.heap.size ∧ IntsAt w p po z1) (w2 : (Lit.int .i64 r).wf = true) (w3 : (Lit.int .i64 t).wf = true) :
    Calls Try.prog 6 #[.slice a0 n cap0, .slice a1 m cap1, .int .i64 r, .int .i64 t] w fun e w' => e = .returned (.bool true) ∧ Below w.heap.size w w' := by
  have i0 := its_of l0 w0
  have i1 := its_of l1 w1
  obtain ⟨p0, o0, i0⟩ := i0
  obtain ⟨p1, o1, i1⟩ := i1
  have n0 : (0 : Int) ≤ (n : Int) := Int.natCast_nonneg _
  have m0 : (0 : Int) ≤ (m : Int) := Int.natCast_nonneg _
  by_cases hn : 1048576 < n
  · have tn : decide ((1048576 : Int) < (n : Int)) = true := decide_eq_true (by omega)
    clear l0 w0 l1 w1 i0 i1
    go_enter Try.func6, Try.ntmps6
    go_wp2_with fail
    go_ret
    exact ⟨rfl, Below.refl _ _⟩
  have tn : decide ((1048576 : Int) < (n : Int)) = false := decide_eq_false (by omega)
  by_cases hm : 1048576 < m
  · have tm : decide ((1048576 : Int) < (m : Int)) = true := decide_eq_true (by omega)
    clear l0 w0 l1 w1 i0 i1
    go_enter Try.func6, Try.ntmps6
    go_wp2_with fail
    go_ret
    exact ⟨rfl, Below.refl _ _⟩
  have tm : decide ((1048576 : Int) < (m : Int)) = false := decide_eq_false (by omega)
  have HT0 := hide (fun W (hW : Below w.heap.size w W) => it_to a0 p0 o0 n cap0 z0 W l0 (by omega) (i0.bel hW))
  have HT1 := hide (fun W (hW : Below w.heap.size w W) => it_to a1 p1 o1 m cap1 z1 W l1 (by omega) (i1.bel hW))
  have HM := hide (fun (g g' : Nat) (W : World) (k : iblk W g 3 z0) (k' : iblk W g' 3 z1) => flM_any (some ⟨g, 0, none⟩) (some ⟨g', 0, none⟩) g 0 g' 0 n m n m z0 z1 r t W l0 l1 (by omega) (by omega) k.its k'.its)
  have HP := hide (fun (g g' : Nat) (W : World) (k : iblk W g 3 z0) (k' : iblk W g' 3 z1) => flP_any (some ⟨g, 0, none⟩) (some ⟨g', 0, none⟩) g 0 g' 0 n m n m z0 z1 r t W l0 l1 (by omega) (by omega) k.its k'.its)
  have HE0 := hide (fun (g g' : Nat) (W : World) (k : iblk W g 3 z0) (k' : iblk W g' 3 z0) => it_same (some ⟨g, 0, none⟩) (some ⟨g', 0, none⟩) g 0 g' 0 n n n z0 W l0 (by omega) k.its k'.its)
  have HE1 := hide (fun (g g' : Nat) (W : World) (k : iblk W g 3 z1) (k' : iblk W g' 3 z1) => it_same (some ⟨g, 0, none⟩) (some ⟨g', 0, none⟩) g 0 g' 0 m m m z1 W l1 (by omega) k.its k'.its)
  generalize flA z0 z1 r t = f at *
  obtain ⟨f0, f1, f2⟩ := f
  unfold tp3 at HM HP
  simp only at HM HP
  have cc : (f2 != f2) = false := by simp
  clear i0 i1 l0 l1 w0 w1 hn hm w2 w3
  go_enter Try.func6, Try.ntmps6
  go_wp2_with fail
  refine (unhide HT0 _ (Below.refl _ _)).mono ?_
  rintro e W0 ⟨⟨g0, rfl, hg0, k0⟩, hb0⟩
  have K0 := hide k0
  have B0 := hide hb0
  clear k0 hb0 hg0
  go_wp2_with fail
  refine (unhide HT1 _ (unhide B0)).mono ?_
  rintro e W1 ⟨⟨g1, rfl, hg1, k1⟩, hb1⟩
  have K0 := hide ((unhide K0).bel hb1)
  have K1 := hide k1
  have B1 := hide (bc (unhide B0) hb1)
  clear k1 hb1 hg1
  go_wp2_with fail
  refine (unhide HM _ _ _ (unhide K0) (unhide K1)).mono ?_
  rintro e W2 ⟨rfl, hb2⟩
  have B2 := hide (bc (unhide B1) hb2)
  clear hb2 K0 K1
  go_wp2_with fail
  refine (unhide HT0 _ (ba (unhide B2) _)).mono ?_
  rintro e W3 ⟨⟨g2, rfl, hg2, k2⟩, hb3⟩
  have r0 := keep1 hb3 (b := W2.heap.size) (o := 0) (v := .int .i64 f0) (by simp [go_sem])
  have r1 := keep1 hb3 (b := W2.heap.size) (o := 1) (v := .int .i64 f1) (by simp [go_sem])
  have K2 := hide k2
  have B3 := hide (bc (ba (unhide B2) _) hb3)
  clear k2 hb3 hg2
  go_wp2_with fail
  refine (unhide HT1 _ (unhide B3)).mono ?_
  rintro e W4 ⟨⟨g3, rfl, hg3, k3⟩, hb4⟩
  have r0 := keep1 hb4 r0
  have r1 := keep1 hb4 r1
  have K2 := hide ((unhide K2).bel hb4)
  have K3 := hide k3
  have B4 := hide (bc (unhide B3) hb4)
  clear k3 hb4 hg3
  go_wp2_with fail
  refine (unhide HP _ _ _ (unhide K2) (unhide K3)).mono ?_
  rintro e W5 ⟨rfl, hb5⟩
  have r0 := keep1 hb5 r0
  have r1 := keep1 hb5 r1
  have rl := cell_lt r0
  have K2 := hide (((unhide K2).bel hb5).bel (ba (Below.refl _ _) (.cells #[.int .i64 f0, .int .i64 f1] 38)))
  have K3 := hide (((unhide K3).bel hb5).bel (ba (Below.refl _ _) (.cells #[.int .i64 f0, .int .i64 f1] 38)))
  have B5 := hide (bc (unhide B4) hb5)
  clear hb5
  go_wp2_with fail
  refine (eqFrac_any f0 f1 _).mono ?_
  rintro e W6 ⟨rfl, hb6⟩
  have K2 := hide ((unhide K2).bel hb6)
  have K3 := hide ((unhide K3).bel hb6)
  have B6 := hide (bc (ba (unhide B5) _) hb6)
  clear hb6 r0 r1 rl
  go_wp2_with fail
  refine (unhide HT0 _ (unhide B6)).mono ?_
  rintro e W7 ⟨⟨g4, rfl, hg4, k4⟩, hb7⟩
  have K2 := hide ((unhide K2).bel hb7)
  have K3 := hide ((unhide K3).bel hb7)
  have K4 := hide k4
  have B7 := hide (bc (unhide B6) hb7)
  clear k4 hb7 hg4
  go_wp2_with fail
  refine (unhide HE0 _ _ _ (unhide K2) (unhide K4)).mono ?_
  rintro e W8 ⟨rfl, hb8⟩
  have K3 := hide ((unhide K3).bel hb8)
  have B8 := hide (bc (unhide B7) hb8)
  clear hb8 K2 K4
  go_wp2_with fail
  refine (unhide HT1 _ (unhide B8)).mono ?_
  rintro e W9 ⟨⟨g5, rfl, hg5, k5⟩, hb9⟩
  have K3 := hide ((unhide K3).bel hb9)
  have K5 := hide k5
  have B9 := hide (bc (unhide B8) hb9)
  clear k5 hb9 hg5
  go_wp2_with fail
  refine (unhide HE1 _ _ _ (unhide K3) (unhide K5)).mono ?_
  rintro e W10 ⟨rfl, hb10⟩
  have B10 := hide (bc (unhide B9) hb10)
  clear hb10
  go_wp2_with fail
  go_ret
  exact ⟨rfl, unhide B10⟩

theorem fnExactFlatLength_own : ownKnob Try.prog.godebug = none := by kernel_rfl
theorem fnExactFlatLength_laidOut : laidOutB Try.prog = true := by kernel_rfl

set_option maxRecDepth 100000 in
theorem fnExactFlatLength_lifted (os : Os) (started : os.Started) (H : Type) (enc : TypeId × Value → H) :
    ReturnsInHanded {} Try.checked os 6 .any (Rows.fnExactFlatLengthSpec.pre6 enc Try.prog Try.f6 Rows.fnExactFlatLengthRow.domain false) (Rows.fnExactFlatLengthSpec.post enc Try.prog Try.f6 false true false false) := by
  refine returnsInHanded_of_change (C := Try.checked) fnExactFlatLength_own started (by kernel_rfl) Try.func6
    (ChangeSpec.witness6 (enc := enc) (C := Try.checked) false ⟨#[], #[.slice none 0 0, .slice none 0 0, .int .i64 0, .int .i64 0], []⟩ 8 (by kernel_rfl) (by kernel_rfl) (by kernel_rfl) (by kernel_rfl)) ?_
  intro W base args ds gs before hval0 hW hcnd _
  have hval : ∀ (j : Nat) t v, Try.f6.params[j]? = some t → args[j]? = some v → Value.okWide Try.prog W .any base t v := hval0
  have hW' := hW
  obtain ⟨p, q, hA0, hV, rfl, hfz, hnd⟩ := hW
  have hA : DataW.TrodAll enc Try.prog W 0 (fun _ => true) true Try.f6.params.toList args.toList ds p := hA0
  rw [Try.params6] at hA hval
  obtain ⟨v0, vs0, d0, ds0, p0, q0, hargs, rfl, rfl, h0, r0⟩ := trodAll_cons hA
  obtain ⟨v1, vs1, d1, ds1, p1, q1, rfl, rfl, rfl, h1, r1⟩ := trodAll_cons r0
  obtain ⟨v2, vs2, d2, ds2, p2, q2, rfl, rfl, rfl, h2, r2⟩ := trodAll_cons r1
  obtain ⟨v3, vs3, d3, ds3, p3, q3, rfl, rfl, rfl, h3, r3⟩ := trodAll_cons r2
  obtain ⟨rfl, rfl, rfl⟩ := trodAll_nil r3
  obtain rfl : args = #[v0, v1, v2, v3] := by cases args; simp_all
  obtain ⟨rfl, rfl⟩ := trodVars_none hV
  obtain ⟨a0, len0, cap0, rfl⟩ := okWide_slice Try.underlying23 (hval 0 23 v0 rfl rfl)
  have k0 := h0
  have lt0 : ∀ x ∈ p0, x.block < W.heap.size := by obtain ⟨m, hm⟩ := k0; exact DataW.trod_lt m _ _ _ hm
  obtain ⟨z0, b0, l0, w0⟩ : ∃ L : List Int, len0 ≤ 9223372036854775807 ∧ L.length = len0 ∧ (len0 ≠ 0 → ∃ p po, a0 = some ⟨p, po, none⟩ ∧ p < W.heap.size ∧ IntsAt W p po L) := by
    obtain ⟨fuel, hf⟩ := h0
    obtain ⟨u, n, cap, L, hcs, hn, hl, hx⟩ := open_irow Try.underlying23 Try.underlying3 (by kernel_rfl) hf
    simp [Value.cells] at hcs
    obtain ⟨rfl, rfl, rfl⟩ := hcs
    exact ⟨L, hn, hl, hx⟩
  obtain ⟨a1, len1, cap1, rfl⟩ := okWide_slice Try.underlying23 (hval 1 23 v1 rfl rfl)
  have k1 := h1
  have lt1 : ∀ x ∈ p1, x.block < W.heap.size := by obtain ⟨m, hm⟩ := k1; exact DataW.trod_lt m _ _ _ hm
  obtain ⟨z1, b1, l1, w1⟩ : ∃ L : List Int, len1 ≤ 9223372036854775807 ∧ L.length = len1 ∧ (len1 ≠ 0 → ∃ p po, a1 = some ⟨p, po, none⟩ ∧ p < W.heap.size ∧ IntsAt W p po L) := by
    obtain ⟨fuel, hf⟩ := h1
    obtain ⟨u, n, cap, L, hcs, hn, hl, hx⟩ := open_irow Try.underlying23 Try.underlying3 (by kernel_rfl) hf
    simp [Value.cells] at hcs
    obtain ⟨rfl, rfl, rfl⟩ := hcs
    exact ⟨L, hn, hl, hx⟩
  obtain ⟨a2, rfl, rfl, rfl, w2⟩ := open_int Try.underlying3 (hval 2 3 v2 rfl rfl) h2
  obtain ⟨a3, rfl, rfl, rfl, w3⟩ := open_int Try.underlying3 (hval 3 3 v3 rfl rfl) h3
  clear hA0 hval0
  refine (fnExactFlatLength_walk a0 len0 cap0 z0 a1 len1 cap1 z1 a2 a3 W b0 l0 w0 b1 l1 w1 w2 w3).mono fun e W' ⟨he, bel⟩ => ?_
  subst he
  exact ⟨_, rfl, _, _, _, [], _, [], hW', trodAll_mk1 (shut_bool Try.underlying4 _), (trodAll_cons_mk (Below.trod fnExactFlatLength_laidOut (by kernel_rfl) (of_decide_eq_true (by kernel_rfl)) k0 bel lt0) (trodAll_cons_mk (Below.trod fnExactFlatLength_laidOut (by kernel_rfl) (of_decide_eq_true (by kernel_rfl)) k1 bel lt1) (trodAll_cons_mk (shut_int Try.underlying3 w2) (trodAll_cons_mk (shut_int Try.underlying3 w3) trodAll_mk0)))), rfl, bel.frame _, fun h => by cases h⟩

theorem fnExactFlatLength_over : Rows.fnExactFlatLengthRow.holds Try.pinned (OpenSpec.ofChange Rows.fnExactFlatLengthSpec) :=
  OpenClaim.holds_of_wide 6 Try.f6 rfl rfl rfl rfl rfl rfl rfl ⟨rfl, rfl, rfl, rfl, rfl⟩ rfl rfl rfl rfl rfl (by kernel_rfl) Try.func6 (by kernel_rfl)
    (of_decide_eq_true (by kernel_rfl)) (by unfold Func.isWrapper; first | (rw [if_pos (by decide +kernel)]; kernel_rfl) | (rw [if_neg (by decide +kernel)]; exact ⟨rfl, rfl⟩))
    (fun os started H enc _ => fnExactFlatLength_lifted os started H enc)

/-- The statement, as it was given. -/
theorem fnExactFlatLength_holds : Rows.FnExactFlatLengthSaid := fnExactFlatLength_over
#print axioms fnExactFlatLength_holds
end Go.Proofs.Ytimkinpbimangaa
