/-
  The program's Sway answers as the model at all masses and every pulse, right or not; it changes none; its tones lie in memory of their own.
-/
import Derived.Test.YtgocgcnpgmamiaaFAns
import Derived.Test.YtgocgcnpgmamiaaMsLw
import Derived.Test.YtgocgcnpgmamiaaSwM
import Derived.Test.YtgocgcnpgmamiaaFOpen
import Derived.Test.YtgocgcnpgmamiaaChecked
import Derived.Test.YtgocgcnpgmamiaaRows
import Derived.ChangeOld
import Derived.Lib.SmallJoins
namespace Go.Proofs.Ytgocgcnpgmamiaa
open Go.ChangeShapes Go.WideShapes Go.ChangeAt Go.RowKit Go.Joins
set_option linter.unusedVariables false
set_option linter.unusedSimpArgs false

set_option maxHeartbeats 4000000 in
set_option maxRecDepth 100000 in
theorem fnExactSway_core (u : Option Addr) (n cap N : Nat) (L : List Nat) (F : List (Option Nat)) (C : Int) (wb : Nat) (w : World) (hnn : n ≤ 1048576) (hN : N ≤ 1048576) (HL : Hid (L.length = n * 3))
    (HT : Hid (∀ W, Below w.heap.size w W → Calls Try.prog 21 #[.slice u n cap] W fun e w' => (∃ g, e = .returned (.slice (some ⟨g, 0, none⟩) n n) ∧ W.heap.size ≤ g ∧ fblk .f64 w' g 30 L) ∧ Below W.heap.size W w'))
    (HM : Hid (∀ (g : Nat) (W : World), fblk .f64 W g 30 L → Calls Try.prog 13 #[.slice (some ⟨g, 0, none⟩) n n, .float .f64 wb] W fun e w' => (∃ v, e = .returned (.tuple #[v, .int .i64 C]) ∧ FAns .f64 w' W.heap.size 33 2 v N F) ∧ Below W.heap.size W w'))
    (HP : Hid (∀ (g : Nat) (W : World), fblk .f64 W g 30 L → Calls Try.prog 10 #[.slice (some ⟨g, 0, none⟩) n n, .float .f64 wb] W fun e w' => (∃ v, e = .returned (.tuple #[v, .int .i64 C]) ∧ FAns .f64 w' W.heap.size 33 2 v N F) ∧ Below W.heap.size W w')) :
    Calls Try.prog 5 #[.slice u n cap, .float .f64 wb] w fun e w' => e = .returned (.bool true) ∧ Below w.heap.size w w' := by
  have HE := hide (fun (g g' : Nat) (W : World) (hg : fblk .f64 W g 30 L) (hg' : fblk .f64 W g' 30 L) => ms_same (some ⟨g, 0, none⟩) (some ⟨g', 0, none⟩) g 0 g' 0 n n n L L W (unhide HL) rfl (by omega) hg.fls hg'.fls)
  have HFE := hide (fun (u v : Option Addr) (p q cu cv : Nat) (R M : List Nat) (W : World) (hl : R.length = N * 2) (hm : M.length = N * 2) (hR : R.map (Fv .f64) = F) (hM : M.map (Fv .f64) = F) (hu : Ta .f64 33 2 W u p N cu R) (hv : Ta .f64 33 2 W v q N cv M) => tn_same u v p 0 q 0 N cu cv R M W (hl) (hR.trans hM.symm) (by omega) (hu.fls hl) (hv.fls hm))
  have cc : (C != C) = false := by simp
  have n0 : (0 : Int) ≤ (n : Int) := Int.natCast_nonneg _
  have N0 : (0 : Int) ≤ (N : Int) := Int.natCast_nonneg _
  have z1 : decide ((1 : Int) + (n : Int) * 3 < 0) = false := decide_eq_false (by omega)
  have z2 : decide ((1 : Int) + (N : Int) * 2 < 0) = false := decide_eq_false (by omega)
  have z3 : (((1 : Int) + (N : Int) * 2) != (1 + (N : Int) * 2)) = false := by simp
  have zz : decide ((1048576 : Int) - (n : Int) < 0) = false := decide_eq_false (by omega)
  go_enter Try.func5, Try.ntmps5
  go_wp2_with fail
  refine (ms_sz_in u n cap 1048576 w (by omega) (by omega)).mono ?_
  rintro e w' ⟨rfl, hq⟩
  rw [hq]
  clear hq
  go_wp2_with fail
  refine (unhide HT _ (Below.refl _ _)).mono ?_
  rintro e W1 ⟨⟨g1, rfl, hg1, hk1⟩, hb1⟩
  have HW1 := hide hb1
  have HK1 := hide hk1
  clear hg1 hk1 hb1
  go_wp2_with fail
  refine (unhide HM g1 _ (unhide HK1)).mono ?_
  rintro e W2 ⟨⟨v, rfl, hv⟩, hb⟩
  obtain ⟨u2, q2, c2, R2, rfl, f2, l2, t2, hq2⟩ := hv.get
  have HW2 := hide (bc (unhide HW1) hb)
  have T2 := hide t2
  have F2 := hide f2
  have L2 := hide l2
  clear hv t2 f2 l2 hb hq2 HK1 HW1
  go_wp2_with fail
  refine (unhide HT _ (unhide HW2)).mono ?_
  rintro e W3 ⟨⟨g3, rfl, hg3, hk3⟩, hb⟩
  have T2a := hide ((unhide T2).bel hb)
  have D23 : Hid (N ≠ 0 → q2 < g3) := hide fun h => Nat.lt_of_lt_of_le ((unhide T2 h).2.lt' h) hg3
  have HW3 := hide (bc (unhide HW2) hb)
  have HX := hide hk3
  have G3 := hide (Nat.le_trans (unhide HW2).size hg3)
  clear hg3 hk3 hb T2 HW2
  go_wp2_with fail
  refine (unhide HP g3 _ (unhide HX)).mono ?_
  rintro e W4 ⟨⟨v, rfl, hv⟩, hb⟩
  obtain ⟨u4, q4, c4, R4, rfl, f4, l4, t4, hq4⟩ := hv.get
  have T2b := hide ((unhide T2a).bel hb)
  have D24 : Hid (N ≠ 0 → q2 < q4) := hide fun h => Nat.lt_of_lt_of_le ((unhide T2a h).2.lt' h) hq4
  have D34 : Hid (N ≠ 0 → g3 < q4) := hide fun h => Nat.lt_of_lt_of_le (unhide HX).lt hq4
  have B4 : Hid (w.heap.size ≤ q4) := hide (Nat.le_trans (unhide HW3).size hq4)
  have HXa := hide ((unhide HX).bel hb)
  have HW4 := hide (bc (unhide HW3) hb)
  have T4 := hide t4
  have F4 := hide f4
  have L4 := hide l4
  clear hv t4 f4 l4 hb hq4 T2a HX HW3
  go_wp2_with fail
  refine (unhide HFE _ _ _ _ _ _ _ _ _ (unhide L4) (unhide L2) (unhide F4) (unhide F2) (unhide T4) (unhide T2b)).mono ?_
  rintro e W5 ⟨rfl, hb⟩
  have T2c := hide ((unhide T2b).bel hb)
  have T4a := hide ((unhide T4).bel hb)
  have HXb := hide ((unhide HXa).bel hb)
  have HW5 := hide (bc (unhide HW4) hb)
  clear hb T2b T4 HXa HW4
  go_wp2_with fail
  refine (unhide HT _ (unhide HW5)).mono ?_
  rintro e W6 ⟨⟨g6, rfl, hg6, hk6⟩, hb⟩
  have T2d := hide ((unhide T2c).bel hb)
  have T4b := hide ((unhide T4a).bel hb)
  have HXc := hide ((unhide HXb).bel hb)
  have HW6 := hide (bc (unhide HW5) hb)
  have HK6 := hide hk6
  clear hb T2c T4a HXb HW5 hg6 hk6
  go_wp2_with fail
  refine (unhide HE g3 g6 _ (unhide HXc) (unhide HK6)).mono ?_
  rintro e W7 ⟨rfl, hb⟩
  have T2e := hide ((unhide T2d).bel hb)
  have T4c := hide ((unhide T4b).bel hb)
  have HXd := hide ((unhide HXc).bel hb)
  have HW7 := hide (bc (unhide HW6) hb)
  clear hb T2d T4b HXc HW6 HK6
  go_wp2_with fail
  refine (ms_mark (some ⟨g3, 0, none⟩) g3 n n 0 L 1 _ (unhide HL) hnn (by omega) (by omega) ((unhide HXd).ta (unhide HL) hnn)).mono ?_
  rintro e W8 ⟨rfl, _, hb⟩
  have T2f := hide ((unhide T2e).but hb fun h => Nat.ne_of_lt (unhide D23 h))
  have T4d := hide ((unhide T4c).but hb fun h => Nat.ne_of_gt (unhide D34 h))
  have HW8 := hide ((unhide HW7).trans (hb.bel (unhide G3)))
  clear hb T2e T4c HXd HW7
  go_wp2_with fail
  refine (unhide HFE _ _ _ _ _ _ _ _ _ (unhide L4) (unhide L2) (unhide F4) (unhide F2) (unhide T4d) (unhide T2f)).mono ?_
  rintro e W9 ⟨rfl, hb⟩
  have T2g := hide ((unhide T2f).bel hb)
  have T4e := hide ((unhide T4d).bel hb)
  have HW9 := hide (bc (unhide HW8) hb)
  clear hb T2f T4d HW8
  go_wp2_with fail
  refine (tn_mark u4 q4 N c4 0 R4 1 _ (unhide L4) hN (by omega) (by omega) (unhide T4e)).mono ?_
  rintro e W10 ⟨rfl, hm, hb⟩
  have T2h := hide ((unhide T2g).but hb fun h => Nat.ne_of_lt (unhide D24 h))
  have HMk : Hid (Ta .f64 33 2 W10 u4 q4 N c4 (fmarks .f64 1 (N * 2))) := hide fun h => ⟨(unhide T4e h).1, hm h⟩
  have HW10 : Hid (Below w.heap.size w W10) := hide ((unhide HW9).trans (hb.bel (unhide B4)))
  clear hb hm T2g T4e HW9
  go_wp2_with fail
  refine (tn_held u4 q4 N c4 1 _ hN (by omega) (by omega) (fun h => ⟨(unhide HMk h).1, (unhide HMk h).2.ints⟩)).mono ?_
  rintro e W11 ⟨rfl, hs⟩
  have T2i := hide ((unhide T2h).bel hs.bel)
  have HMk2 := hide ((unhide HMk).bel hs.bel)
  have HW11 := hide ((unhide HW10).trans hs.bel)
  clear hs T2h HMk HW10
  go_wp2_with fail
  refine (unhide HT _ (unhide HW11)).mono ?_
  rintro e W12 ⟨⟨g12, rfl, hg12, hk12⟩, hb⟩
  have T2j := hide ((unhide T2i).bel hb)
  have HMk3 := hide ((unhide HMk2).bel hb)
  have HW12 := hide (bc (unhide HW11) hb)
  have HK12 := hide hk12
  clear hb T2i HMk2 HW11 hg12 hk12
  go_wp2_with fail
  refine (unhide HP g12 _ (unhide HK12)).mono ?_
  rintro e W13 ⟨⟨v, rfl, hv⟩, hb⟩
  obtain ⟨u5, q5, c5, R5, rfl, f5, l5, t5, hq5⟩ := hv.get
  have T2k := hide ((unhide T2j).bel hb)
  have HMk4 := hide ((unhide HMk3).bel hb)
  have HW13 := hide (bc (unhide HW12) hb)
  have T5 := hide t5
  have F5 := hide f5
  have L5 := hide l5
  clear hv t5 f5 l5 hb hq5 T2j HMk3 HW12 HK12
  go_wp2_with fail
  refine (unhide HFE _ _ _ _ _ _ _ _ _ (unhide L5) (unhide L2) (unhide F5) (unhide F2) (unhide T5) (unhide T2k)).mono ?_
  rintro e W14 ⟨rfl, hb⟩
  have HMk5 := hide ((unhide HMk4).bel hb)
  have HW14 := hide (bc (unhide HW13) hb)
  clear hb T2k T5 HMk4 HW13
  go_wp2_with fail
  refine (tn_held u4 q4 N c4 1 _ hN (by omega) (by omega) (fun h => ⟨(unhide HMk5 h).1, (unhide HMk5 h).2.ints⟩)).mono ?_
  rintro e W15 ⟨rfl, hs⟩
  have HW15 := hide ((unhide HW14).trans hs.bel)
  clear hs
  go_wp2_with fail
  go_ret
  exact ⟨rfl, unhide HW15⟩

theorem fnExactSway_big (u : Option Addr) (n cap : Nat) (wb : Nat) (w : World) (hn : 1048576 < n) (hm : n ≤ 9223372036854775807) :
    Calls Try.prog 5 #[.slice u n cap, .float .f64 wb] w fun e w' => e = .returned (.bool true) ∧ Below w.heap.size w w' := by
  go_enter Try.func5, Try.ntmps5
  go_wp2_with fail
  refine (ms_sz_out u n cap 1048576 w (by omega) (by omega) (by omega) hm).mono ?_
  rintro e w' ⟨rfl, hq⟩
  rw [hq]
  clear hq
  go_wp2_with fail
  go_ret
  exact ⟨rfl, Below.refl _ _⟩
theorem fls_of {w : World} {u : Option Addr} {n m : Nat} {L : List Nat} (hl : L.length = n * m) (h : n ≠ 0 → ∃ p po, u = some ⟨p, po, none⟩ ∧ p < w.heap.size ∧ FltsAt .f64 w p po L) : ∃ p po, Fls .f64 w u p po L := by
  by_cases hn : n = 0
  · refine ⟨0, 0, fun h0 => ?_⟩
    subst hn
    rw [Nat.zero_mul] at hl
    exact absurd (List.eq_nil_of_length_eq_zero hl) h0
  · obtain ⟨p, po, h1, h2, h3⟩ := h hn
    exact ⟨p, po, fun _ => ⟨h1, h2, h3⟩⟩
theorem swN_le (n : Nat) (L : List Nat) (wb : Nat) : swN n L wb ≤ n := by unfold swN; split <;> omega
theorem fnExactSway_walk (u : Option Addr) (n cap : Nat) (L : List Nat) (wb : Nat) (w : World) (hn : n ≤ 9223372036854775807) (hl : L.length = n * 3) (hu : n ≠ 0 → ∃ p po, u = some ⟨p, po, none⟩ ∧ p < w.heap.size ∧ FltsAt .f64 w p po L) (_ : (Lit.float .f64 wb).wf = true) :
    Calls Try.prog 5 #[.slice u n cap, .float .f64 wb] w fun e w' => e = .returned (.bool true) ∧ Below w.heap.size w w' := by
  by_cases hb : 1048576 < n
  · exact fnExactSway_big u n cap wb w hb hn
  have hnn : n ≤ 1048576 := by omega
  obtain ⟨p, po, hf⟩ := fls_of hl hu
  exact fnExactSway_core u n cap (swN n L wb) L (swF n L wb) (swC n L wb) wb w hnn (Nat.le_trans (swN_le n L wb) hnn) (hide hl)
    (hide fun W hW => ms_to u p po n cap L W hl hnn (hf.bel hW))
    (hide fun g W hg => swayM_any (some ⟨g, 0, none⟩) g 0 n n L wb W hl hn hg.fls)
    (hide fun g W hg => swayP_any (some ⟨g, 0, none⟩) g 0 n n L wb W hl hn hg.fls)
theorem fnExactSway_own : ownKnob Try.prog.godebug = none := by kernel_rfl
theorem fnExactSway_laidOut : laidOutB Try.prog = true := by kernel_rfl

set_option maxRecDepth 100000 in
theorem fnExactSway_lifted (os : Os) (started : os.Started) (H : Type) (enc : TypeId × Value → H) :
    ReturnsInHanded {} Try.checked os 5 .any (Rows.fnExactSwaySpec.pre6 enc Try.prog Try.f5 Rows.fnExactSwayRow.domain false) (Rows.fnExactSwaySpec.post enc Try.prog Try.f5 false true false false) := by
  refine returnsInHanded_of_change (C := Try.checked) fnExactSway_own started (by kernel_rfl) Try.func5
    (ChangeSpec.witness6 (enc := enc) (C := Try.checked) false ⟨#[], #[.slice none 0 0, .float .f64 0], []⟩ 8 (by kernel_rfl) (by kernel_rfl) (by kernel_rfl) (by kernel_rfl)) ?_
  intro W base args ds gs before hval0 hW hcnd _
  have hval : ∀ (j : Nat) t v, Try.f5.params[j]? = some t → args[j]? = some v → Value.okWide Try.prog W .any base t v := hval0
  have hW' := hW
  obtain ⟨p, q, hA0, hV, rfl, hfz, hnd⟩ := hW
  have hA : DataW.TrodAll enc Try.prog W 0 (fun _ => true) true Try.f5.params.toList args.toList ds p := hA0
  rw [Try.params5] at hA hval
  obtain ⟨v0, vs0, d0, ds0, p0, q0, hargs, rfl, rfl, h0, r0⟩ := trodAll_cons hA
  obtain ⟨v1, vs1, d1, ds1, p1, q1, rfl, rfl, rfl, h1, r1⟩ := trodAll_cons r0
  obtain ⟨rfl, rfl, rfl⟩ := trodAll_nil r1
  obtain rfl : args = #[v0, v1] := by cases args; simp_all
  obtain ⟨rfl, rfl⟩ := trodVars_none hV
  obtain ⟨a0, len0, cap0, rfl⟩ := okWide_slice Try.underlying45 (hval 0 45 v0 rfl rfl)
  have k0 := h0
  have lt0 : ∀ x ∈ p0, x.block < W.heap.size := by obtain ⟨m, hm⟩ := k0; exact DataW.trod_lt m _ _ _ hm
  obtain ⟨z0, b0, l0, w0⟩ : ∃ L : List Nat, len0 ≤ 9223372036854775807 ∧ L.length = len0 * 3 ∧ (len0 ≠ 0 → ∃ p po, a0 = some ⟨p, po, none⟩ ∧ p < W.heap.size ∧ FltsAt .f64 W p po L) := by
    obtain ⟨fuel, hf⟩ := h0
    obtain ⟨u, n, cap, L, hcs, hn, hl, hx⟩ := open_fstructs Try.underlying45 Try.underlying85 (k := 3) (by kernel_rfl) (by decide) rfl (by kernel_rfl) hf
    simp [Value.cells] at hcs
    obtain ⟨rfl, rfl, rfl⟩ := hcs
    exact ⟨L, hn, hl, hx⟩
  obtain ⟨a1, rfl, rfl, rfl, w1⟩ := open_float Try.underlying28 (hval 1 28 v1 rfl rfl) h1
  clear hA0 hval0
  refine (fnExactSway_walk a0 len0 cap0 z0 a1 W b0 l0 w0 w1).mono fun e W' ⟨he, bel⟩ => ?_
  subst he
  exact ⟨_, rfl, _, _, _, [], _, [], hW', trodAll_mk1 (shut_bool Try.underlying4 _), (trodAll_cons_mk (Below.trod fnExactSway_laidOut (by kernel_rfl) (of_decide_eq_true (by kernel_rfl)) k0 bel lt0) (trodAll_cons_mk (shut_float Try.underlying28 w1) trodAll_mk0)), rfl, bel.frame _, fun h => by cases h⟩

theorem fnExactSway_over : Rows.fnExactSwayRow.holds Try.pinned (OpenSpec.ofChange Rows.fnExactSwaySpec) :=
  OpenClaim.holds_of_wide 5 Try.f5 rfl rfl rfl rfl rfl rfl rfl ⟨rfl, rfl, rfl, rfl, rfl⟩ rfl rfl rfl rfl rfl (by kernel_rfl) Try.func5 (by kernel_rfl)
    (of_decide_eq_true (by kernel_rfl)) (by unfold Func.isWrapper; first | (rw [if_pos (by decide +kernel)]; kernel_rfl) | (rw [if_neg (by decide +kernel)]; exact ⟨rfl, rfl⟩))
    (fun os started H enc _ => fnExactSway_lifted os started H enc)

/-- The statement, as it was given. -/
theorem fnExactSway_holds : Rows.FnExactSwaySaid := fnExactSway_over
#print axioms fnExactSway_holds
end Go.Proofs.Ytgocgcnpgmamiaa
