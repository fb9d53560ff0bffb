/-
  The program's Calm answers as the model at all numbers and every share, right or not; it changes none; its numbers lie in memory of their own.
-/
import Derived.Test.YtgocgcnpgmamiaaFAns
import Derived.Test.YtgocgcnpgmamiaaS1Lw
import Derived.Test.YtgocgcnpgmamiaaCaM
import Derived.Test.YtgocgcnpgmamiaaFOpen
import Derived.Test.YtgocgcnpgmamiaaChecked
import Derived.Test.YtgocgcnpgmamiaaRows
import Derived.ChangeOld
import Derived.Lib.SmallJoins
namespace Go.Proofs.Ytgocgcnpgmamiaa
open Go.ChangeShapes Go.WideShapes Go.ChangeAt Go.RowKit Go.Joins
set_option linter.unusedVariables false
set_option linter.unusedSimpArgs false

set_option maxHeartbeats 4000000 in
set_option maxRecDepth 100000 in
theorem fnExactCalm_core (u : Option Addr) (n cap N : Nat) (L : List Nat) (F : List (Option Nat)) (C : Int) (sh : Nat) (w : World) (hnn : n ≤ 1048576) (hN : N ≤ 1048576) (HL : Hid (L.length = n))
    (HT : Hid (∀ W, Below w.heap.size w W → Calls Try.prog 28 #[.slice u n cap] W fun e w' => (∃ g, e = .returned (.slice (some ⟨g, 0, none⟩) n n) ∧ W.heap.size ≤ g ∧ fblk .f64 w' g 28 L) ∧ Below W.heap.size W w'))
    (HM : Hid (∀ (g : Nat) (W : World), fblk .f64 W g 28 L → Calls Try.prog 31 #[.slice (some ⟨g, 0, none⟩) n n, .float .f32 sh] W fun e w' => (∃ v, e = .returned (.tuple #[v, .int .i64 C]) ∧ FAns .f32 w' W.heap.size 41 1 v N F) ∧ Below W.heap.size W w'))
    (HP : Hid (∀ (g : Nat) (W : World), fblk .f64 W g 28 L → Calls Try.prog 19 #[.slice (some ⟨g, 0, none⟩) n n, .float .f32 sh] W fun e w' => (∃ v, e = .returned (.tuple #[v, .int .i64 C]) ∧ FAns .f32 w' W.heap.size 41 1 v N F) ∧ Below W.heap.size W w')) :
    Calls Try.prog 7 #[.slice u n cap, .float .f32 sh] w fun e w' => e = .returned (.bool true) ∧ Below w.heap.size w w' := by
  have HE := hide (fun (g g' : Nat) (W : World) (hg : fblk .f64 W g 28 L) (hg' : fblk .f64 W g' 28 L) => f1_same (some ⟨g, 0, none⟩) (some ⟨g', 0, none⟩) g 0 g' 0 n n n L L W (unhide HL) rfl (by omega) hg.fls hg'.fls)
  have HFE := hide (fun (u v : Option Addr) (p q cu cv : Nat) (R M : List Nat) (W : World) (hl : R.length = N * 1) (hm : M.length = N * 1) (hR : R.map (Fv .f32) = F) (hM : M.map (Fv .f32) = F) (hu : Ta .f32 41 1 W u p N cu R) (hv : Ta .f32 41 1 W v q N cv M) => s1_same u v p 0 q 0 N cu cv R M W (by omega) (hR.trans hM.symm) (by omega) (hu.fls hl) (hv.fls hm))
  have cc : (C != C) = false := by simp
  have n0 : (0 : Int) ≤ (n : Int) := Int.natCast_nonneg _
  have N0 : (0 : Int) ≤ (N : Int) := Int.natCast_nonneg _
  have z1 : decide ((1 : Int) + (n : Int) < 0) = false := decide_eq_false (by omega)
  have z2 : decide ((1 : Int) + (N : Int) < 0) = false := decide_eq_false (by omega)
  have z3 : (((1 : Int) + (N : Int)) != (1 + (N : Int))) = false := by simp
  have zz : decide ((1048576 : Int) < (n : Int)) = false := decide_eq_false (by omega)
  go_enter Try.func7, Try.ntmps7
  go_wp2_with fail
  refine (unhide HT _ (Below.refl _ _)).mono ?_
  rintro e W1 ⟨⟨g1, rfl, hg1, hk1⟩, hb1⟩
  have HW1 := hide hb1
  have HK1 := hide hk1
  clear hg1 hk1 hb1
  go_wp2_with fail
  refine (unhide HM g1 _ (unhide HK1)).mono ?_
  rintro e W2 ⟨⟨v, rfl, hv⟩, hb⟩
  obtain ⟨u2, q2, c2, R2, rfl, f2, l2, t2, hq2⟩ := hv.get
  have HW2 := hide (bc (unhide HW1) hb)
  have T2 := hide t2
  have F2 := hide f2
  have L2 := hide l2
  clear hv t2 f2 l2 hb hq2 HK1 HW1
  go_wp2_with fail
  refine (unhide HT _ (unhide HW2)).mono ?_
  rintro e W3 ⟨⟨g3, rfl, hg3, hk3⟩, hb⟩
  have T2a := hide ((unhide T2).bel hb)
  have D23 : Hid (N ≠ 0 → q2 < g3) := hide fun h => Nat.lt_of_lt_of_le ((unhide T2 h).2.lt' h) hg3
  have HW3 := hide (bc (unhide HW2) hb)
  have HX := hide hk3
  have G3 := hide (Nat.le_trans (unhide HW2).size hg3)
  clear hg3 hk3 hb T2 HW2
  go_wp2_with fail
  refine (unhide HP g3 _ (unhide HX)).mono ?_
  rintro e W4 ⟨⟨v, rfl, hv⟩, hb⟩
  obtain ⟨u4, q4, c4, R4, rfl, f4, l4, t4, hq4⟩ := hv.get
  have T2b := hide ((unhide T2a).bel hb)
  have D24 : Hid (N ≠ 0 → q2 < q4) := hide fun h => Nat.lt_of_lt_of_le ((unhide T2a h).2.lt' h) hq4
  have D34 : Hid (N ≠ 0 → g3 < q4) := hide fun h => Nat.lt_of_lt_of_le (unhide HX).lt hq4
  have B4 : Hid (w.heap.size ≤ q4) := hide (Nat.le_trans (unhide HW3).size hq4)
  have HXa := hide ((unhide HX).bel hb)
  have HW4 := hide (bc (unhide HW3) hb)
  have T4 := hide t4
  have F4 := hide f4
  have L4 := hide l4
  clear hv t4 f4 l4 hb hq4 T2a HX HW3
  go_wp2_with fail
  refine (unhide HFE _ _ _ _ _ _ _ _ _ (unhide L4) (unhide L2) (unhide F4) (unhide F2) (unhide T4) (unhide T2b)).mono ?_
  rintro e W5 ⟨rfl, hb⟩
  have T2c := hide ((unhide T2b).bel hb)
  have T4a := hide ((unhide T4).bel hb)
  have HXb := hide ((unhide HXa).bel hb)
  have HW5 := hide (bc (unhide HW4) hb)
  clear hb T2b T4 HXa HW4
  go_wp2_with fail
  refine (unhide HT _ (unhide HW5)).mono ?_
  rintro e W6 ⟨⟨g6, rfl, hg6, hk6⟩, hb⟩
  have T2d := hide ((unhide T2c).bel hb)
  have T4b := hide ((unhide T4a).bel hb)
  have HXc := hide ((unhide HXb).bel hb)
  have HW6 := hide (bc (unhide HW5) hb)
  have HK6 := hide hk6
  clear hb T2c T4a HXb HW5 hg6 hk6
  go_wp2_with fail
  refine (unhide HE g3 g6 _ (unhide HXc) (unhide HK6)).mono ?_
  rintro e W7 ⟨rfl, hb⟩
  have T2e := hide ((unhide T2d).bel hb)
  have T4c := hide ((unhide T4b).bel hb)
  have HXd := hide ((unhide HXc).bel hb)
  have HW7 := hide (bc (unhide HW6) hb)
  clear hb T2d T4b HXc HW6 HK6
  go_wp2_with fail
  refine (f1_mark (some ⟨g3, 0, none⟩) g3 n n 0 L 1 _ (unhide HL) hnn (by omega) (by omega) ((unhide HXd).ta (by have := unhide HL; omega) hnn)).mono ?_
  rintro e W8 ⟨rfl, _, hb⟩
  have T2f := hide ((unhide T2e).but hb fun h => Nat.ne_of_lt (unhide D23 h))
  have T4d := hide ((unhide T4c).but hb fun h => Nat.ne_of_gt (unhide D34 h))
  have HW8 := hide ((unhide HW7).trans (hb.bel (unhide G3)))
  clear hb T2e T4c HXd HW7
  go_wp2_with fail
  refine (unhide HFE _ _ _ _ _ _ _ _ _ (unhide L4) (unhide L2) (unhide F4) (unhide F2) (unhide T4d) (unhide T2f)).mono ?_
  rintro e W9 ⟨rfl, hb⟩
  have T2g := hide ((unhide T2f).bel hb)
  have T4e := hide ((unhide T4d).bel hb)
  have HW9 := hide (bc (unhide HW8) hb)
  clear hb T2f T4d HW8
  go_wp2_with fail
  refine (s1_mark u4 q4 N c4 0 R4 1 _ (by have := unhide L4; omega) hN (by omega) (by omega) (unhide T4e)).mono ?_
  rintro e W10 ⟨rfl, hm, hb⟩
  have T2h := hide ((unhide T2g).but hb fun h => Nat.ne_of_lt (unhide D24 h))
  have HMk : Hid (Ta .f32 41 1 W10 u4 q4 N c4 (fmarks .f32 1 (N))) := hide fun h => ⟨(unhide T4e h).1, hm h⟩
  have HW10 : Hid (Below w.heap.size w W10) := hide ((unhide HW9).trans (hb.bel (unhide B4)))
  clear hb hm T2g T4e HW9
  go_wp2_with fail
  refine (s1_held u4 q4 N c4 1 _ hN (by omega) (by omega) (fun h => ⟨(unhide HMk h).1, (unhide HMk h).2.ints⟩)).mono ?_
  rintro e W11 ⟨rfl, hs⟩
  have T2i := hide ((unhide T2h).bel hs.bel)
  have HMk2 := hide ((unhide HMk).bel hs.bel)
  have HW11 := hide ((unhide HW10).trans hs.bel)
  clear hs T2h HMk HW10
  go_wp2_with fail
  refine (unhide HT _ (unhide HW11)).mono ?_
  rintro e W12 ⟨⟨g12, rfl, hg12, hk12⟩, hb⟩
  have T2j := hide ((unhide T2i).bel hb)
  have HMk3 := hide ((unhide HMk2).bel hb)
  have HW12 := hide (bc (unhide HW11) hb)
  have HK12 := hide hk12
  clear hb T2i HMk2 HW11 hg12 hk12
  go_wp2_with fail
  refine (unhide HP g12 _ (unhide HK12)).mono ?_
  rintro e W13 ⟨⟨v, rfl, hv⟩, hb⟩
  obtain ⟨u5, q5, c5, R5, rfl, f5, l5, t5, hq5⟩ := hv.get
  have T2k := hide ((unhide T2j).bel hb)
  have HMk4 := hide ((unhide HMk3).bel hb)
  have HW13 := hide (bc (unhide HW12) hb)
  have T5 := hide t5
  have F5 := hide f5
  have L5 := hide l5
  clear hv t5 f5 l5 hb hq5 T2j HMk3 HW12 HK12
  go_wp2_with fail
  refine (unhide HFE _ _ _ _ _ _ _ _ _ (unhide L5) (unhide L2) (unhide F5) (unhide F2) (unhide T5) (unhide T2k)).mono ?_
  rintro e W14 ⟨rfl, hb⟩
  have HMk5 := hide ((unhide HMk4).bel hb)
  have HW14 := hide (bc (unhide HW13) hb)
  clear hb T2k T5 HMk4 HW13
  go_wp2_with fail
  refine (s1_held u4 q4 N c4 1 _ hN (by omega) (by omega) (fun h => ⟨(unhide HMk5 h).1, (unhide HMk5 h).2.ints⟩)).mono ?_
  rintro e W15 ⟨rfl, hs⟩
  have HW15 := hide ((unhide HW14).trans hs.bel)
  clear hs
  go_wp2_with fail
  go_ret
  exact ⟨rfl, unhide HW15⟩

theorem fnExactCalm_big (u : Option Addr) (n cap : Nat) (sh : Nat) (w : World) (hn : 1048576 < n) :
    Calls Try.prog 7 #[.slice u n cap, .float .f32 sh] w fun e w' => e = .returned (.bool true) ∧ Below w.heap.size w w' := by
  have zz : decide ((1048576 : Int) < (n : Int)) = true := decide_eq_true (by omega)
  go_enter Try.func7, Try.ntmps7
  go_wp2_with fail
  go_ret
  exact ⟨rfl, Below.refl _ _⟩
theorem fls_of {w : World} {u : Option Addr} {n m : Nat} {L : List Nat} (hl : L.length = n * m) (h : n ≠ 0 → ∃ p po, u = some ⟨p, po, none⟩ ∧ p < w.heap.size ∧ FltsAt .f64 w p po L) : ∃ p po, Fls .f64 w u p po L := by
  by_cases hn : n = 0
  · refine ⟨0, 0, fun h0 => ?_⟩
    subst hn
    rw [Nat.zero_mul] at hl
    exact absurd (List.eq_nil_of_length_eq_zero hl) h0
  · obtain ⟨p, po, h1, h2, h3⟩ := h hn
    exact ⟨p, po, fun _ => ⟨h1, h2, h3⟩⟩
theorem caN_le (n : Nat) (L : List Nat) (sh : Nat) : caN n L sh ≤ n := by unfold caN; split <;> omega
theorem fnExactCalm_walk (u : Option Addr) (n cap : Nat) (L : List Nat) (sh : Nat) (w : World) (hn : n ≤ 9223372036854775807) (hl : L.length = n) (hu : n ≠ 0 → ∃ p po, u = some ⟨p, po, none⟩ ∧ p < w.heap.size ∧ FltsAt .f64 w p po L) (_ : (Lit.float .f32 sh).wf = true) :
    Calls Try.prog 7 #[.slice u n cap, .float .f32 sh] w fun e w' => e = .returned (.bool true) ∧ Below w.heap.size w w' := by
  by_cases hb : 1048576 < n
  · exact fnExactCalm_big u n cap sh w hb
  have hnn : n ≤ 1048576 := by omega
  obtain ⟨p, po, hf⟩ := fls_of (m := 1) (by omega) hu
  exact fnExactCalm_core u n cap (caN n L sh) L (caF n L sh) (caC n L sh) sh w hnn (Nat.le_trans (caN_le n L sh) hnn) (hide hl)
    (hide fun W hW => f1_to u p po n cap L W hl hnn (hf.bel hW))
    (hide fun g W hg => caM_any (some ⟨g, 0, none⟩) g 0 n n L sh W hl hn hg.fls)
    (hide fun g W hg => caP_any (some ⟨g, 0, none⟩) g 0 n n L sh W hl hn hg.fls)
theorem fnExactCalm_own : ownKnob Try.prog.godebug = none := by kernel_rfl
theorem fnExactCalm_laidOut : laidOutB Try.prog = true := by kernel_rfl

set_option maxRecDepth 100000 in
theorem fnExactCalm_lifted (os : Os) (started : os.Started) (H : Type) (enc : TypeId × Value → H) :
    ReturnsInHanded {} Try.checked os 7 .any (Rows.fnExactCalmSpec.pre6 enc Try.prog Try.f7 Rows.fnExactCalmRow.domain false) (Rows.fnExactCalmSpec.post enc Try.prog Try.f7 false true false false) := by
  refine returnsInHanded_of_change (C := Try.checked) fnExactCalm_own started (by kernel_rfl) Try.func7
    (ChangeSpec.witness6 (enc := enc) (C := Try.checked) false ⟨#[], #[.slice none 0 0, .float .f32 0], []⟩ 8 (by kernel_rfl) (by kernel_rfl) (by kernel_rfl) (by kernel_rfl)) ?_
  intro W base args ds gs before hval0 hW hcnd _
  have hval : ∀ (j : Nat) t v, Try.f7.params[j]? = some t → args[j]? = some v → Value.okWide Try.prog W .any base t v := hval0
  have hW' := hW
  obtain ⟨p, q, hA0, hV, rfl, hfz, hnd⟩ := hW
  have hA : DataW.TrodAll enc Try.prog W 0 (fun _ => true) true Try.f7.params.toList args.toList ds p := hA0
  rw [Try.params7] at hA hval
  obtain ⟨v0, vs0, d0, ds0, p0, q0, hargs, rfl, rfl, h0, r0⟩ := trodAll_cons hA
  obtain ⟨v1, vs1, d1, ds1, p1, q1, rfl, rfl, rfl, h1, r1⟩ := trodAll_cons r0
  obtain ⟨rfl, rfl, rfl⟩ := trodAll_nil r1
  obtain rfl : args = #[v0, v1] := by cases args; simp_all
  obtain ⟨rfl, rfl⟩ := trodVars_none hV
  obtain ⟨a0, len0, cap0, rfl⟩ := okWide_slice Try.underlying35 (hval 0 35 v0 rfl rfl)
  have k0 := h0
  have lt0 : ∀ x ∈ p0, x.block < W.heap.size := by obtain ⟨m, hm⟩ := k0; exact DataW.trod_lt m _ _ _ hm
  obtain ⟨z0, b0, l0, w0⟩ : ∃ L : List Nat, len0 ≤ 9223372036854775807 ∧ L.length = len0 ∧ (len0 ≠ 0 → ∃ p po, a0 = some ⟨p, po, none⟩ ∧ p < W.heap.size ∧ FltsAt .f64 W p po L) := by
    obtain ⟨fuel, hf⟩ := h0
    obtain ⟨u, n, cap, L, hcs, hn, hl, hx⟩ := open_frow Try.underlying35 Try.underlying28 (by kernel_rfl) hf
    simp [Value.cells] at hcs
    obtain ⟨rfl, rfl, rfl⟩ := hcs
    exact ⟨L, hn, hl, hx⟩
  obtain ⟨a1, rfl, rfl, rfl, w1⟩ := open_float Try.underlying41 (hval 1 41 v1 rfl rfl) h1
  clear hA0 hval0
  refine (fnExactCalm_walk a0 len0 cap0 z0 a1 W b0 l0 w0 w1).mono fun e W' ⟨he, bel⟩ => ?_
  subst he
  exact ⟨_, rfl, _, _, _, [], _, [], hW', trodAll_mk1 (shut_bool Try.underlying4 _), (trodAll_cons_mk (Below.trod fnExactCalm_laidOut (by kernel_rfl) (of_decide_eq_true (by kernel_rfl)) k0 bel lt0) (trodAll_cons_mk (shut_float Try.underlying41 w1) trodAll_mk0)), rfl, bel.frame _, fun h => by cases h⟩

theorem fnExactCalm_over : Rows.fnExactCalmRow.holds Try.pinned (OpenSpec.ofChange Rows.fnExactCalmSpec) :=
  OpenClaim.holds_of_wide 7 Try.f7 rfl rfl rfl rfl rfl rfl rfl ⟨rfl, rfl, rfl, rfl, rfl⟩ rfl rfl rfl rfl rfl (by kernel_rfl) Try.func7 (by kernel_rfl)
    (of_decide_eq_true (by kernel_rfl)) (by unfold Func.isWrapper; first | (rw [if_pos (by decide +kernel)]; kernel_rfl) | (rw [if_neg (by decide +kernel)]; exact ⟨rfl, rfl⟩))
    (fun os started H enc _ => fnExactCalm_lifted os started H enc)

/-- The statement, as it was given. -/
theorem fnExactCalm_holds : Rows.FnExactCalmSaid := fnExactCalm_over
#print axioms fnExactCalm_holds
end Go.Proofs.Ytgocgcnpgmamiaa
