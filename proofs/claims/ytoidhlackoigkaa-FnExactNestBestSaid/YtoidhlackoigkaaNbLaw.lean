/-
  The program's NestBest answers as the model at every width and all plates, right or not; it changes none; its spots lie in memory of their own.
-/
import Derived.Test.YtoidhlackoigkaaNbPr
import Derived.Test.YtoidhlackoigkaaNbMo
import Derived.Test.YtoidhlackoigkaaNsKit
import Derived.Test.YtoidhlackoigkaaOpenRows
import Derived.Test.YtoidhlackoigkaaChecked
import Derived.Test.YtoidhlackoigkaaRows
import Derived.ChangeOld
import Derived.Lib.SmallJoins
namespace Go.Proofs.Ytoidhlackoigkaa
open Go.ChangeShapes Go.WideShapes Go.ChangeAt Go.RowKit Go.Joins
set_option linter.unusedVariables false
set_option linter.unusedSimpArgs false

theorem nbMA (Wd : Int) (u : Option Addr) (p po n c : Nat) (P : List Pl) (w : World) (hl : P.length = n) (hn : n ≤ 9223372036854775807) (hu : Pls w u p po P) :
    Calls Try.prog 10 #[.int .i64 Wd, .slice u n c] w fun e w' => (∃ v L, NbA Wd P L ∧ e = .returned (.tuple #[v, .int .i64 (hgtOf L), .int .i64 (nbCode Wd P)]) ∧ w'.ownsRow w.heap.size 61 4 v L.length (flatG spC L)) ∧ Below w.heap.size w w' := by
  by_cases hc : nsCode Wd P = 0
  · by_cases h5 : 5 < n
    · have hk : nbCode Wd P = 10 := by unfold nbCode; rw [if_pos hc, hl, if_pos h5]
      refine (nbM_many Wd u p po n c P w hl hn hu hc h5).mono ?_
      rintro e w' ⟨⟨v, rfl, h1⟩, hb⟩
      exact ⟨⟨v, [], by unfold NbA; rw [if_neg (by rw [hk]; decide)], by rw [hk]; rfl, h1⟩, hb⟩
    · have hk : nbCode Wd P = 0 := by unfold nbCode; rw [if_pos hc, hl, if_neg h5]
      refine (nbM_good Wd u p po n c P w hl hu hc (by omega)).mono ?_
      rintro e w' ⟨⟨v, L, rfl, h1, h2⟩, hb⟩
      rw [← hl] at h2
      exact ⟨⟨v, L, by unfold NbA; rw [if_pos hk]; exact ⟨h2, by rw [best_len h2]; omega⟩, by rw [hk], h1⟩, hb⟩
  · have hk : nbCode Wd P = nsCode Wd P := by unfold nbCode; rw [if_neg hc]
    refine (nbM_bad Wd u p po n c P w hl hn hu hc).mono ?_
    rintro e w' ⟨⟨v, rfl, h1⟩, hb⟩
    exact ⟨⟨v, [], by unfold NbA; rw [if_neg (by rw [hk]; exact hc)], by rw [hk]; rfl, h1⟩, hb⟩
theorem nbPA (Wd : Int) (u : Option Addr) (p po n c : Nat) (P : List Pl) (w : World) (hl : P.length = n) (hn : n ≤ 9223372036854775807) (hu : Pls w u p po P) :
    Calls Try.prog 9 #[.int .i64 Wd, .slice u n c] w fun e w' => (∃ L u' c' g', NbA Wd P L ∧ e = .returned (.tuple #[.slice u' L.length c', .int .i64 (hgtOf L), .int .i64 (nbCode Wd P)]) ∧ Prw w' w.heap.size L.length g' u' (flatG spC L)) ∧ Below w.heap.size w w' := by
  by_cases hc : nsCode Wd P = 0
  · by_cases h5 : 5 < n
    · have hk : nbCode Wd P = 10 := by unfold nbCode; rw [if_pos hc, hl, if_pos h5]
      refine (nbP_many Wd u p po n c P w hl hn hu hc h5).mono ?_
      rintro e w' ⟨rfl, hb⟩
      exact ⟨⟨[], none, 0, 0, by unfold NbA; rw [if_neg (by rw [hk]; decide)], by rw [hk]; rfl, fun h => absurd rfl h⟩, hb⟩
    · have hk : nbCode Wd P = 0 := by unfold nbCode; rw [if_pos hc, hl, if_neg h5]
      refine (nbP_good Wd u p po n c P w hl hu hc (by omega)).mono ?_
      rintro e w' ⟨⟨g, L, rfl, h1, h4, h3, h2⟩, hb⟩
      rw [← hl] at h2
      exact ⟨⟨L, some ⟨g, 0, none⟩, n, g, by unfold NbA; rw [if_pos hk]; exact ⟨h2, by rw [best_len h2]; omega⟩, by rw [hk, h3], fun _ => ⟨rfl, h1, h4⟩⟩, hb⟩
  · have hk : nbCode Wd P = nsCode Wd P := by unfold nbCode; rw [if_neg hc]
    refine (nbP_bad Wd u p po n c P w hl hn hu hc).mono ?_
    rintro e w' ⟨rfl, hb⟩
    exact ⟨⟨[], none, 0, 0, by unfold NbA; rw [if_neg (by rw [hk]; exact hc)], by rw [hk]; rfl, fun h => absurd rfl h⟩, hb⟩
set_option maxHeartbeats 8000000 in
set_option maxRecDepth 100000 in
theorem fnExactNestBest_walk (Wd : Int) (a0 : Option Addr) (n cap0 : Nat) (z0 : List Int) (w : World) (_ : (Wd : Int) = Wd) (b0 : n ≤ 9223372036854775807) (l0 : z0.length = n * 2) (w0 : n ≠ 0 → ∃ p po, a0 = some ⟨p, po, none⟩ ∧ p < w.heap.size ∧ IntsAt w p po z0) :
    Calls Try.prog 5 #[.int .i64 Wd, .slice a0 n cap0] w fun e w' => e = .returned (.bool true) ∧ Below w.heap.size w w' := by
  obtain ⟨P, hP, rfl⟩ := flatP_of n z0 l0
  obtain ⟨p0, o0, i0⟩ : ∃ p po, n ≠ 0 → a0 = some ⟨p, po, none⟩ ∧ p < w.heap.size ∧ IntsAt w p po (flatP P) := by
    by_cases hn : n = 0
    · exact ⟨0, 0, fun h => absurd hn h⟩
    · obtain ⟨p, po, h⟩ := w0 hn
      exact ⟨p, po, fun _ => h⟩
  have n0 : (0 : Int) ≤ (n : Int) := Int.natCast_nonneg _
  by_cases hn : 1048576 < n
  · have HZ := hide (fun X => pl_sz_out a0 n cap0 1048576 X (by omega) (by omega) (by omega) b0)
    clear l0 w0 i0
    go_enter Try.func5, Try.ntmps5
    go_wp2_with fail
    refine (unhide HZ _).mono ?_
    rintro e w' ⟨rfl, rfl⟩
    go_wp2_with fail
    go_ret
    exact ⟨rfl, Below.refl _ _⟩
  have HZ := hide (fun X => pl_sz_in a0 n cap0 1048576 X (by omega) (by omega))
  have tz : decide ((1048576 : Int) - (n : Int) < 0) = false := decide_eq_false (by omega)
  have HT0 := hide (fun W (hW : Below w.heap.size w W) => pl_to a0 p0 o0 n cap0 (flatP P) W l0 (by omega) (fun h => ⟨(i0 h).1, Nat.lt_of_lt_of_le (i0 h).2.1 hW.size, (i0 h).2.2.below hW (i0 h).2.1⟩))
  have HM := hide (fun (g : Nat) (W : World) (k : iblk W g 31 (flatP P)) => nbMA Wd (some ⟨g, 0, none⟩) g 0 n n P W hP b0 (fun _ => ⟨rfl, k.lt, k.ints⟩))
  have HP := hide (fun (g : Nat) (W : World) (k : iblk W g 31 (flatP P)) => nbPA Wd (some ⟨g, 0, none⟩) g 0 n n P W hP b0 (fun _ => ⟨rfl, k.lt, k.ints⟩))
  have HE0 := hide (fun (g g' : Nat) (W : World) (k : iblk W g 31 (flatP P)) (k' : iblk W g' 31 (flatP P)) => pl_same (some ⟨g, 0, none⟩) (some ⟨g', 0, none⟩) g 0 g' 0 n n n (flatP P) W l0 (by omega) (fun _ => ⟨rfl, k.lt, k.ints⟩) (fun _ => ⟨rfl, k'.lt, k'.ints⟩))
  have HK0 := hide (fun (g : Nat) (W : World) (k : iblk W g 31 (flatP P)) => pl_mark (some ⟨g, 0, none⟩) g n n (flatP P) 1 W l0 (by omega) (by omega) (by omega) (fun _ => ⟨rfl, k⟩))
  have HUQ := hide (fun L L' (h : NbA Wd P L) (h' : NbA Wd P L') => nbA_uniq h h')
  have HBD := hide (fun L (h : NbA Wd P L) => nbA_bd h)
  generalize nbCode Wd P = KC at *
  have sk : (KC != KC) = false := by simp
  have t3 : decide ((1 : Int) + (n : Int) * 2 < 0) = false := decide_eq_false (by omega)
  clear i0 l0 w0 hn hP
  go_enter Try.func5, Try.ntmps5
  go_wp2_with fail
  refine (unhide HZ _).mono ?_
  rintro e w' ⟨rfl, hq⟩
  rw [hq]
  clear hq
  go_wp2_with fail
  refine (unhide HT0 _ (Below.refl _ _)).mono ?_
  rintro e W0 ⟨⟨h0, rfl, hg0, k0⟩, hb0⟩
  have K0 := hide k0
  have B0 := hide hb0
  clear k0 hb0 hg0
  go_wp2_with fail
  refine (unhide HM _ _ (unhide K0)).mono ?_
  rintro e X2 ⟨⟨vw, L, hA, rfl, hrw⟩, hb2⟩
  have HA := hide hA
  have lb := unhide HBD L hA
  obtain ⟨uw, cw, rfl, _⟩ := own_form hrw
  generalize hM : L.length = M at *
  have HML := hide hM
  have HRW := hide (own_mono (B' := w.heap.size) hrw (unhide B0).size)
  have HOW := hide (own_ge hrw)
  have B2 := hide (bc (unhide B0) hb2)
  clear hb2 K0 hrw hA hM
  generalize hH : hgtOf L = HL at *
  have HHL := hide hH
  have sh : (HL != HL) = false := by simp
  clear hH
  go_wp2_with fail
  refine (unhide HT0 _ (unhide B2)).mono ?_
  rintro e X3 ⟨⟨g0, rfl, hg0, k0⟩, hb3⟩
  have HRW := hide (own_bel (unhide HRW) hb3)
  have K0 := hide k0
  have l0 := k0.lt
  have B3 := hide (bc (unhide B2) hb3)
  have HOW : Hid (∀ b, (Value.slice uw M cw).ownBlock = some b → b < g0) := hide (fun b e => Nat.lt_of_lt_of_le (unhide HOW b e).2 hg0)
  have g0w : w.heap.size ≤ g0 := Nat.le_trans (unhide B2).size hg0
  clear k0 hb3 hg0
  go_wp2_with fail
  refine (unhide HP _ _ (unhide K0)).mono ?_
  rintro e X5 ⟨⟨L', ug, cg, gg, hA', rfl, hrg⟩, hb5⟩
  obtain rfl := unhide HUQ L L' (unhide HA) hA'
  rw [unhide HML] at hrg ⊢
  rw [unhide HHL]
  have K0 := hide ((unhide K0).bel hb5)
  have HS : Hid (Bs w g0 X3.heap.size uw ug M cw gg L (flatG spC L) X5) := hide ⟨bc (unhide B3) hb5, own_bel (unhide HRW) hb5, hrg, unhide HOW, g0w, l0⟩
  have HQ := hide (fun (ua ub : Option Addr) (pa pb ca cb : Nat) (X : World) (h1 : Sps X ua pa 0 L) (h2 : Sps X ub pb 0 L) => st_same ua ub pa 0 pb 0 M ca cb L X (unhide HML) (by omega) h1 h2)
  have HKG := hide (fun (u : Option Addr) (gg cg B : Nat) (X : World) (hr : Prw X B M gg u (flatG spC L)) => st_mark u gg M cg L 1 X (unhide HML) (by omega) (by omega) (by omega) (fun h => ⟨(hr h).1, (hr h).2.1⟩))
  have HKZ := hide (fun (u : Option Addr) (g cg : Nat) (X : World) (hz : M = 0) => st_mark u g M cg L 1 X (unhide HML) (by omega) (by omega) (by omega) (fun h => absurd hz h))
  have HHG := hide (fun (u : Option Addr) (gg cg B : Nat) (X : World) (hr : Prw X B M gg u (mRow 1 M)) => st_held u gg M cg 1 X (by omega) (by omega) (by omega) (fun h => ⟨(hr h).1, (hr h).2.1⟩))
  have t4 : decide ((1 : Int) + (M : Int) * 4 < 0) = false := decide_eq_false (by omega)
  have t5 : ((1 : Int) + (M : Int) * 4 != 1 + (M : Int) * 4) = false := by simp
  clear hb5 hrg HRW HOW B0 B2 B3 g0w l0 hA'
  go_wp2_with fail
  refine (unhide HQ _ _ _ _ _ _ _ ((unhide HS).rg.sl (unhide HML)) (own_sl (unhide HS).rw (unhide HML))).mono ?_
  rintro e X6 ⟨rfl, hb6⟩
  have K0 := hide ((unhide K0).bel hb6)
  have HS := hide ((unhide HS).next hb6)
  clear hb6
  go_wp2_with fail
  refine (unhide HT0 _ (unhide HS).bel).mono ?_
  rintro e X7 ⟨⟨g4, rfl, hg4, k4⟩, hb7⟩
  have K0 := hide ((unhide K0).bel hb7)
  have HS := hide ((unhide HS).next hb7)
  have K4 := hide k4
  clear hb7 k4 hg4
  go_wp2_with fail
  refine (unhide HE0 _ _ _ (unhide K0) (unhide K4)).mono ?_
  rintro e X8 ⟨rfl, hb8⟩
  have K0 := hide ((unhide K0).bel hb8)
  have HS := hide ((unhide HS).next hb8)
  clear hb8 K4
  go_wp2_with fail
  refine (unhide HK0 _ _ (unhide K0)).mono ?_
  rintro e Y1 ⟨rfl, _, hbt⟩
  have HS := hide ((unhide HS).mk0 hbt)
  clear hbt K0
  go_wp2_with fail
  refine (unhide HQ _ _ _ _ _ _ _ ((unhide HS).rg.sl (unhide HML)) (own_sl (unhide HS).rw (unhide HML))).mono ?_
  rintro e Y3 ⟨rfl, hb6⟩
  have HS := hide ((unhide HS).next hb6)
  clear hb6
  have HKM : Hid (∀ cg, Calls Try.prog 17 #[.slice ug M cg, .int .i64 1] Y3 fun e w' => e = .returned (.int .i64 (1 + (M : Int) * 4)) ∧ Bs w g0 X3.heap.size uw ug M cw gg L (mRow 1 M) w') := hide (fun cg => by
    by_cases hz : M = 0
    · refine (unhide HKZ ug g0 cg Y3 hz).mono ?_
      rintro e w' ⟨h1, h2, h3⟩
      have h4 := (unhide HS).mk0 h3
      exact ⟨h1, h4.bel, h4.rw, fun h0 => absurd hz h0, h4.ow, h4.o0, h4.o1⟩
    · refine (unhide HKG ug gg cg _ Y3 (unhide HS).rg).mono ?_
      rintro e w' ⟨h1, h2, h3⟩
      exact ⟨h1, (unhide HS).mkG h3 (fun h => absurd h hz) h2⟩)
  clear HKG HKZ
  go_wp2_with fail
  refine (unhide HKM _).mono ?_
  rintro e Y4 ⟨rfl, hs4⟩
  have HS := hide hs4
  clear hs4 HKM
  go_wp2_with fail
  refine (unhide HHG _ _ _ _ _ (unhide HS).rg).mono ?_
  rintro e Y5 ⟨rfl, hbd⟩
  have HS := hide ((unhide HS).next hbd.bel)
  clear hbd
  go_wp2_with fail
  refine (unhide HT0 _ (unhide HS).bel).mono ?_
  rintro e Y6 ⟨⟨g6, rfl, hg6, k6⟩, hb7⟩
  have HS := hide ((unhide HS).next hb7)
  have K6 := hide k6
  clear hb7 k6 hg6
  go_wp2_with fail
  refine (unhide HP _ _ (unhide K6)).mono ?_
  rintro e Y8 ⟨⟨L', uh, ch, gh, hA', rfl, hrh⟩, hb8⟩
  obtain rfl := unhide HUQ L L' (unhide HA) hA'
  rw [unhide HML] at hrh ⊢
  rw [unhide HHL]
  have HS := hide ((unhide HS).next hb8)
  have HRH := hide (hrh.sl (unhide HML))
  clear hb8 hrh hA'
  go_wp2_with fail
  refine (unhide HQ _ _ _ _ _ _ _ (unhide HRH) (own_sl (unhide HS).rw (unhide HML))).mono ?_
  rintro e Y9 ⟨rfl, hb9⟩
  have HS := hide ((unhide HS).next hb9)
  clear hb9
  go_wp2_with fail
  refine (unhide HHG _ _ _ _ _ (unhide HS).rg).mono ?_
  rintro e Z0 ⟨rfl, hbd⟩
  have HS := hide ((unhide HS).next hbd.bel)
  clear hbd
  go_wp2_with fail
  go_ret
  exact ⟨rfl, (unhide HS).bel⟩

theorem fnExactNestBest_own : ownKnob Try.prog.godebug = none := by kernel_rfl
theorem fnExactNestBest_laidOut : laidOutB Try.prog = true := by kernel_rfl

set_option maxRecDepth 100000 in
theorem fnExactNestBest_lifted (os : Os) (started : os.Started) (H : Type) (enc : TypeId × Value → H) :
    ReturnsInHanded {} Try.checked os 5 .any (Rows.fnExactNestBestSpec.pre6 enc Try.prog Try.f5 Rows.fnExactNestBestRow.domain false) (Rows.fnExactNestBestSpec.post enc Try.prog Try.f5 false true false false) := by
  refine returnsInHanded_of_change (C := Try.checked) fnExactNestBest_own started (by kernel_rfl) Try.func5
    (ChangeSpec.witness6 (enc := enc) (C := Try.checked) false ⟨#[], #[.int .i64 0, .slice none 0 0], []⟩ 8 (by kernel_rfl) (by kernel_rfl) (by kernel_rfl) (by kernel_rfl)) ?_
  intro W base args ds gs before hval0 hW hcnd _
  have hval : ∀ (j : Nat) t v, Try.f5.params[j]? = some t → args[j]? = some v → Value.okWide Try.prog W .any base t v := hval0
  have hW' := hW
  obtain ⟨p, q, hA0, hV, rfl, hfz, hnd⟩ := hW
  have hA : DataW.TrodAll enc Try.prog W 0 (fun _ => true) true Try.f5.params.toList args.toList ds p := hA0
  rw [Try.params5] at hA hval
  obtain ⟨v0, vs0, d0, ds0, p0, q0, hargs, rfl, rfl, h0, r0⟩ := trodAll_cons hA
  obtain ⟨v1, vs1, d1, ds1, p1, q1, rfl, rfl, rfl, h1, r1⟩ := trodAll_cons r0
  obtain ⟨rfl, rfl, rfl⟩ := trodAll_nil r1
  obtain rfl : args = #[v0, v1] := by cases args; simp_all
  obtain ⟨rfl, rfl⟩ := trodVars_none hV
  obtain ⟨a0, rfl, rfl, rfl, w0⟩ := open_int Try.underlying3 (hval 0 3 v0 rfl rfl) h0
  obtain ⟨a1, len1, cap1, rfl⟩ := okWide_slice Try.underlying33 (hval 1 33 v1 rfl rfl)
  have k1 := h1
  have lt1 : ∀ x ∈ p1, x.block < W.heap.size := by obtain ⟨m, hm⟩ := k1; exact DataW.trod_lt m _ _ _ hm
  obtain ⟨z1, b1, l1, w1⟩ : ∃ L : List Int, len1 ≤ 9223372036854775807 ∧ L.length = len1 * 2 ∧ (len1 ≠ 0 → ∃ p po, a1 = some ⟨p, po, none⟩ ∧ p < W.heap.size ∧ IntsAt W p po L) := by
    obtain ⟨fuel, hf⟩ := h1
    obtain ⟨u, n, cap, L, hcs, hn, hl, hx⟩ := open_structs Try.underlying33 Try.underlying65 (k := 2) (by kernel_rfl) (by decide) rfl (by kernel_rfl) hf
    simp [Value.cells] at hcs
    obtain ⟨rfl, rfl, rfl⟩ := hcs
    exact ⟨L, hn, hl, hx⟩
  clear hA0 hval0
  refine (fnExactNestBest_walk a0 a1 len1 cap1 z1 W rfl b1 l1 w1).mono fun e W' ⟨he, bel⟩ => ?_
  subst he
  exact ⟨_, rfl, _, _, _, [], _, [], hW', trodAll_mk1 (shut_bool Try.underlying4 _), (trodAll_cons_mk (shut_int Try.underlying3 w0) (trodAll_cons_mk (Below.trod fnExactNestBest_laidOut (by kernel_rfl) (of_decide_eq_true (by kernel_rfl)) k1 bel lt1) trodAll_mk0)), rfl, bel.frame _, fun h => by cases h⟩

theorem fnExactNestBest_over : Rows.fnExactNestBestRow.holds Try.pinned (OpenSpec.ofChange Rows.fnExactNestBestSpec) :=
  OpenClaim.holds_of_wide 5 Try.f5 rfl rfl rfl rfl rfl rfl rfl ⟨rfl, rfl, rfl, rfl, rfl⟩ rfl rfl rfl rfl rfl (by kernel_rfl) Try.func5 (by kernel_rfl)
    (of_decide_eq_true (by kernel_rfl)) (by unfold Func.isWrapper; first | (rw [if_pos (by decide +kernel)]; kernel_rfl) | (rw [if_neg (by decide +kernel)]; exact ⟨rfl, rfl⟩))
    (fun os started H enc _ => fnExactNestBest_lifted os started H enc)

/-- The statement, as it was given. -/
theorem fnExactNestBest_holds : Rows.FnExactNestBestSaid := fnExactNestBest_over
#print axioms fnExactNestBest_holds
end Go.Proofs.Ytoidhlackoigkaa
