/-
  The program's ChainSafe answers as the model at every list of links, right or not, and at all bounds; it changes none; its numbers lie in memory of their own.
-/
import Derived.Test.YtlanpmdekbjgeaaSafeM
import Derived.Test.YtlanpmdekbjgeaaSafeP
import Derived.Test.YtlanpmdekbjgeaaLkMarks
import Derived.Test.YtlanpmdekbjgeaaLkRows
import Derived.Test.YtlanpmdekbjgeaaLkOpen
import Derived.Test.YtlanpmdekbjgeaaChecked
import Derived.Test.YtlanpmdekbjgeaaRows
import Derived.ChangeOld
import Derived.Lib.SmallJoins
namespace Go.Proofs.Ytlanpmdekbjgeaa
open Go.ChangeShapes Go.WideShapes Go.ChangeAt Go.RowKit Go.Joins
set_option linter.unusedVariables false
set_option linter.unusedSimpArgs false

theorem it_side {w w' : World} {q m : Nat} {F : List Int} (hm : F.length = m) (h : m = 0 → w' = w) (hb : But q w w') {B : Nat} (hB : m ≠ 0 → B ≤ q) : Below B w w' := by
  by_cases h0 : m = 0
  · rw [h h0]; exact Below.refl _ _
  · exact hb.bel (hB h0)

set_option maxHeartbeats 4000000 in
set_option maxRecDepth 100000 in
theorem fnExactChainSafe_core (u : Option Addr) (n cap p po m : Nat) (ls : List Lk) (low high : Int) (F : List Int) (A : Bool) (C : Int) (w : World) (hm : F.length = m) (hm40 : m ≤ 40) (hnn : n ≤ 1048576) (HL : Hid (ls.length = n))
    (HSZ : Hid (Calls Try.prog 19 #[.slice u n cap, .int .i64 1048576] w fun e w' => (∃ r : Int, e = .returned (.int .i64 r)) ∧ Below w.heap.size w w'))
    (HT : Hid (∀ (W : World), Below w.heap.size w W → Calls Try.prog 20 #[.slice u n cap] W fun e w' => (∃ g, e = .returned (.slice (some ⟨g, 0, none⟩) n n) ∧ W.heap.size ≤ g ∧ vblk w' g 30 (flat5 ls)) ∧ Below W.heap.size W w'))
    (HM : Hid (∀ (g : Nat) (W : World), vblk W g 30 (flat5 ls) → Calls Try.prog 23 #[.slice (some ⟨g, 0, none⟩) n n, .int .i64 low, .int .i64 high] W fun e w' => (∃ v q k, e = .returned (.tuple #[.bool A, .slice v m k, .int .i64 C]) ∧ Its w' v q 0 F) ∧ Below W.heap.size W w'))
    (HP : Hid (∀ (g : Nat) (W : World), vblk W g 30 (flat5 ls) → Calls Try.prog 13 #[.slice (some ⟨g, 0, none⟩) n n, .int .i64 low, .int .i64 high] W fun e w' => (∃ v q k, e = .returned (.tuple #[.bool A, .slice v m k, .int .i64 C]) ∧ (m ≠ 0 → v = some ⟨q, 0, none⟩ ∧ W.heap.size ≤ q ∧ iblk w' q 3 F)) ∧ Below W.heap.size W w')) :
    Calls Try.prog 6 #[.slice u n cap, .int .i64 low, .int .i64 high] w fun e w' => e = .returned (.bool true) ∧ Below w.heap.size w w' := by
  have HE := hide (fun (g g' : Nat) (W : World) (hg : vblk W g 30 (flat5 ls)) (hg' : vblk W g' 30 (flat5 ls)) => lk_same (some ⟨g, 0, none⟩) (some ⟨g', 0, none⟩) g 0 g' 0 n n n ls W (unhide HL) (by omega) hg.lks hg'.lks)
  have HFN : Hid (F ≠ [] → m ≠ 0) := hide (fun h e => h (List.eq_nil_of_length_eq_zero (by omega)))
  have HMF := hide hm
  have cc : (C != C) = false := by simp
  have aa : (A != A) = false := by simp
  clear hm
  go_enter Try.func6, Try.ntmps6
  go_wp2_with fail
  refine (unhide HSZ).mono ?_
  rintro e W0 ⟨⟨r, rfl⟩, hb⟩
  have HB0 := hide hb
  clear hb HSZ
  by_cases hz : r < 0
  · have t : decide (r < 0) = true := decide_eq_true hz
    go_wp2_with fail
    go_ret
    exact ⟨rfl, unhide HB0⟩
  have t : decide (r < 0) = false := decide_eq_false hz
  go_wp2_with fail
  refine (unhide HT _ (unhide HB0)).mono ?_
  rintro e W1 ⟨⟨g1, rfl, hg1, hk1⟩, hb1⟩
  have HB1 := hide (bc (unhide HB0) hb1)
  have HK1 := hide hk1
  clear hb1 hk1 hg1
  go_wp2_with fail
  refine (unhide HM _ _ (unhide HK1)).mono ?_
  rintro e W2 ⟨⟨v1, q1, k1, rfl, hi1⟩, hb2⟩
  have HB2 := hide (bc (unhide HB1) hb2)
  have HI1 := hide hi1
  clear hb2 hi1 HM
  go_wp2_with fail
  refine (unhide HT _ (unhide HB2)).mono ?_
  rintro e W3 ⟨⟨g2, rfl, hg2, hk2⟩, hb3⟩
  have HB3 := hide (bc (unhide HB2) hb3)
  have HK2 := hide hk2
  have HG2 := hide (Nat.le_trans (unhide HB2).size hg2)
  have HQ1 : Hid (F ≠ [] → q1 < g2) := hide (fun h => Nat.lt_of_lt_of_le (unhide HI1 h).2.1 hg2)
  have HI2 := hide ((unhide HI1).bel hb3)
  clear hb3 hk2 hg2
  go_wp2_with fail
  refine (unhide HP _ _ (unhide HK2)).mono ?_
  rintro e W4 ⟨⟨v2, q2, k2, rfl, hi2⟩, hb4⟩
  have HB4 := hide (bc (unhide HB3) hb4)
  have HK3 := hide ((unhide HK2).bel hb4)
  have HI3 := hide ((unhide HI2).bel hb4)
  have hg2lt := (unhide HK2).lt
  have HQ2 : Hid (m ≠ 0 → g2 < q2) := hide (fun h => Nat.lt_of_lt_of_le hg2lt (hi2 h).2.1)
  have HV2 : Hid (m ≠ 0 → v2 = some ⟨q2, 0, none⟩) := hide (fun h => (hi2 h).1)
  have HJ1 : Hid (m ≠ 0 → iblk W4 q2 3 F) := hide (fun h => (hi2 h).2.2)
  clear hb4 hi2 hg2lt
  have HIJ : Hid (∀ (W : World) (L : List Int), (m ≠ 0 → iblk W q2 3 L) → L.length = m → Its W v2 q2 0 L) := hide (fun W L h hl h0 => by
    have hm0 : m ≠ 0 := fun e => h0 (List.eq_nil_of_length_eq_zero (by omega))
    exact ⟨unhide HV2 hm0, (h hm0).lt, (h hm0).ints⟩)
  go_wp2_with fail
  refine (it_same v2 v1 q2 0 q1 0 m k2 k1 F _ (unhide HMF) (by omega) (unhide HIJ _ _ (unhide HJ1) (unhide HMF)) (unhide HI3)).mono ?_
  rintro e W5 ⟨rfl, hb5⟩
  have HB5 := hide (bc (unhide HB4) hb5)
  have HK4 := hide ((unhide HK3).bel hb5)
  have HI4 := hide ((unhide HI3).bel hb5)
  have HJ2 : Hid (m ≠ 0 → iblk W5 q2 3 F) := hide (fun h => (unhide HJ1 h).bel hb5)
  clear hb5
  go_wp2_with fail
  refine (unhide HT _ (unhide HB5)).mono ?_
  rintro e W6 ⟨⟨g3, rfl, hg3, hk3⟩, hb6⟩
  have HB6 := hide (bc (unhide HB5) hb6)
  have HK5 := hide ((unhide HK4).bel hb6)
  have HI5 := hide ((unhide HI4).bel hb6)
  have HJ3 : Hid (m ≠ 0 → iblk W6 q2 3 F) := hide (fun h => (unhide HJ2 h).bel hb6)
  have HK6 := hide hk3
  clear hb6 hk3 hg3
  go_wp2_with fail
  refine (unhide HE _ _ _ (unhide HK5) (unhide HK6)).mono ?_
  rintro e W7 ⟨rfl, hb7⟩
  have HB7 := hide (bc (unhide HB6) hb7)
  have HK7 := hide ((unhide HK5).bel hb7)
  have HI6 := hide ((unhide HI5).bel hb7)
  have HJ4 : Hid (m ≠ 0 → iblk W7 q2 3 F) := hide (fun h => (unhide HJ3 h).bel hb7)
  clear hb7
  go_wp2_with fail
  refine (lk_mark (some ⟨g2, 0, none⟩) g2 n n 1 ls _ (unhide HL) hnn (by omega) (by omega) (fun _ => ⟨rfl, unhide HK7⟩)).mono ?_
  rintro e W8 ⟨rfl, _, hmw⟩
  have t2 : decide (((1 : Nat) : Int) + 5 * (n : Int) < 0) = false := decide_eq_false (by omega)
  have t2b : decide ((1 : Int) + 5 * (n : Int) < 0) = false := decide_eq_false (by omega)
  have HB8 : Hid (Below w.heap.size w W8) := hide ((unhide HB7).trans (hmw.below (unhide HG2) (unhide HB7).size))
  have HI7 : Hid (Its W8 v1 q1 0 F) := hide (fun h => ⟨(unhide HI6 h).1, Nat.lt_of_lt_of_le (unhide HI6 h).2.1 hmw.size, fun j x hj => (World.cell?_of_block (w := W7) (a := ⟨q1, 0 + j, none⟩) (hmw.block q1 (unhide HI6 h).2.1 (Nat.ne_of_lt (unhide HQ1 h)))).trans ((unhide HI6 h).2.2 j x hj)⟩)
  have HJ5 : Hid (m ≠ 0 → iblk W8 q2 3 F) := hide (fun h => (hmw.block q2 (unhide HJ4 h).lt (Nat.ne_of_gt (unhide HQ2 h))).trans (unhide HJ4 h))
  clear hmw HK1 HK2 HK3 HK4 HK5 HK6 HK7
  go_wp2_with fail
  refine (it_same v2 v1 q2 0 q1 0 m k2 k1 F _ (unhide HMF) (by omega) (unhide HIJ _ _ (unhide HJ5) (unhide HMF)) (unhide HI7)).mono ?_
  rintro e W9 ⟨rfl, hb9⟩
  have HB9 := hide (bc (unhide HB8) hb9)
  have HI8 := hide ((unhide HI7).bel hb9)
  have HJ6 : Hid (m ≠ 0 → iblk W9 q2 3 F) := hide (fun h => (unhide HJ5 h).bel hb9)
  clear hb9
  go_wp2_with fail
  refine (it_mark v2 q2 m k2 F 1 _ (unhide HMF) (by omega) (by omega) (by omega) (fun h => ⟨unhide HV2 h, unhide HJ6 h⟩)).mono ?_
  rintro e W10 ⟨rfl, hj10, hz10, hbut⟩
  have HB10 : Hid (Below w.heap.size w W10) := hide ((unhide HB9).trans (it_side (unhide HMF) hz10 hbut (fun h => Nat.le_trans (unhide HG2) (Nat.le_of_lt (unhide HQ2 h)))))
  have HI9 : Hid (Its W10 v1 q1 0 F) := hide ((unhide HI8).but hbut (fun h => Nat.ne_of_lt (Nat.lt_trans (unhide HQ1 h) (unhide HQ2 (unhide HFN h)))))
  have HJ7 := hide hj10
  clear hj10 hz10 hbut
  go_wp2_with fail
  refine (it_held v2 q2 0 m k2 1 _ (by omega) (by omega) (by omega) (unhide HIJ _ _ (unhide HJ7) (marks_len 1 m))).mono ?_
  rintro e W11 ⟨rfl, hs11⟩
  have t3 : decide ((1 : Int) + (m : Int) < 0) = false := decide_eq_false (by omega)
  have t4 : ((1 : Int) + (m : Int) != 1 + (m : Int)) = false := by simp
  have HB11 : Hid (Below w.heap.size w W11) := hide ((unhide HB10).trans hs11.bel)
  have HI10 := hide ((unhide HI9).bel hs11.bel)
  have HJ8 : Hid (m ≠ 0 → iblk W11 q2 3 (marks 1 m)) := hide (fun h => hs11.iblk (unhide HJ7 h))
  clear hs11
  go_wp2_with fail
  refine (unhide HT _ (unhide HB11)).mono ?_
  rintro e W12 ⟨⟨g4, rfl, hg4, hk4⟩, hb12⟩
  have HB12 := hide (bc (unhide HB11) hb12)
  have HK8 := hide hk4
  have HI11 := hide ((unhide HI10).bel hb12)
  have HJ9 : Hid (m ≠ 0 → iblk W12 q2 3 (marks 1 m)) := hide (fun h => (unhide HJ8 h).bel hb12)
  clear hb12 hk4 hg4
  go_wp2_with fail
  refine (unhide HP _ _ (unhide HK8)).mono ?_
  rintro e W13 ⟨⟨v3, q3, k3, rfl, hi3⟩, hb13⟩
  have HB13 := hide (bc (unhide HB12) hb13)
  have HI12 := hide ((unhide HI11).bel hb13)
  have HJ10 : Hid (m ≠ 0 → iblk W13 q2 3 (marks 1 m)) := hide (fun h => (unhide HJ9 h).bel hb13)
  have HN : Hid (Its W13 v3 q3 0 F) := hide (fun h => ⟨(hi3 (unhide HFN h)).1, (hi3 (unhide HFN h)).2.2.lt, (hi3 (unhide HFN h)).2.2.ints⟩)
  clear hb13 hi3
  go_wp2_with fail
  refine (it_same v3 v1 q3 0 q1 0 m k3 k1 F _ (unhide HMF) (by omega) (unhide HN) (unhide HI12)).mono ?_
  rintro e W14 ⟨rfl, hb14⟩
  have HB14 := hide (bc (unhide HB13) hb14)
  have HJ11 : Hid (m ≠ 0 → iblk W14 q2 3 (marks 1 m)) := hide (fun h => (unhide HJ10 h).bel hb14)
  clear hb14
  go_wp2_with fail
  refine (it_held v2 q2 0 m k2 1 _ (by omega) (by omega) (by omega) (unhide HIJ _ _ (unhide HJ11) (marks_len 1 m))).mono ?_
  rintro e W15 ⟨rfl, hs15⟩
  have HB15 : Hid (Below w.heap.size w W15) := hide ((unhide HB14).trans hs15.bel)
  clear hs15
  go_wp2_with fail
  go_ret
  exact ⟨rfl, unhide HB15⟩

set_option maxHeartbeats 1000000 in
theorem fnExactChainSafe_walk (u : Option Addr) (n cap p po : Nat) (ls : List Lk) (low high : Int) (w : World) (hn : n ≤ 9223372036854775807) (hl : ls.length = n) (hsz : ∀ l ∈ ls, l.nm.size ≤ maxLen) (hu : Lks w u p po ls) :
    Calls Try.prog 6 #[.slice u n cap, .int .i64 low, .int .i64 high] w fun e w' => e = .returned (.bool true) ∧ Below w.heap.size w w' := by
  by_cases h : n ≤ 1048576 ∧ ∀ l ∈ ls, l.nm.size ≤ 1048576
  · exact fnExactChainSafe_core u n cap p po (outS ls low high).length ls low high (outS ls low high) (safB ls low high) (lkCode ls) w rfl (outS_len ls low high) h.1 (hide hl)
      (hide ((lk_sz u p po n cap ls w hl hn hsz hu).mono fun e w' ⟨⟨r, hr, _⟩, hb⟩ => ⟨⟨r, hr⟩, hb⟩))
      (hide fun W hW => lk_to u p po n cap ls W hl h.1 (hu.bel hW))
      (hide fun g W hg => safeM_any (some ⟨g, 0, none⟩) g 0 n n low high ls W hl h.1 h.2 hg.lks)
      (hide fun g W hg => safeP_any (some ⟨g, 0, none⟩) g 0 n n low high ls W hl h.1 h.2 hg.lks)
  · have HSZ := hide (lk_sz u p po n cap ls w hl hn hsz hu)
    have HN := hide h
    clear hu hl hsz h
    go_enter Try.func6, Try.ntmps6
    go_wp2_with fail
    refine (unhide HSZ).mono ?_
    rintro e W0 ⟨⟨r, rfl, hr⟩, hb⟩
    have HB0 := hide hb
    have t : decide (r < 0) = true := decide_eq_true (by
      rcases (by omega : r < 0 ∨ 0 ≤ r) with h | h
      · exact h
      · exact absurd (hr h) (unhide HN))
    clear hb HSZ hr
    go_wp2_with fail
    go_ret
    exact ⟨rfl, unhide HB0⟩

theorem fnExactChainSafe_own : ownKnob Try.prog.godebug = none := by kernel_rfl
theorem fnExactChainSafe_laidOut : laidOutB Try.prog = true := by kernel_rfl

set_option maxRecDepth 100000 in
theorem fnExactChainSafe_lifted (os : Os) (started : os.Started) (H : Type) (enc : TypeId × Value → H) :
    ReturnsInHanded {} Try.checked os 6 .any (Rows.fnExactChainSafeSpec.pre6 enc Try.prog Try.f6 Rows.fnExactChainSafeRow.domain false) (Rows.fnExactChainSafeSpec.post enc Try.prog Try.f6 false true false false) := by
  refine returnsInHanded_of_change (C := Try.checked) fnExactChainSafe_own started (by kernel_rfl) Try.func6
    (ChangeSpec.witness6 (enc := enc) (C := Try.checked) false ⟨#[], #[.slice none 0 0, .int .i64 0, .int .i64 0], []⟩ 8 (by kernel_rfl) (by kernel_rfl) (by kernel_rfl) (by kernel_rfl)) ?_
  intro W base args ds gs before hval0 hW hcnd _
  have hval : ∀ (j : Nat) t v, Try.f6.params[j]? = some t → args[j]? = some v → Value.okWide Try.prog W .any base t v := hval0
  have hW' := hW
  obtain ⟨p, q, hA0, hV, rfl, hfz, hnd⟩ := hW
  have hA : DataW.TrodAll enc Try.prog W 0 (fun _ => true) true Try.f6.params.toList args.toList ds p := hA0
  rw [Try.params6] at hA hval
  obtain ⟨v0, vs0, d0, ds0, p0, q0, hargs0, rfl, rfl, h0, r0⟩ := trodAll_cons hA
  obtain ⟨v1, vs1, d1, ds1, p1, q1, rfl, rfl, rfl, h1, r1⟩ := trodAll_cons r0
  obtain ⟨v2, vs2, d2, ds2, p2, q2, rfl, rfl, rfl, h2, r2⟩ := trodAll_cons r1
  obtain ⟨rfl, rfl, rfl⟩ := trodAll_nil r2
  obtain rfl : args = #[v0, v1, v2] := by cases args; simp_all
  obtain ⟨rfl, rfl⟩ := trodVars_none hV
  obtain ⟨a0, len0, cap0, rfl⟩ := okWide_slice Try.underlying41 (hval 0 41 v0 rfl rfl)
  obtain ⟨i1, rfl, rfl, rfl, w1⟩ := open_int Try.underlying3 (hval 1 3 v1 rfl rfl) h1
  obtain ⟨i2, rfl, rfl, rfl, w2⟩ := open_int Try.underlying3 (hval 2 3 v2 rfl rfl) h2
  have k0 := h0
  have lt0 : ∀ x ∈ p0, x.block < W.heap.size := by obtain ⟨m, hm⟩ := k0; exact DataW.trod_lt m _ _ _ hm
  obtain ⟨pp, po, ls, b0, l0, s0, w0⟩ : ∃ (pp po : Nat) (ls : List Lk), len0 ≤ 9223372036854775807 ∧ ls.length = len0 ∧ (∀ l ∈ ls, l.nm.size ≤ maxLen) ∧ Lks W a0 pp po ls := by
    obtain ⟨fuel, hf⟩ := h0
    obtain ⟨u, n, cap, pp, po, ls, hcs, hn, hl, hs, hx⟩ := open_links Try.underlying41 Try.underlying73 (by kernel_rfl) rfl (by kernel_rfl) hf
    simp [Value.cells] at hcs
    obtain ⟨rfl, rfl, rfl⟩ := hcs
    exact ⟨pp, po, ls, hn, hl, hs, hx⟩
  clear hA0 hval0
  refine (fnExactChainSafe_walk a0 len0 cap0 pp po ls i1 i2 W b0 l0 s0 w0).mono fun e W' ⟨he, bel⟩ => ?_
  subst he
  exact ⟨_, rfl, _, _, _, [], _, [], hW', trodAll_mk1 (shut_bool Try.underlying4 _), (trodAll_cons_mk (Below.trod fnExactChainSafe_laidOut (by kernel_rfl) (of_decide_eq_true (by kernel_rfl)) k0 bel lt0) (trodAll_cons_mk (shut_int Try.underlying3 w1) (trodAll_cons_mk (shut_int Try.underlying3 w2) trodAll_mk0))), rfl, bel.frame _, fun h => by cases h⟩

theorem fnExactChainSafe_over : Rows.fnExactChainSafeRow.holds Try.pinned (OpenSpec.ofChange Rows.fnExactChainSafeSpec) :=
  OpenClaim.holds_of_wide 6 Try.f6 rfl rfl rfl rfl rfl rfl rfl ⟨rfl, rfl, rfl, rfl, rfl⟩ rfl rfl rfl rfl rfl (by kernel_rfl) Try.func6 (by kernel_rfl)
    (of_decide_eq_true (by kernel_rfl)) (by unfold Func.isWrapper; first | (rw [if_pos (by decide +kernel)]; kernel_rfl) | (rw [if_neg (by decide +kernel)]; exact ⟨rfl, rfl⟩))
    (fun os started H enc _ => fnExactChainSafe_lifted os started H enc)

/-- The statement, as it was given. -/
theorem fnExactChainSafe_holds : Rows.FnExactChainSafeSaid := fnExactChainSafe_over
#print axioms fnExactChainSafe_holds
end Go.Proofs.Ytlanpmdekbjgeaa
