/-
  The program's RingOf answers as the model at every list of points, right or not, and changes none.
-/
import Derived.Test.YtdcecfgmfmpeeaaRga4
import Derived.Test.YtdcecfgmfmpeeaaPtRows
import Derived.Test.YtdcecfgmfmpeeaaOpenRows
import Derived.Test.YtdcecfgmfmpeeaaChecked
import Derived.Test.YtdcecfgmfmpeeaaRows
import Derived.ChangeOld
import Derived.Lib.SmallJoins
namespace Go.Proofs.Ytdcecfgmfmpeeaa
open Go.ChangeShapes Go.WideShapes Go.ChangeAt Go.RowKit Go.Joins
set_option linter.unusedVariables false
set_option linter.unusedSimpArgs false

/-- the numbers in pairs -/
def toPts (L : List Int) (n : Nat) : List Pt := (List.range n).map fun i => (L.getD (i * 2) 0, L.getD (i * 2 + 1) 0)
theorem toPts_len (L : List Int) (n : Nat) : (toPts L n).length = n := by simp [toPts]
theorem toPts_flat (L : List Int) (n : Nat) (hl : L.length = n * 2) : flat2 (toPts L n) = L := by
  apply List.ext_getElem?
  intro j
  by_cases hj : j < n * 2
  · have hi : j / 2 < n := by omega
    have hp : (toPts L n)[j / 2]? = some (L.getD (j / 2 * 2) 0, L.getD (j / 2 * 2 + 1) 0) := by
      unfold toPts
      rw [List.getElem?_map, List.getElem?_range hi]
      rfl
    obtain ⟨f0, f1⟩ := flat2_at hp
    rcases Nat.mod_two_eq_zero_or_one j with e | e
    · have ej : j / 2 * 2 = j := by omega
      rw [ej] at f0
      rw [f0, List.getD_eq_getElem?_getD, List.getElem?_eq_getElem (show j < L.length by omega)]
      rfl
    · have ej : j / 2 * 2 + 1 = j := by omega
      rw [ej] at f1
      rw [f1]
      show some (L.getD j 0) = L[j]?
      rw [List.getD_eq_getElem?_getD, List.getElem?_eq_getElem (show j < L.length by omega)]
      rfl
  · rw [List.getElem?_eq_none (by rw [flat2_len, toPts_len]; omega), List.getElem?_eq_none (by omega)]

set_option maxHeartbeats 1000000 in
theorem eqR_one (a0 a1 a2 a3 a4 a5 a6 a7 : Int) (w : World) : Calls Try.prog 18 #[.agg #[.int .i64 a0, .int .i64 a1, .int .i64 a2, .int .i64 a3, .int .i64 a4, .int .i64 a5, .int .i64 a6, .int .i64 a7], .agg #[.int .i64 a0, .int .i64 a1, .int .i64 a2, .int .i64 a3, .int .i64 a4, .int .i64 a5, .int .i64 a6, .int .i64 a7]] w fun e w' => e = .returned (.bool true) ∧ Below w.heap.size w w' := by
  go_enter Try.func18, Try.ntmps18
  go_wp2
  go_ret
  exact ⟨rfl, ba (ba (Below.refl _ _) _) _⟩
/-- a circle laid down -/
theorem ring_new (a0 a1 a2 a3 a4 a5 a6 a7 : Int) (W : World) : iblk (W.alloc (.cells #[.int .i64 a0, .int .i64 a1, .int .i64 a2, .int .i64 a3, .int .i64 a4, .int .i64 a5, .int .i64 a6, .int .i64 a7] 34)) W.heap.size 34 [a0, a1, a2, a3, a4, a5, a6, a7] := by
  exact iblk_new W 34 [a0, a1, a2, a3, a4, a5, a6, a7]
theorem ring_bel {w : World} (a0 a1 a2 a3 a4 a5 a6 a7 : Int) (W : World) (hb : Below w.heap.size w W) : Below w.heap.size w (W.alloc (.cells #[.int .i64 a0, .int .i64 a1, .int .i64 a2, .int .i64 a3, .int .i64 a4, .int .i64 a5, .int .i64 a6, .int .i64 a7] 34)) :=
  ba hb _

set_option maxHeartbeats 4000000 in
set_option maxRecDepth 100000 in
theorem fnExactRingOf_core (u : Option Addr) (n cap p po : Nat) (L : List Int) (C a0 a1 a2 a3 a4 a5 a6 a7 : Int) (w : World) (hn : n ≤ 1048576) (HL : Hid (L.length = n * 2))
    (HX : Hid (n ≠ 0 → u = some ⟨p, po, none⟩ ∧ p < w.heap.size ∧ IntsAt w p po L))
    (HM : Hid (∀ (g : Nat) (W : World), iblk W g 30 L → Calls Try.prog 11 #[.slice (some ⟨g, 0, none⟩) n n] W fun e w' => e = .returned (.tuple #[.agg #[.int .i64 a0, .int .i64 a1, .int .i64 a2, .int .i64 a3, .int .i64 a4, .int .i64 a5, .int .i64 a6, .int .i64 a7], .int .i64 C]) ∧ Below W.heap.size W w'))
    (HP : Hid (∀ (g : Nat) (W : World), iblk W g 30 L → Calls Try.prog 10 #[.slice (some ⟨g, 0, none⟩) n n] W fun e w' => e = .returned (.tuple #[.agg #[.int .i64 a0, .int .i64 a1, .int .i64 a2, .int .i64 a3, .int .i64 a4, .int .i64 a5, .int .i64 a6, .int .i64 a7], .int .i64 C]) ∧ Below W.heap.size W w')) :
    Calls Try.prog 5 #[.slice u n cap] w fun e w' => e = .returned (.bool true) ∧ Below w.heap.size w w' := by
  have t1 : decide ((1048576 : Int) - (n : Int) < 0) = false := decide_eq_false (by omega)
  have cc : (C != C) = false := by simp
  have HT := hide (fun W (hW : Below w.heap.size w W) => pt_to u p po n cap L W (unhide HL) hn (fun h => ⟨(unhide HX h).1, Nat.lt_of_lt_of_le (unhide HX h).2.1 hW.size, (unhide HX h).2.2.below hW (unhide HX h).2.1⟩))
  go_enter Try.func5, Try.ntmps5
  go_wp2_with fail
  refine (pt_sz_in u n cap 1048576 _ (by omega) (by omega)).mono ?_
  rintro e W0 ⟨rfl, hw0⟩
  have hw0' := hw0.symm
  clear hw0
  subst hw0'
  go_wp2_with fail
  refine (unhide HT _ (Below.refl _ _)).mono ?_
  rintro e W1 ⟨⟨g1, rfl, hg1, hk1⟩, hb1⟩
  have HB1 := hide hb1
  have HK1 := hide hk1
  clear hb1 hk1 hg1
  go_wp2_with fail
  refine (unhide HM _ _ (unhide HK1)).mono ?_
  rintro e W2 ⟨rfl, hb2⟩
  have HB2 := hide (bc (unhide HB1) hb2)
  clear hb2
  go_wp2_with fail
  have HS := hide (ring_new a0 a1 a2 a3 a4 a5 a6 a7 W2)
  have HB2s := hide (ring_bel a0 a1 a2 a3 a4 a5 a6 a7 W2 (unhide HB2))
  generalize (W2.alloc (.cells #[.int .i64 a0, .int .i64 a1, .int .i64 a2, .int .i64 a3, .int .i64 a4, .int .i64 a5, .int .i64 a6, .int .i64 a7] 34)) = W2s at *
  generalize W2.heap.size = s1 at *
  refine (unhide HT _ (unhide HB2s)).mono ?_
  rintro e W3 ⟨⟨g2, rfl, hg2, hk2⟩, hb3⟩
  have HB3 := hide (bc (unhide HB2s) hb3)
  have HK2 := hide hk2
  have HS3 := hide ((unhide HS).bel hb3)
  clear hb3 hk2 hg2
  go_wp2_with fail
  refine (unhide HP _ _ (unhide HK2)).mono ?_
  rintro e W4 ⟨rfl, hb4⟩
  have HB4 := hide (bc (unhide HB3) hb4)
  have HK2b := hide ((unhide HK2).bel hb4)
  have HS4 := hide ((unhide HS3).bel hb4)
  have o0 := (unhide HS4).cell (m := 0) rfl
  have o1 := (unhide HS4).cell (m := 1) rfl
  have o2 := (unhide HS4).cell (m := 2) rfl
  have o3 := (unhide HS4).cell (m := 3) rfl
  have o4 := (unhide HS4).cell (m := 4) rfl
  have o5 := (unhide HS4).cell (m := 5) rfl
  have o6 := (unhide HS4).cell (m := 6) rfl
  have o7 := (unhide HS4).cell (m := 7) rfl
  clear hb4
  have HV := hide (ring_new a0 a1 a2 a3 a4 a5 a6 a7 W4)
  have HB4s := hide (ring_bel a0 a1 a2 a3 a4 a5 a6 a7 W4 (unhide HB4))
  have HSB : Hid (Below W4.heap.size W4 (W4.alloc (.cells #[.int .i64 a0, .int .i64 a1, .int .i64 a2, .int .i64 a3, .int .i64 a4, .int .i64 a5, .int .i64 a6, .int .i64 a7] 34))) := hide (ring_bel a0 a1 a2 a3 a4 a5 a6 a7 W4 (Below.refl _ _))
  have HK2c := hide ((unhide HK2b).bel (unhide HSB))
  have q0 := ((unhide HS4).bel (unhide HSB)).cell (m := 0) rfl
  have q1 := ((unhide HS4).bel (unhide HSB)).cell (m := 1) rfl
  have q2 := ((unhide HS4).bel (unhide HSB)).cell (m := 2) rfl
  have q3 := ((unhide HS4).bel (unhide HSB)).cell (m := 3) rfl
  have q4 := ((unhide HS4).bel (unhide HSB)).cell (m := 4) rfl
  have q5 := ((unhide HS4).bel (unhide HSB)).cell (m := 5) rfl
  have q6 := ((unhide HS4).bel (unhide HSB)).cell (m := 6) rfl
  have q7 := ((unhide HS4).bel (unhide HSB)).cell (m := 7) rfl
  have v0 := (unhide HV).cell (m := 0) rfl
  have v1 := (unhide HV).cell (m := 1) rfl
  have v2 := (unhide HV).cell (m := 2) rfl
  have v3 := (unhide HV).cell (m := 3) rfl
  have v4 := (unhide HV).cell (m := 4) rfl
  have v5 := (unhide HV).cell (m := 5) rfl
  have v6 := (unhide HV).cell (m := 6) rfl
  have v7 := (unhide HV).cell (m := 7) rfl
  clear HS HS3 HSB
  go_wp2_with fail
  generalize (W4.alloc (.cells #[.int .i64 a0, .int .i64 a1, .int .i64 a2, .int .i64 a3, .int .i64 a4, .int .i64 a5, .int .i64 a6, .int .i64 a7] 34)) = W4s at *
  refine (eqR_one a0 a1 a2 a3 a4 a5 a6 a7 _).mono ?_
  rintro e W5 ⟨rfl, hb5⟩
  have HB5 := hide (bc (unhide HB4s) hb5)
  have HK2d := hide ((unhide HK2c).bel hb5)
  clear hb5
  go_wp2_with fail
  refine (unhide HT _ (unhide HB5)).mono ?_
  rintro e W6 ⟨⟨g3, rfl, hg3, hk3⟩, hb6⟩
  have HB6 := hide (bc (unhide HB5) hb6)
  have HK2e := hide ((unhide HK2d).bel hb6)
  have HK3 := hide hk3
  clear hb6 hk3 hg3
  go_wp2_with fail
  refine (pt_same _ _ g2 0 g3 0 n n n L _ (unhide HL) (by omega) (fun _ => ⟨rfl, (unhide HK2e).lt, (unhide HK2e).ints⟩) (fun _ => ⟨rfl, (unhide HK3).lt, (unhide HK3).ints⟩)).mono ?_
  rintro e W7 ⟨rfl, hb7⟩
  have HB7 := hide (bc (unhide HB6) hb7)
  clear hb7
  go_wp2_with fail
  go_ret
  exact ⟨rfl, unhide HB7⟩
theorem fnExactRingOf_walk (u : Option Addr) (n cap : Nat) (L : List Int) (w : World) (hn : n ≤ 9223372036854775807) (hl : L.length = n * 2) (hx : n ≠ 0 → ∃ p po, u = some ⟨p, po, none⟩ ∧ p < w.heap.size ∧ IntsAt w p po L) :
    Calls Try.prog 5 #[.slice u n cap] w fun e w' => e = .returned (.bool true) ∧ Below w.heap.size w w' := by
  by_cases hb : n ≤ 1048576
  · obtain ⟨p, po, hx'⟩ : ∃ p po, n ≠ 0 → u = some ⟨p, po, none⟩ ∧ p < w.heap.size ∧ IntsAt w p po L := by
      by_cases h : n = 0
      · exact ⟨0, 0, fun h' => absurd h h'⟩
      · obtain ⟨p, po, h1⟩ := hx h
        exact ⟨p, po, fun _ => h1⟩
    have hlen : (toPts L n).length = n := toPts_len L n
    obtain ⟨a0, a1, a2, a3, a4, a5, a6, a7, hform⟩ := rgR_form (toPts L n)
    refine fnExactRingOf_core u n cap p po L (mcC (toPts L n)) a0 a1 a2 a3 a4 a5 a6 a7 w hb (hide hl) (hide hx') (hide fun g W hg => ?_) (hide fun g W hg => ?_)
    · have h := rgM_any g n (toPts L n) W (by rw [hlen]; exact hb) hg.lt (by rw [toPts_flat L n hl]; exact hg.ints)
      rw [hlen, hform] at h
      exact h
    · have h := rgP_any g n (toPts L n) W (by rw [hlen]; exact hb) (by rw [hlen]; exact Nat.le_refl _) hg.lt (by rw [toPts_flat L n hl]; exact hg.ints)
      rw [hlen, hform] at h
      exact h
  · have HX := hide hx
    clear hx
    go_enter Try.func5, Try.ntmps5
    go_wp2_with fail
    refine (pt_sz_out u n cap 1048576 _ (by omega) (by omega) (by omega) hn).mono ?_
    rintro e W0 ⟨rfl, rfl⟩
    go_wp2_with fail
    go_ret
    exact ⟨rfl, Below.refl _ _⟩

theorem fnExactRingOf_own : ownKnob Try.prog.godebug = none := by kernel_rfl
theorem fnExactRingOf_laidOut : laidOutB Try.prog = true := by kernel_rfl

set_option maxRecDepth 100000 in
theorem fnExactRingOf_lifted (os : Os) (started : os.Started) (H : Type) (enc : TypeId × Value → H) :
    ReturnsInHanded {} Try.checked os 5 .any (Rows.fnExactRingOfSpec.pre6 enc Try.prog Try.f5 Rows.fnExactRingOfRow.domain false) (Rows.fnExactRingOfSpec.post enc Try.prog Try.f5 false true false false) := by
  refine returnsInHanded_of_change (C := Try.checked) fnExactRingOf_own started (by kernel_rfl) Try.func5
    (ChangeSpec.witness6 (enc := enc) (C := Try.checked) false ⟨#[], #[.slice none 0 0], []⟩ 8 (by kernel_rfl) (by kernel_rfl) (by kernel_rfl) (by kernel_rfl)) ?_
  intro W base args ds gs before hval0 hW hcnd _
  have hval : ∀ (j : Nat) t v, Try.f5.params[j]? = some t → args[j]? = some v → Value.okWide Try.prog W .any base t v := hval0
  have hW' := hW
  obtain ⟨p, q, hA0, hV, rfl, hfz, hnd⟩ := hW
  have hA : DataW.TrodAll enc Try.prog W 0 (fun _ => true) true Try.f5.params.toList args.toList ds p := hA0
  rw [Try.params5] at hA hval
  obtain ⟨v0, vs0, d0, ds0, p0, q0, hargs, rfl, rfl, h0, r0⟩ := trodAll_cons hA
  obtain ⟨rfl, rfl, rfl⟩ := trodAll_nil r0
  obtain rfl : args = #[v0] := by cases args; simp_all
  obtain ⟨rfl, rfl⟩ := trodVars_none hV
  obtain ⟨a0, len0, cap0, rfl⟩ := okWide_slice Try.underlying41 (hval 0 41 v0 rfl rfl)
  have k0 := h0
  have lt0 : ∀ x ∈ p0, x.block < W.heap.size := by obtain ⟨m, hm⟩ := k0; exact DataW.trod_lt m _ _ _ hm
  obtain ⟨z0, b0, l0, w0⟩ : ∃ L : List Int, len0 ≤ 9223372036854775807 ∧ L.length = len0 * 2 ∧ (len0 ≠ 0 → ∃ p po, a0 = some ⟨p, po, none⟩ ∧ p < W.heap.size ∧ IntsAt W p po L) := by
    obtain ⟨fuel, hf⟩ := h0
    obtain ⟨u, n, cap, L, hcs, hn, hl, hx⟩ := open_structs Try.underlying41 Try.underlying82 (k := 2) (by kernel_rfl) (by decide) rfl (by kernel_rfl) hf
    simp [Value.cells] at hcs
    obtain ⟨rfl, rfl, rfl⟩ := hcs
    exact ⟨L, hn, hl, hx⟩
  clear hA0 hval0
  refine (fnExactRingOf_walk a0 len0 cap0 z0 W b0 l0 w0).mono fun e W' ⟨he, bel⟩ => ?_
  subst he
  exact ⟨_, rfl, _, _, _, [], _, [], hW', trodAll_mk1 (shut_bool Try.underlying4 _), (trodAll_cons_mk (Below.trod fnExactRingOf_laidOut (by kernel_rfl) (of_decide_eq_true (by kernel_rfl)) k0 bel lt0) trodAll_mk0), rfl, bel.frame _, fun h => by cases h⟩

theorem fnExactRingOf_over : Rows.fnExactRingOfRow.holds Try.pinned (OpenSpec.ofChange Rows.fnExactRingOfSpec) :=
  OpenClaim.holds_of_wide 5 Try.f5 rfl rfl rfl rfl rfl rfl rfl ⟨rfl, rfl, rfl, rfl, rfl⟩ rfl rfl rfl rfl rfl (by kernel_rfl) Try.func5 (by kernel_rfl)
    (of_decide_eq_true (by kernel_rfl)) (by unfold Func.isWrapper; first | (rw [if_pos (by decide +kernel)]; kernel_rfl) | (rw [if_neg (by decide +kernel)]; exact ⟨rfl, rfl⟩))
    (fun os started H enc _ => fnExactRingOf_lifted os started H enc)

/-- The statement, as it was given. -/
theorem fnExactRingOf_holds : Rows.FnExactRingOfSaid := fnExactRingOf_over
#print axioms fnExactRingOf_holds
end Go.Proofs.Ytdcecfgmfmpeeaa
