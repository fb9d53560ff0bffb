/-
  The program's Hull answers as the model at every list of points, right or not; it changes none; its points lie in memory of their own.
-/
import Derived.Test.YtmfgpipmkbkggaaHul
import Derived.Test.YtmfgpipmkbkggaaMarkR
import Derived.Test.YtmfgpipmkbkggaaOpenRows
import Derived.Test.YtmfgpipmkbkggaaChecked
import Derived.Test.YtmfgpipmkbkggaaRows
import Derived.ChangeOld
import Derived.Lib.SmallJoins
namespace Go.Proofs.Ytmfgpipmkbkggaa
open Go.ChangeShapes Go.WideShapes Go.ChangeAt Go.RowKit Go.Joins
set_option linter.unusedVariables false
set_option linter.unusedSimpArgs false

/-- the numbers in pairs -/
def toPts (L : List Int) (n : Nat) : List Pt := (List.range n).map fun i => (L.getD (i * 2) 0, L.getD (i * 2 + 1) 0)
theorem toPts_len (L : List Int) (n : Nat) : (toPts L n).length = n := by simp [toPts]
theorem toPts_flat (L : List Int) (n : Nat) (hl : L.length = n * 2) : flat2 (toPts L n) = L := by
  apply List.ext_getElem?
  intro j
  by_cases hj : j < n * 2
  · have hi : j / 2 < n := by omega
    have hp : (toPts L n)[j / 2]? = some (L.getD (j / 2 * 2) 0, L.getD (j / 2 * 2 + 1) 0) := by
      unfold toPts
      rw [List.getElem?_map, List.getElem?_range hi]
      rfl
    obtain ⟨f0, f1⟩ := flat2_at hp
    rcases Nat.mod_two_eq_zero_or_one j with e | e
    · have ej : j / 2 * 2 = j := by omega
      rw [ej] at f0
      rw [f0, List.getD_eq_getElem?_getD, List.getElem?_eq_getElem (show j < L.length by omega)]
      rfl
    · have ej : j / 2 * 2 + 1 = j := by omega
      rw [ej] at f1
      rw [f1]
      show some (L.getD j 0) = L[j]?
      rw [List.getD_eq_getElem?_getD, List.getElem?_eq_getElem (show j < L.length by omega)]
      rfl
  · rw [List.getElem?_eq_none (by rw [flat2_len, toPts_len]; omega), List.getElem?_eq_none (by omega)]
/-- a slice of m points, where it is not empty -/
def Lies (W : World) (u : Option Addr) (g m : Nat) (F : List Int) : Prop := m ≠ 0 → u = some ⟨g, 0, none⟩ ∧ g < W.heap.size ∧ IntsAt W g 0 F
theorem Lies.bel {W W' : World} {u : Option Addr} {g m : Nat} {F : List Int} (h : Lies W u g m F) (hb : Below W.heap.size W W') : Lies W' u g m F := fun h0 => ⟨(h h0).1, Nat.lt_of_lt_of_le (h h0).2.1 hb.size, (h h0).2.2.below hb (h h0).2.1⟩
theorem Row.lies {W : World} {B m : Nat} {v : Value} {F : List Int} (h : Row W B 26 2 v m F) : ∃ u g c, v = .slice u m c ∧ Lies W u g m F ∧ (m ≠ 0 → B ≤ g) := by
  obtain ⟨u, c, hv, hf⟩ := h.form
  by_cases h0 : m = 0
  · exact ⟨u, 0, c, hv, fun h => absurd h0 h, fun h => absurd h0 h⟩
  · obtain ⟨g, h1, h2, h3, h4⟩ := hf h0
    exact ⟨u, g, c, hv, fun _ => ⟨h1, h3, h4⟩, fun _ => h2⟩

set_option maxHeartbeats 4000000 in
set_option maxRecDepth 100000 in
theorem fnExactHull_core (u : Option Addr) (n cap p po m : Nat) (L F : List Int) (C : Int) (w : World) (hn : n ≤ 1048576) (hm : m ≤ 400) (HL : Hid (L.length = n * 2)) (HF : Hid (F.length = m * 2))
    (HX : Hid (n ≠ 0 → u = some ⟨p, po, none⟩ ∧ p < w.heap.size ∧ IntsAt w p po L))
    (HM : Hid (∀ (g : Nat) (W : World), iblk W g 26 L → Calls Try.prog 22 #[.slice (some ⟨g, 0, none⟩) n n] W fun e w' => ∃ v, e = .returned (.tuple #[v, .int .i64 C]) ∧ Row w' W.heap.size 26 2 v m F ∧ Below W.heap.size W w'))
    (HP : Hid (∀ (g : Nat) (W : World), iblk W g 26 L → Calls Try.prog 19 #[.slice (some ⟨g, 0, none⟩) n n] W fun e w' => ∃ v, e = .returned (.tuple #[v, .int .i64 C]) ∧ Row w' W.heap.size 26 2 v m F ∧ Below W.heap.size W w')) :
    Calls Try.prog 5 #[.slice u n cap] w fun e w' => e = .returned (.bool true) ∧ Below w.heap.size w w' := by
  have t1 : decide ((1048576 : Int) - (n : Int) < 0) = false := decide_eq_false (by omega)
  have HT := hide (fun W (hW : Below w.heap.size w W) => pt_to u p po n cap L W (unhide HL) hn (fun h => ⟨(unhide HX h).1, Nat.lt_of_lt_of_le (unhide HX h).2.1 hW.size, (unhide HX h).2.2.below hW (unhide HX h).2.1⟩))
  have cc : (C != C) = false := by simp
  go_enter Try.func5, Try.ntmps5
  go_wp2_with fail
  refine (pt_sz_in u n cap 1048576 _ (by omega) (by omega)).mono ?_
  rintro e W0 ⟨rfl, hw0⟩
  have hw0' := hw0.symm
  clear hw0
  subst hw0'
  go_wp2_with fail
  refine (unhide HT _ (Below.refl _ _)).mono ?_
  rintro e W1 ⟨⟨g1, rfl, hg1, hk1⟩, hb1⟩
  have HB1 := hide hb1
  have HK1 := hide hk1
  clear hb1 hk1 hg1
  go_wp2_with fail
  refine (unhide HM _ _ (unhide HK1)).mono ?_
  rintro e W2 ⟨v2, rfl, hr2, hb2⟩
  obtain ⟨uw, gw, cw, rfl, hlw, _⟩ := hr2.lies
  have HLW := hide hlw
  have HB2 := hide (bc (unhide HB1) hb2)
  clear hb2 hr2 hlw
  go_wp2_with fail
  refine (unhide HT _ (unhide HB2)).mono ?_
  rintro e W3 ⟨⟨g2, rfl, hg2, hk2⟩, hb3⟩
  have HB3 := hide (bc (unhide HB2) hb3)
  have HK2 := hide hk2
  have HLW3 := hide ((unhide HLW).bel hb3)
  have HGW : Hid (m ≠ 0 → gw < g2) := hide (fun h => Nat.lt_of_lt_of_le (unhide HLW h).2.1 hg2)
  have HG2 : Hid (w.heap.size ≤ g2) := hide (Nat.le_trans (unhide HB2).size hg2)
  clear hb3 hk2 hg2
  go_wp2_with fail
  refine (unhide HP _ _ (unhide HK2)).mono ?_
  rintro e W4 ⟨v4, rfl, hr4, hb4⟩
  have HR4 := hide hr4
  have hlt3 := (unhide HK2).lt
  obtain ⟨ug, gg, cg, rfl, hlg, hgg⟩ := hr4.lies
  have HLG := hide hlg
  have HGG : Hid (m ≠ 0 → g2 < gg) := hide (fun h => Nat.lt_of_lt_of_le hlt3 (hgg h))
  have HB4 := hide (bc (unhide HB3) hb4)
  have HK2b := hide ((unhide HK2).bel hb4)
  have HLW4 := hide ((unhide HLW3).bel hb4)
  have h34 := hb4.size
  clear hb4 hr4 hlg hgg
  go_wp2_with fail
  refine (pt_same _ _ gg 0 gw 0 m cg cw F _ (unhide HF) (by omega) (unhide HLG) (unhide HLW4)).mono ?_
  rintro e W5 ⟨rfl, hb5⟩
  have HB5 := hide (bc (unhide HB4) hb5)
  have HK2c := hide ((unhide HK2b).bel hb5)
  have HLW5 := hide ((unhide HLW4).bel hb5)
  have HLG5 := hide ((unhide HLG).bel hb5)
  have HR5 := hide ((unhide HR4).below hb5)
  clear hb5
  go_wp2_with fail
  refine (unhide HT _ (unhide HB5)).mono ?_
  rintro e W6 ⟨⟨g3, rfl, hg3, hk3⟩, hb6⟩
  have HB6 := hide (bc (unhide HB5) hb6)
  have HK2d := hide ((unhide HK2c).bel hb6)
  have HLW6 := hide ((unhide HLW5).bel hb6)
  have HLG6 := hide ((unhide HLG5).bel hb6)
  have HR6 := hide ((unhide HR5).below hb6)
  have HK3 := hide hk3
  clear hb6 hk3 hg3
  go_wp2_with fail
  refine (pt_same _ _ g2 0 g3 0 n n n L _ (unhide HL) (by omega) (fun _ => ⟨rfl, (unhide HK2d).lt, (unhide HK2d).ints⟩) (fun _ => ⟨rfl, (unhide HK3).lt, (unhide HK3).ints⟩)).mono ?_
  rintro e W7 ⟨rfl, hb7⟩
  have HB7 := hide (bc (unhide HB6) hb7)
  have HK2e := hide ((unhide HK2d).bel hb7)
  have HLW7 := hide ((unhide HLW6).bel hb7)
  have HLG7 := hide ((unhide HLG6).bel hb7)
  have HR7 := hide ((unhide HR6).below hb7)
  clear hb7
  go_wp2_with fail
  refine (pt_mark (some ⟨g2, 0, none⟩) g2 n n L 1 _ (unhide HL) (by omega) (by omega) (by omega) (fun _ => ⟨rfl, unhide HK2e⟩)).mono ?_
  rintro e W8 ⟨rfl, _, hbut⟩
  have t2 : decide ((1 : Int) + (n : Int) * 2 < 0) = false := decide_eq_false (by omega)
  have hsz8 : W7.heap.size ≤ W8.heap.size := by exact Nat.le_of_eq hbut.size
  have HB8 : Hid (Below w.heap.size w W8) := hide ((unhide HB7).trans (hbut.bel (B := w.heap.size) (by have := (unhide HB2).size; have h1 := (unhide HK2e).lt; have := (unhide HB3).size; exact unhide HG2)))
  have HLW8 : Hid (Lies W8 uw gw m F) := hide (fun h => ⟨(unhide HLW7 h).1, Nat.lt_of_lt_of_le (unhide HLW7 h).2.1 hsz8, (unhide HLW7 h).2.2.blk (hbut.block gw (Nat.ne_of_lt (unhide HGW h)))⟩)
  have HLG8 : Hid (Lies W8 ug gg m F) := hide (fun h => ⟨(unhide HLG7 h).1, Nat.lt_of_lt_of_le (unhide HLG7 h).2.1 hsz8, (unhide HLG7 h).2.2.blk (hbut.block gg (Nat.ne_of_gt (unhide HGG h)))⟩)
  have HR8 : Hid (Row W8 W3.heap.size 26 2 (.slice ug m cg) m F) := hide ((unhide HR7).kept' (fun x hx => hbut.block x (by have := (World.ownsRow.lt (unhide HR7) x hx).1; omega)))
  clear hbut
  go_wp2_with fail
  refine (pt_same _ _ gg 0 gw 0 m cg cw F _ (unhide HF) (by omega) (unhide HLG8) (unhide HLW8)).mono ?_
  rintro e W9 ⟨rfl, hb9⟩
  have HB9 := hide (bc (unhide HB8) hb9)
  have HLW9 := hide ((unhide HLW8).bel hb9)
  have HR9 := hide ((unhide HR8).below hb9)
  have hs9 := hb9.size
  clear hb9
  go_wp2_with fail
  refine (pt_markR W3.heap.size m (.slice ug m cg) F 1 _ (by omega) (by omega) (by omega) (unhide HR9)).mono ?_
  rintro e W10 ⟨rfl, hr10, hb10, _⟩
  have HR10 := hide hr10
  have HB10 : Hid (Below w.heap.size w W10) := hide ((unhide HB9).trans (hb10.mono (unhide HB3).size))
  have HLW10 : Hid (Lies W10 uw gw m F) := hide (fun h => ⟨(unhide HLW9 h).1, Nat.lt_of_lt_of_le (unhide HLW9 h).2.1 hb10.size, (unhide HLW9 h).2.2.below hb10 (Nat.lt_trans (unhide HGW h) hlt3)⟩)
  obtain ⟨ug', gg', cg', hvv, hlg10, _⟩ := hr10.lies
  cases hvv
  have HLG10 := hide hlg10
  clear hr10 hb10 hlg10
  go_wp2_with fail
  refine (pt_held ug gg' m cg 1 _ (by omega) (by omega) (by omega) (fun h => ⟨(unhide HLG10 h).1, (unhide HLG10 h).2.2⟩)).mono ?_
  rintro e W11 ⟨rfl, hs11⟩
  have t3 : decide ((1 : Int) + (m : Int) * 2 < 0) = false := decide_eq_false (by omega)
  have t4 : ((1 : Int) + (m : Int) * 2 != 1 + (m : Int) * 2) = false := by simp
  have HB11 : Hid (Below w.heap.size w W11) := hide ((unhide HB10).trans hs11.bel)
  have HLW11 := hide ((unhide HLW10).bel hs11.bel)
  have HLG11 := hide ((unhide HLG10).bel hs11.bel)
  clear hs11
  go_wp2_with fail
  refine (unhide HT _ (unhide HB11)).mono ?_
  rintro e W12 ⟨⟨g4, rfl, hg4, hk4⟩, hb12⟩
  have HB12 := hide (bc (unhide HB11) hb12)
  have HK4 := hide hk4
  have HLW12 := hide ((unhide HLW11).bel hb12)
  have HLG12 := hide ((unhide HLG11).bel hb12)
  clear hb12 hk4 hg4
  go_wp2_with fail
  refine (unhide HP _ _ (unhide HK4)).mono ?_
  rintro e W13 ⟨v13, rfl, hr13, hb13⟩
  obtain ⟨uh, gh, ch, rfl, hlh, _⟩ := hr13.lies
  have HLH := hide hlh
  have HB13 := hide (bc (unhide HB12) hb13)
  have HLW13 := hide ((unhide HLW12).bel hb13)
  have HLG13 := hide ((unhide HLG12).bel hb13)
  clear hr13 hb13 hlh
  go_wp2_with fail
  refine (pt_same _ _ gh 0 gw 0 m ch cw F _ (unhide HF) (by omega) (unhide HLH) (unhide HLW13)).mono ?_
  rintro e W14 ⟨rfl, hb14⟩
  have HB14 := hide (bc (unhide HB13) hb14)
  have HLG14 := hide ((unhide HLG13).bel hb14)
  clear hb14
  go_wp2_with fail
  refine (pt_held ug gg' m cg 1 _ (by omega) (by omega) (by omega) (fun h => ⟨(unhide HLG14 h).1, (unhide HLG14 h).2.2⟩)).mono ?_
  rintro e W15 ⟨rfl, hs15⟩
  have HB15 : Hid (Below w.heap.size w W15) := hide ((unhide HB14).trans hs15.bel)
  clear hs15
  go_wp2_with fail
  go_ret
  exact ⟨rfl, unhide HB15⟩
theorem fnExactHull_walk (u : Option Addr) (n cap : Nat) (L : List Int) (w : World) (hn : n ≤ 9223372036854775807) (hl : L.length = n * 2) (hx : n ≠ 0 → ∃ p po, u = some ⟨p, po, none⟩ ∧ p < w.heap.size ∧ IntsAt w p po L) :
    Calls Try.prog 5 #[.slice u n cap] w fun e w' => e = .returned (.bool true) ∧ Below w.heap.size w w' := by
  by_cases hb : n ≤ 1048576
  · obtain ⟨p, po, hx'⟩ : ∃ p po, n ≠ 0 → u = some ⟨p, po, none⟩ ∧ p < w.heap.size ∧ IntsAt w p po L := by
      by_cases h : n = 0
      · exact ⟨0, 0, fun h' => absurd h h'⟩
      · obtain ⟨p, po, h1⟩ := hx h
        exact ⟨p, po, fun _ => h1⟩
    refine fnExactHull_core u n cap p po (hullL (toPts L n)).length L (flat2 (hullL (toPts L n))) (hullC (toPts L n)) w hb (hullL_le _) (hide hl) (hide (flat2_len _)) (hide hx') (hide fun g W hg => ?_) (hide fun g W hg => ?_)
    · have := hullS_any g n (toPts L n) W (by rw [toPts_len]; omega) hg.lt (by rw [toPts_flat L n hl]; exact hg.ints)
      rw [toPts_len] at this
      exact this
    · have := hullI_any g n (toPts L n) W (by rw [toPts_len]; omega) hg.lt (by rw [toPts_flat L n hl]; exact hg.ints)
      rw [toPts_len] at this
      exact this
  · have HX := hide hx
    clear hx
    go_enter Try.func5, Try.ntmps5
    go_wp2_with fail
    refine (pt_sz_out u n cap 1048576 _ (by omega) (by omega) (by omega) hn).mono ?_
    rintro e W0 ⟨rfl, rfl⟩
    go_wp2_with fail
    go_ret
    exact ⟨rfl, Below.refl _ _⟩

theorem fnExactHull_own : ownKnob Try.prog.godebug = none := by kernel_rfl
theorem fnExactHull_laidOut : laidOutB Try.prog = true := by kernel_rfl

set_option maxRecDepth 100000 in
theorem fnExactHull_lifted (os : Os) (started : os.Started) (H : Type) (enc : TypeId × Value → H) :
    ReturnsInHanded {} Try.checked os 5 .any (Rows.fnExactHullSpec.pre6 enc Try.prog Try.f5 Rows.fnExactHullRow.domain false) (Rows.fnExactHullSpec.post enc Try.prog Try.f5 false true false false) := by
  refine returnsInHanded_of_change (C := Try.checked) fnExactHull_own started (by kernel_rfl) Try.func5
    (ChangeSpec.witness6 (enc := enc) (C := Try.checked) false ⟨#[], #[.slice none 0 0], []⟩ 8 (by kernel_rfl) (by kernel_rfl) (by kernel_rfl) (by kernel_rfl)) ?_
  intro W base args ds gs before hval0 hW hcnd _
  have hval : ∀ (j : Nat) t v, Try.f5.params[j]? = some t → args[j]? = some v → Value.okWide Try.prog W .any base t v := hval0
  have hW' := hW
  obtain ⟨p, q, hA0, hV, rfl, hfz, hnd⟩ := hW
  have hA : DataW.TrodAll enc Try.prog W 0 (fun _ => true) true Try.f5.params.toList args.toList ds p := hA0
  rw [Try.params5] at hA hval
  obtain ⟨v0, vs0, d0, ds0, p0, q0, hargs, rfl, rfl, h0, r0⟩ := trodAll_cons hA
  obtain ⟨rfl, rfl, rfl⟩ := trodAll_nil r0
  obtain rfl : args = #[v0] := by cases args; simp_all
  obtain ⟨rfl, rfl⟩ := trodVars_none hV
  obtain ⟨a0, len0, cap0, rfl⟩ := okWide_slice Try.underlying43 (hval 0 43 v0 rfl rfl)
  have k0 := h0
  have lt0 : ∀ x ∈ p0, x.block < W.heap.size := by obtain ⟨m, hm⟩ := k0; exact DataW.trod_lt m _ _ _ hm
  obtain ⟨z0, b0, l0, w0⟩ : ∃ L : List Int, len0 ≤ 9223372036854775807 ∧ L.length = len0 * 2 ∧ (len0 ≠ 0 → ∃ p po, a0 = some ⟨p, po, none⟩ ∧ p < W.heap.size ∧ IntsAt W p po L) := by
    obtain ⟨fuel, hf⟩ := h0
    obtain ⟨u, n, cap, L, hcs, hn, hl, hx⟩ := open_structs Try.underlying43 Try.underlying75 (k := 2) (by kernel_rfl) (by decide) rfl (by kernel_rfl) hf
    simp [Value.cells] at hcs
    obtain ⟨rfl, rfl, rfl⟩ := hcs
    exact ⟨L, hn, hl, hx⟩
  clear hA0 hval0
  refine (fnExactHull_walk a0 len0 cap0 z0 W b0 l0 w0).mono fun e W' ⟨he, bel⟩ => ?_
  subst he
  exact ⟨_, rfl, _, _, _, [], _, [], hW', trodAll_mk1 (shut_bool Try.underlying4 _), (trodAll_cons_mk (Below.trod fnExactHull_laidOut (by kernel_rfl) (of_decide_eq_true (by kernel_rfl)) k0 bel lt0) trodAll_mk0), rfl, bel.frame _, fun h => by cases h⟩

theorem fnExactHull_over : Rows.fnExactHullRow.holds Try.pinned (OpenSpec.ofChange Rows.fnExactHullSpec) :=
  OpenClaim.holds_of_wide 5 Try.f5 rfl rfl rfl rfl rfl rfl rfl ⟨rfl, rfl, rfl, rfl, rfl⟩ rfl rfl rfl rfl rfl (by kernel_rfl) Try.func5 (by kernel_rfl)
    (of_decide_eq_true (by kernel_rfl)) (by unfold Func.isWrapper; first | (rw [if_pos (by decide +kernel)]; kernel_rfl) | (rw [if_neg (by decide +kernel)]; exact ⟨rfl, rfl⟩))
    (fun os started H enc _ => fnExactHull_lifted os started H enc)

/-- The statement, as it was given. -/
theorem fnExactHull_holds : Rows.FnExactHullSaid := fnExactHull_over
#print axioms fnExactHull_holds
end Go.Proofs.Ytmfgpipmkbkggaa
