/-
  The program's Loudest answers as the model at all masses and pulses, right or not; it changes none.
-/
import Derived.Test.YtgocgcnpgmamiaaLdM
import Derived.Test.YtgocgcnpgmamiaaMsLw
import Derived.Test.YtgocgcnpgmamiaaFOpen
import Derived.Test.YtgocgcnpgmamiaaChecked
import Derived.Test.YtgocgcnpgmamiaaRows
import Derived.ChangeOld
import Derived.Lib.SmallJoins
namespace Go.Proofs.Ytgocgcnpgmamiaa
open Go.ChangeShapes Go.WideShapes Go.ChangeAt Go.RowKit Go.Joins
set_option linter.unusedVariables false
set_option linter.unusedSimpArgs false

set_option maxHeartbeats 4000000 in
set_option maxRecDepth 100000 in
theorem fnExactLoudest_core (u v : Option Addr) (n cap m cbp K : Nat) (L P : List Nat) (F : Option Nat) (C : Int) (w : World) (hnn : n ≤ 1048576) (hmm : m ≤ 1048576) (HL : Hid (L.length = n * 3)) (HPL : Hid (P.length = m))
    (HT : Hid (∀ W, Below w.heap.size w W → Calls Try.prog 21 #[.slice u n cap] W fun e w' => (∃ g, e = .returned (.slice (some ⟨g, 0, none⟩) n n) ∧ W.heap.size ≤ g ∧ fblk .f64 w' g 30 L) ∧ Below W.heap.size W w'))
    (HTP : Hid (∀ W, Below w.heap.size w W → Calls Try.prog 28 #[.slice v m cbp] W fun e w' => (∃ h, e = .returned (.slice (some ⟨h, 0, none⟩) m m) ∧ W.heap.size ≤ h ∧ fblk .f64 w' h 28 P) ∧ Below W.heap.size W w'))
    (HM : Hid (∀ (g h : Nat) (W : World), fblk .f64 W g 30 L → fblk .f64 W h 28 P → Calls Try.prog 15 #[.slice (some ⟨g, 0, none⟩) n n, .slice (some ⟨h, 0, none⟩) m m] W fun e w' => (∃ b, e = .returned (.tuple #[.int .i64 (K : Int), .float .f64 b, .int .i64 C]) ∧ Fv .f64 b = F) ∧ Below W.heap.size W w'))
    (HP : Hid (∀ (g h : Nat) (W : World), fblk .f64 W g 30 L → fblk .f64 W h 28 P → Calls Try.prog 14 #[.slice (some ⟨g, 0, none⟩) n n, .slice (some ⟨h, 0, none⟩) m m] W fun e w' => (∃ b, e = .returned (.tuple #[.int .i64 (K : Int), .float .f64 b, .int .i64 C]) ∧ Fv .f64 b = F) ∧ Below W.heap.size W w')) :
    Calls Try.prog 8 #[.slice u n cap, .slice v m cbp] w fun e w' => e = .returned (.bool true) ∧ Below w.heap.size w w' := by
  have HE := hide (fun (g g' : Nat) (W : World) (hg : fblk .f64 W g 30 L) (hg' : fblk .f64 W g' 30 L) => ms_same (some ⟨g, 0, none⟩) (some ⟨g', 0, none⟩) g 0 g' 0 n n n L L W (unhide HL) rfl (by omega) hg.fls hg'.fls)
  have HEP := hide (fun (g g' : Nat) (W : World) (hg : fblk .f64 W g 28 P) (hg' : fblk .f64 W g' 28 P) => f1_same (some ⟨g, 0, none⟩) (some ⟨g', 0, none⟩) g 0 g' 0 m m m P P W (unhide HPL) rfl (by omega) hg.fls hg'.fls)
  have cc : (C != C) = false := by simp
  have kk : ((K : Int) != (K : Int)) = false := by simp
  have n0 : (0 : Int) ≤ (n : Int) := Int.natCast_nonneg _
  have zz : decide ((1048576 : Int) - (n : Int) < 0) = false := decide_eq_false (by omega)
  have zm : decide ((1048576 : Int) < (m : Int)) = false := decide_eq_false (by omega)
  go_enter Try.func8, Try.ntmps8
  go_wp2_with fail
  refine (ms_sz_in u n cap 1048576 w (by omega) (by omega)).mono ?_
  rintro e w' ⟨rfl, hq⟩
  rw [hq]
  clear hq
  go_wp2_with fail
  refine (unhide HT _ (Below.refl _ _)).mono ?_
  rintro e W1 ⟨⟨g1, rfl, hg1, hk1⟩, hb1⟩
  have HW1 := hide hb1
  have HK1 := hide hk1
  clear hg1 hk1 hb1
  go_wp2_with fail
  refine (unhide HTP _ (unhide HW1)).mono ?_
  rintro e W2 ⟨⟨h2, rfl, hg2, hk2⟩, hb⟩
  have HW2 := hide (bc (unhide HW1) hb)
  have HK1a := hide ((unhide HK1).bel hb)
  have HK2 := hide hk2
  clear hg2 hk2 hb HK1 HW1
  go_wp2_with fail
  refine (unhide HM g1 h2 _ (unhide HK1a) (unhide HK2)).mono ?_
  rintro e W3 ⟨⟨b3, rfl, f3⟩, hb⟩
  have HW3 := hide (bc (unhide HW2) hb)
  have HF3 := hide f3
  clear f3 hb HK1a HK2 HW2
  go_wp2_with fail
  refine (unhide HT _ (unhide HW3)).mono ?_
  rintro e W4 ⟨⟨g4, rfl, hg4, hk4⟩, hb⟩
  have HW4 := hide (bc (unhide HW3) hb)
  have HX := hide hk4
  clear hg4 hk4 hb HW3
  go_wp2_with fail
  refine (unhide HTP _ (unhide HW4)).mono ?_
  rintro e W5 ⟨⟨h5, rfl, hg5, hk5⟩, hb⟩
  have HW5 := hide (bc (unhide HW4) hb)
  have HXa := hide ((unhide HX).bel hb)
  have HY := hide hk5
  clear hg5 hk5 hb HW4 HX
  go_wp2_with fail
  refine (unhide HP g4 h5 _ (unhide HXa) (unhide HY)).mono ?_
  rintro e W6 ⟨⟨b6, rfl, f6⟩, hb⟩
  have HW6 := hide (bc (unhide HW5) hb)
  have HXb := hide ((unhide HXa).bel hb)
  have HYb := hide ((unhide HY).bel hb)
  have HF6 := hide f6
  clear f6 hb HW5 HXa HY
  go_wp2_with fail
  refine (same_flt b6 b3 _ ((unhide HF6).trans (unhide HF3).symm)).mono ?_
  rintro e W7 ⟨rfl, hs⟩
  have HW7 := hide ((unhide HW6).trans hs.bel)
  have HXc := hide ((unhide HXb).bel hs.bel)
  have HYc := hide ((unhide HYb).bel hs.bel)
  clear hs HW6 HXb HYb
  go_wp2_with fail
  refine (unhide HT _ (unhide HW7)).mono ?_
  rintro e W8 ⟨⟨g8, rfl, hg8, hk8⟩, hb⟩
  have HW8 := hide (bc (unhide HW7) hb)
  have HXd := hide ((unhide HXc).bel hb)
  have HYd := hide ((unhide HYc).bel hb)
  have HK8 := hide hk8
  clear hg8 hk8 hb HW7 HXc HYc
  go_wp2_with fail
  refine (unhide HE g4 g8 _ (unhide HXd) (unhide HK8)).mono ?_
  rintro e W9 ⟨rfl, hb⟩
  have HW9 := hide (bc (unhide HW8) hb)
  have HYe := hide ((unhide HYd).bel hb)
  clear hb HW8 HXd HYd HK8
  go_wp2_with fail
  refine (unhide HTP _ (unhide HW9)).mono ?_
  rintro e W10 ⟨⟨h10, rfl, hg10, hk10⟩, hb⟩
  have HW10 := hide (bc (unhide HW9) hb)
  have HYf := hide ((unhide HYe).bel hb)
  have HK10 := hide hk10
  clear hg10 hk10 hb HW9 HYe
  go_wp2_with fail
  refine (unhide HEP h5 h10 _ (unhide HYf) (unhide HK10)).mono ?_
  rintro e W11 ⟨rfl, hb⟩
  have HW11 := hide (bc (unhide HW10) hb)
  clear hb HW10
  go_wp2_with fail
  go_ret
  exact ⟨rfl, unhide HW11⟩
theorem fnExactLoudest_big (u v : Option Addr) (n cap m cbp : Nat) (w : World) (hn : 1048576 < m) :
    Calls Try.prog 8 #[.slice u n cap, .slice v m cbp] w fun e w' => e = .returned (.bool true) ∧ Below w.heap.size w w' := by
  have zm : decide ((1048576 : Int) < (m : Int)) = true := decide_eq_true (by omega)
  go_enter Try.func8, Try.ntmps8
  go_wp2_with fail
  go_ret
  exact ⟨rfl, Below.refl _ _⟩
theorem fnExactLoudest_big2 (u v : Option Addr) (n cap m cbp : Nat) (w : World) (hm : m ≤ 1048576) (hn : 1048576 < n) (hx : n ≤ 9223372036854775807) :
    Calls Try.prog 8 #[.slice u n cap, .slice v m cbp] w fun e w' => e = .returned (.bool true) ∧ Below w.heap.size w w' := by
  have zm : decide ((1048576 : Int) < (m : Int)) = false := decide_eq_false (by omega)
  go_enter Try.func8, Try.ntmps8
  go_wp2_with fail
  refine (ms_sz_out u n cap 1048576 w (by omega) (by omega) (by omega) hx).mono ?_
  rintro e w' ⟨rfl, hq⟩
  rw [hq]
  clear hq
  go_wp2_with fail
  go_ret
  exact ⟨rfl, Below.refl _ _⟩
theorem fls_of' {w : World} {u : Option Addr} {n m : Nat} {L : List Nat} (hl : L.length = n * m) (h : n ≠ 0 → ∃ p po, u = some ⟨p, po, none⟩ ∧ p < w.heap.size ∧ FltsAt .f64 w p po L) : ∃ p po, Fls .f64 w u p po L := by
  by_cases hn : n = 0
  · refine ⟨0, 0, fun h0 => ?_⟩
    subst hn
    rw [Nat.zero_mul] at hl
    exact absurd (List.eq_nil_of_length_eq_zero hl) h0
  · obtain ⟨p, po, h1, h2, h3⟩ := h hn
    exact ⟨p, po, fun _ => ⟨h1, h2, h3⟩⟩
theorem fnExactLoudest_walk (u : Option Addr) (n cap : Nat) (L : List Nat) (v : Option Addr) (m cbp : Nat) (P : List Nat) (w : World) (hn : n ≤ 9223372036854775807) (hl : L.length = n * 3) (hu : n ≠ 0 → ∃ p po, u = some ⟨p, po, none⟩ ∧ p < w.heap.size ∧ FltsAt .f64 w p po L) (hm : m ≤ 9223372036854775807) (hp : P.length = m) (hv : m ≠ 0 → ∃ p po, v = some ⟨p, po, none⟩ ∧ p < w.heap.size ∧ FltsAt .f64 w p po P) :
    Calls Try.prog 8 #[.slice u n cap, .slice v m cbp] w fun e w' => e = .returned (.bool true) ∧ Below w.heap.size w w' := by
  by_cases hb : 1048576 < m
  · exact fnExactLoudest_big u v n cap m cbp w hb
  by_cases hb2 : 1048576 < n
  · exact fnExactLoudest_big2 u v n cap m cbp w (by omega) hb2 hn
  have hnn : n ≤ 1048576 := by omega
  have hmm : m ≤ 1048576 := by omega
  obtain ⟨p, po, hf⟩ := fls_of' hl hu
  obtain ⟨q, qo, hg⟩ := fls_of' (m := 1) (by omega) hv
  exact fnExactLoudest_core u v n cap m cbp (ldR n m L P).2.1 L P (ldR n m L P).2.2 (ldR n m L P).1 w hnn hmm (hide hl) (hide hp)
    (hide fun W hW => ms_to u p po n cap L W hl hnn (hf.bel hW))
    (hide fun W hW => f1_to v q qo m cbp P W hp hmm (hg.bel hW))
    (hide fun g h W hg hh => ldM_any (some ⟨g, 0, none⟩) (some ⟨h, 0, none⟩) g 0 h 0 n n m m L P W hl hn hg.fls hp hm hh.fls)
    (hide fun g h W hg hh => ldP_any (some ⟨g, 0, none⟩) (some ⟨h, 0, none⟩) g 0 h 0 n n m m L P W hl hn hg.fls hp hm hh.fls)
theorem fnExactLoudest_own : ownKnob Try.prog.godebug = none := by kernel_rfl
theorem fnExactLoudest_laidOut : laidOutB Try.prog = true := by kernel_rfl

set_option maxRecDepth 100000 in
theorem fnExactLoudest_lifted (os : Os) (started : os.Started) (H : Type) (enc : TypeId × Value → H) :
    ReturnsInHanded {} Try.checked os 8 .any (Rows.fnExactLoudestSpec.pre6 enc Try.prog Try.f8 Rows.fnExactLoudestRow.domain false) (Rows.fnExactLoudestSpec.post enc Try.prog Try.f8 false true false false) := by
  refine returnsInHanded_of_change (C := Try.checked) fnExactLoudest_own started (by kernel_rfl) Try.func8
    (ChangeSpec.witness6 (enc := enc) (C := Try.checked) false ⟨#[], #[.slice none 0 0, .slice none 0 0], []⟩ 8 (by kernel_rfl) (by kernel_rfl) (by kernel_rfl) (by kernel_rfl)) ?_
  intro W base args ds gs before hval0 hW hcnd _
  have hval : ∀ (j : Nat) t v, Try.f8.params[j]? = some t → args[j]? = some v → Value.okWide Try.prog W .any base t v := hval0
  have hW' := hW
  obtain ⟨p, q, hA0, hV, rfl, hfz, hnd⟩ := hW
  have hA : DataW.TrodAll enc Try.prog W 0 (fun _ => true) true Try.f8.params.toList args.toList ds p := hA0
  rw [Try.params8] at hA hval
  obtain ⟨v0, vs0, d0, ds0, p0, q0, hargs, rfl, rfl, h0, r0⟩ := trodAll_cons hA
  obtain ⟨v1, vs1, d1, ds1, p1, q1, rfl, rfl, rfl, h1, r1⟩ := trodAll_cons r0
  obtain ⟨rfl, rfl, rfl⟩ := trodAll_nil r1
  obtain rfl : args = #[v0, v1] := by cases args; simp_all
  obtain ⟨rfl, rfl⟩ := trodVars_none hV
  obtain ⟨a0, len0, cap0, rfl⟩ := okWide_slice Try.underlying45 (hval 0 45 v0 rfl rfl)
  have k0 := h0
  have lt0 : ∀ x ∈ p0, x.block < W.heap.size := by obtain ⟨m, hm⟩ := k0; exact DataW.trod_lt m _ _ _ hm
  obtain ⟨z0, b0, l0, w0⟩ : ∃ L : List Nat, len0 ≤ 9223372036854775807 ∧ L.length = len0 * 3 ∧ (len0 ≠ 0 → ∃ p po, a0 = some ⟨p, po, none⟩ ∧ p < W.heap.size ∧ FltsAt .f64 W p po L) := by
    obtain ⟨fuel, hf⟩ := h0
    obtain ⟨u, n, cap, L, hcs, hn, hl, hx⟩ := open_fstructs Try.underlying45 Try.underlying85 (k := 3) (by kernel_rfl) (by decide) rfl (by kernel_rfl) hf
    simp [Value.cells] at hcs
    obtain ⟨rfl, rfl, rfl⟩ := hcs
    exact ⟨L, hn, hl, hx⟩
  obtain ⟨a1, len1, cap1, rfl⟩ := okWide_slice Try.underlying35 (hval 1 35 v1 rfl rfl)
  have k1 := h1
  have lt1 : ∀ x ∈ p1, x.block < W.heap.size := by obtain ⟨m, hm⟩ := k1; exact DataW.trod_lt m _ _ _ hm
  obtain ⟨z1, b1, l1, w1⟩ : ∃ L : List Nat, len1 ≤ 9223372036854775807 ∧ L.length = len1 ∧ (len1 ≠ 0 → ∃ p po, a1 = some ⟨p, po, none⟩ ∧ p < W.heap.size ∧ FltsAt .f64 W p po L) := by
    obtain ⟨fuel, hf⟩ := h1
    obtain ⟨u, n, cap, L, hcs, hn, hl, hx⟩ := open_frow Try.underlying35 Try.underlying28 (by kernel_rfl) hf
    simp [Value.cells] at hcs
    obtain ⟨rfl, rfl, rfl⟩ := hcs
    exact ⟨L, hn, hl, hx⟩
  clear hA0 hval0
  refine (fnExactLoudest_walk a0 len0 cap0 z0 a1 len1 cap1 z1 W b0 l0 w0 b1 l1 w1).mono fun e W' ⟨he, bel⟩ => ?_
  subst he
  exact ⟨_, rfl, _, _, _, [], _, [], hW', trodAll_mk1 (shut_bool Try.underlying4 _), (trodAll_cons_mk (Below.trod fnExactLoudest_laidOut (by kernel_rfl) (of_decide_eq_true (by kernel_rfl)) k0 bel lt0) (trodAll_cons_mk (Below.trod fnExactLoudest_laidOut (by kernel_rfl) (of_decide_eq_true (by kernel_rfl)) k1 bel lt1) trodAll_mk0)), rfl, bel.frame _, fun h => by cases h⟩

theorem fnExactLoudest_over : Rows.fnExactLoudestRow.holds Try.pinned (OpenSpec.ofChange Rows.fnExactLoudestSpec) :=
  OpenClaim.holds_of_wide 8 Try.f8 rfl rfl rfl rfl rfl rfl rfl ⟨rfl, rfl, rfl, rfl, rfl⟩ rfl rfl rfl rfl rfl (by kernel_rfl) Try.func8 (by kernel_rfl)
    (of_decide_eq_true (by kernel_rfl)) (by unfold Func.isWrapper; first | (rw [if_pos (by decide +kernel)]; kernel_rfl) | (rw [if_neg (by decide +kernel)]; exact ⟨rfl, rfl⟩))
    (fun os started H enc _ => fnExactLoudest_lifted os started H enc)

/-- The statement, as it was given. -/
theorem fnExactLoudest_holds : Rows.FnExactLoudestSaid := fnExactLoudest_over
#print axioms fnExactLoudest_holds
end Go.Proofs.Ytgocgcnpgmamiaa
