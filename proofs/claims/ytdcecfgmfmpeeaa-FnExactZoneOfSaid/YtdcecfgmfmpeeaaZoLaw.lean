/-
  The program's ZoneOf answers as the model at every list of points, right or not, and changes none.
-/
import Derived.Test.YtdcecfgmfmpeeaaZoM
import Derived.Test.YtdcecfgmfmpeeaaZoP
import Derived.Test.YtdcecfgmfmpeeaaPtRows
import Derived.Test.YtdcecfgmfmpeeaaOpenRows
import Derived.Test.YtdcecfgmfmpeeaaChecked
import Derived.Test.YtdcecfgmfmpeeaaRows
import Derived.ChangeOld
import Derived.Lib.SmallJoins
namespace Go.Proofs.Ytdcecfgmfmpeeaa
open Go.ChangeShapes Go.WideShapes Go.ChangeAt Go.RowKit Go.Joins
set_option linter.unusedVariables false
set_option linter.unusedSimpArgs false

/-- the numbers in pairs -/
def toPts (L : List Int) (n : Nat) : List Pt := (List.range n).map fun i => (L.getD (i * 2) 0, L.getD (i * 2 + 1) 0)
theorem toPts_len (L : List Int) (n : Nat) : (toPts L n).length = n := by simp [toPts]
theorem toPts_flat (L : List Int) (n : Nat) (hl : L.length = n * 2) : flat2 (toPts L n) = L := by
  apply List.ext_getElem?
  intro j
  by_cases hj : j < n * 2
  · have hi : j / 2 < n := by omega
    have hp : (toPts L n)[j / 2]? = some (L.getD (j / 2 * 2) 0, L.getD (j / 2 * 2 + 1) 0) := by
      unfold toPts
      rw [List.getElem?_map, List.getElem?_range hi]
      rfl
    obtain ⟨f0, f1⟩ := flat2_at hp
    rcases Nat.mod_two_eq_zero_or_one j with e | e
    · have ej : j / 2 * 2 = j := by omega
      rw [ej] at f0
      rw [f0, List.getD_eq_getElem?_getD, List.getElem?_eq_getElem (show j < L.length by omega)]
      rfl
    · have ej : j / 2 * 2 + 1 = j := by omega
      rw [ej] at f1
      rw [f1]
      show some (L.getD j 0) = L[j]?
      rw [List.getD_eq_getElem?_getD, List.getElem?_eq_getElem (show j < L.length by omega)]
      rfl
  · rw [List.getElem?_eq_none (by rw [flat2_len, toPts_len]; omega), List.getElem?_eq_none (by omega)]

set_option maxHeartbeats 1000000 in
theorem eqZ_one (a b c N d : Int) (w : World) : Calls Try.prog 16 #[.agg #[.int .i64 a, .int .i64 b, .int .i64 c, .int .i64 N, .int .i64 d], .agg #[.int .i64 a, .int .i64 b, .int .i64 c, .int .i64 N, .int .i64 d]] w fun e w' => e = .returned (.bool true) ∧ Below w.heap.size w w' := by
  go_enter Try.func16, Try.ntmps16
  go_wp2
  go_ret
  exact ⟨rfl, ba (ba (Below.refl _ _) _) _⟩
/-- a strip laid down -/
theorem strip_new (a b c N d : Int) (W : World) : iblk (W.alloc (.cells #[.int .i64 a, .int .i64 b, .int .i64 c, .int .i64 N, .int .i64 d] 26)) W.heap.size 26 [a, b, c, N, d] := by
  exact iblk_new W 26 [a, b, c, N, d]
theorem strip_bel {w : World} (a b c N d : Int) (W : World) (hb : Below w.heap.size w W) : Below w.heap.size w (W.alloc (.cells #[.int .i64 a, .int .i64 b, .int .i64 c, .int .i64 N, .int .i64 d] 26)) :=
  ba hb _

set_option maxHeartbeats 4000000 in
set_option maxRecDepth 100000 in
theorem fnExactZoneOf_core (u : Option Addr) (n cap p po : Nat) (L : List Int) (C a b c N d : Int) (w : World) (hn : n ≤ 1048576) (HL : Hid (L.length = n * 2))
    (HX : Hid (n ≠ 0 → u = some ⟨p, po, none⟩ ∧ p < w.heap.size ∧ IntsAt w p po L))
    (HM : Hid (∀ (g : Nat) (W : World), iblk W g 30 L → Calls Try.prog 8 #[.slice (some ⟨g, 0, none⟩) n n] W fun e w' => e = .returned (.tuple #[.agg #[.int .i64 a, .int .i64 b, .int .i64 c, .int .i64 N, .int .i64 d], .int .i64 C]) ∧ Below W.heap.size W w'))
    (HP : Hid (∀ (g : Nat) (W : World), iblk W g 30 L → Calls Try.prog 7 #[.slice (some ⟨g, 0, none⟩) n n] W fun e w' => e = .returned (.tuple #[.agg #[.int .i64 a, .int .i64 b, .int .i64 c, .int .i64 N, .int .i64 d], .int .i64 C]) ∧ Below W.heap.size W w')) :
    Calls Try.prog 4 #[.slice u n cap] w fun e w' => e = .returned (.bool true) ∧ Below w.heap.size w w' := by
  have t1 : decide ((1048576 : Int) - (n : Int) < 0) = false := decide_eq_false (by omega)
  have cc : (C != C) = false := by simp
  have HT := hide (fun W (hW : Below w.heap.size w W) => pt_to u p po n cap L W (unhide HL) hn (fun h => ⟨(unhide HX h).1, Nat.lt_of_lt_of_le (unhide HX h).2.1 hW.size, (unhide HX h).2.2.below hW (unhide HX h).2.1⟩))
  go_enter Try.func4, Try.ntmps4
  go_wp2_with fail
  refine (pt_sz_in u n cap 1048576 _ (by omega) (by omega)).mono ?_
  rintro e W0 ⟨rfl, hw0⟩
  have hw0' := hw0.symm
  clear hw0
  subst hw0'
  go_wp2_with fail
  refine (unhide HT _ (Below.refl _ _)).mono ?_
  rintro e W1 ⟨⟨g1, rfl, hg1, hk1⟩, hb1⟩
  have HB1 := hide hb1
  have HK1 := hide hk1
  clear hb1 hk1 hg1
  go_wp2_with fail
  refine (unhide HM _ _ (unhide HK1)).mono ?_
  rintro e W2 ⟨rfl, hb2⟩
  have HB2 := hide (bc (unhide HB1) hb2)
  clear hb2
  go_wp2_with fail
  have HS := hide (strip_new a b c N d W2)
  have HB2s := hide (strip_bel a b c N d W2 (unhide HB2))
  generalize (W2.alloc (.cells #[.int .i64 a, .int .i64 b, .int .i64 c, .int .i64 N, .int .i64 d] 26)) = W2s at *
  generalize W2.heap.size = s1 at *
  refine (unhide HT _ (unhide HB2s)).mono ?_
  rintro e W3 ⟨⟨g2, rfl, hg2, hk2⟩, hb3⟩
  have HB3 := hide (bc (unhide HB2s) hb3)
  have HK2 := hide hk2
  have HS3 := hide ((unhide HS).bel hb3)
  clear hb3 hk2 hg2
  go_wp2_with fail
  refine (unhide HP _ _ (unhide HK2)).mono ?_
  rintro e W4 ⟨rfl, hb4⟩
  have HB4 := hide (bc (unhide HB3) hb4)
  have HK2b := hide ((unhide HK2).bel hb4)
  have HS4 := hide ((unhide HS3).bel hb4)
  have o0 := (unhide HS4).cell (m := 0) rfl
  have o1 := (unhide HS4).cell (m := 1) rfl
  have o2 := (unhide HS4).cell (m := 2) rfl
  have o3 := (unhide HS4).cell (m := 3) rfl
  have o4 := (unhide HS4).cell (m := 4) rfl
  clear hb4
  have HV := hide (strip_new a b c N d W4)
  have HB4s := hide (strip_bel a b c N d W4 (unhide HB4))
  have HSB : Hid (Below W4.heap.size W4 (W4.alloc (.cells #[.int .i64 a, .int .i64 b, .int .i64 c, .int .i64 N, .int .i64 d] 26))) := hide (strip_bel a b c N d W4 (Below.refl _ _))
  have HK2c := hide ((unhide HK2b).bel (unhide HSB))
  have q0 := ((unhide HS4).bel (unhide HSB)).cell (m := 0) rfl
  have q1 := ((unhide HS4).bel (unhide HSB)).cell (m := 1) rfl
  have q2 := ((unhide HS4).bel (unhide HSB)).cell (m := 2) rfl
  have q3 := ((unhide HS4).bel (unhide HSB)).cell (m := 3) rfl
  have q4 := ((unhide HS4).bel (unhide HSB)).cell (m := 4) rfl
  have v0 := (unhide HV).cell (m := 0) rfl
  have v1 := (unhide HV).cell (m := 1) rfl
  have v2 := (unhide HV).cell (m := 2) rfl
  have v3 := (unhide HV).cell (m := 3) rfl
  have v4 := (unhide HV).cell (m := 4) rfl
  clear HS HS3 HSB
  go_wp2_with fail
  generalize (W4.alloc (.cells #[.int .i64 a, .int .i64 b, .int .i64 c, .int .i64 N, .int .i64 d] 26)) = W4s at *
  refine (eqZ_one a b c N d _).mono ?_
  rintro e W5 ⟨rfl, hb5⟩
  have HB5 := hide (bc (unhide HB4s) hb5)
  have HK2d := hide ((unhide HK2c).bel hb5)
  clear hb5
  go_wp2_with fail
  refine (unhide HT _ (unhide HB5)).mono ?_
  rintro e W6 ⟨⟨g3, rfl, hg3, hk3⟩, hb6⟩
  have HB6 := hide (bc (unhide HB5) hb6)
  have HK2e := hide ((unhide HK2d).bel hb6)
  have HK3 := hide hk3
  clear hb6 hk3 hg3
  go_wp2_with fail
  refine (pt_same _ _ g2 0 g3 0 n n n L _ (unhide HL) (by omega) (fun _ => ⟨rfl, (unhide HK2e).lt, (unhide HK2e).ints⟩) (fun _ => ⟨rfl, (unhide HK3).lt, (unhide HK3).ints⟩)).mono ?_
  rintro e W7 ⟨rfl, hb7⟩
  have HB7 := hide (bc (unhide HB6) hb7)
  clear hb7
  go_wp2_with fail
  go_ret
  exact ⟨rfl, unhide HB7⟩
theorem fnExactZoneOf_walk (u : Option Addr) (n cap : Nat) (L : List Int) (w : World) (hn : n ≤ 9223372036854775807) (hl : L.length = n * 2) (hx : n ≠ 0 → ∃ p po, u = some ⟨p, po, none⟩ ∧ p < w.heap.size ∧ IntsAt w p po L) :
    Calls Try.prog 4 #[.slice u n cap] w fun e w' => e = .returned (.bool true) ∧ Below w.heap.size w w' := by
  by_cases hb : n ≤ 1048576
  · obtain ⟨p, po, hx'⟩ : ∃ p po, n ≠ 0 → u = some ⟨p, po, none⟩ ∧ p < w.heap.size ∧ IntsAt w p po L := by
      by_cases h : n = 0
      · exact ⟨0, 0, fun h' => absurd h h'⟩
      · obtain ⟨p, po, h1⟩ := hx h
        exact ⟨p, po, fun _ => h1⟩
    have hlen : (toPts L n).length = n := toPts_len L n
    refine fnExactZoneOf_core u n cap p po L (mcC (toPts L n)) (zoR (toPts L n)).A (zoR (toPts L n)).B (zoR (toPts L n)).C (zoR (toPts L n)).N (zoR (toPts L n)).D w hb (hide hl) (hide hx') (hide fun g W hg => ?_) (hide fun g W hg => ?_)
    · have h := zoM_any g n (toPts L n) W (by rw [hlen]; exact hb) hg.lt (by rw [toPts_flat L n hl]; exact hg.ints)
      rw [hlen] at h
      exact h
    · have h := zoP_any g n (toPts L n) W (by rw [hlen]; exact hb) hg.lt (by rw [toPts_flat L n hl]; exact hg.ints)
      rw [hlen] at h
      exact h
  · have HX := hide hx
    clear hx
    go_enter Try.func4, Try.ntmps4
    go_wp2_with fail
    refine (pt_sz_out u n cap 1048576 _ (by omega) (by omega) (by omega) hn).mono ?_
    rintro e W0 ⟨rfl, rfl⟩
    go_wp2_with fail
    go_ret
    exact ⟨rfl, Below.refl _ _⟩

theorem fnExactZoneOf_own : ownKnob Try.prog.godebug = none := by kernel_rfl
theorem fnExactZoneOf_laidOut : laidOutB Try.prog = true := by kernel_rfl

set_option maxRecDepth 100000 in
theorem fnExactZoneOf_lifted (os : Os) (started : os.Started) (H : Type) (enc : TypeId × Value → H) :
    ReturnsInHanded {} Try.checked os 4 .any (Rows.fnExactZoneOfSpec.pre6 enc Try.prog Try.f4 Rows.fnExactZoneOfRow.domain false) (Rows.fnExactZoneOfSpec.post enc Try.prog Try.f4 false true false false) := by
  refine returnsInHanded_of_change (C := Try.checked) fnExactZoneOf_own started (by kernel_rfl) Try.func4
    (ChangeSpec.witness6 (enc := enc) (C := Try.checked) false ⟨#[], #[.slice none 0 0], []⟩ 8 (by kernel_rfl) (by kernel_rfl) (by kernel_rfl) (by kernel_rfl)) ?_
  intro W base args ds gs before hval0 hW hcnd _
  have hval : ∀ (j : Nat) t v, Try.f4.params[j]? = some t → args[j]? = some v → Value.okWide Try.prog W .any base t v := hval0
  have hW' := hW
  obtain ⟨p, q, hA0, hV, rfl, hfz, hnd⟩ := hW
  have hA : DataW.TrodAll enc Try.prog W 0 (fun _ => true) true Try.f4.params.toList args.toList ds p := hA0
  rw [Try.params4] at hA hval
  obtain ⟨v0, vs0, d0, ds0, p0, q0, hargs, rfl, rfl, h0, r0⟩ := trodAll_cons hA
  obtain ⟨rfl, rfl, rfl⟩ := trodAll_nil r0
  obtain rfl : args = #[v0] := by cases args; simp_all
  obtain ⟨rfl, rfl⟩ := trodVars_none hV
  obtain ⟨a0, len0, cap0, rfl⟩ := okWide_slice Try.underlying41 (hval 0 41 v0 rfl rfl)
  have k0 := h0
  have lt0 : ∀ x ∈ p0, x.block < W.heap.size := by obtain ⟨m, hm⟩ := k0; exact DataW.trod_lt m _ _ _ hm
  obtain ⟨z0, b0, l0, w0⟩ : ∃ L : List Int, len0 ≤ 9223372036854775807 ∧ L.length = len0 * 2 ∧ (len0 ≠ 0 → ∃ p po, a0 = some ⟨p, po, none⟩ ∧ p < W.heap.size ∧ IntsAt W p po L) := by
    obtain ⟨fuel, hf⟩ := h0
    obtain ⟨u, n, cap, L, hcs, hn, hl, hx⟩ := open_structs Try.underlying41 Try.underlying82 (k := 2) (by kernel_rfl) (by decide) rfl (by kernel_rfl) hf
    simp [Value.cells] at hcs
    obtain ⟨rfl, rfl, rfl⟩ := hcs
    exact ⟨L, hn, hl, hx⟩
  clear hA0 hval0
  refine (fnExactZoneOf_walk a0 len0 cap0 z0 W b0 l0 w0).mono fun e W' ⟨he, bel⟩ => ?_
  subst he
  exact ⟨_, rfl, _, _, _, [], _, [], hW', trodAll_mk1 (shut_bool Try.underlying4 _), (trodAll_cons_mk (Below.trod fnExactZoneOf_laidOut (by kernel_rfl) (of_decide_eq_true (by kernel_rfl)) k0 bel lt0) trodAll_mk0), rfl, bel.frame _, fun h => by cases h⟩

theorem fnExactZoneOf_over : Rows.fnExactZoneOfRow.holds Try.pinned (OpenSpec.ofChange Rows.fnExactZoneOfSpec) :=
  OpenClaim.holds_of_wide 4 Try.f4 rfl rfl rfl rfl rfl rfl rfl ⟨rfl, rfl, rfl, rfl, rfl⟩ rfl rfl rfl rfl rfl (by kernel_rfl) Try.func4 (by kernel_rfl)
    (of_decide_eq_true (by kernel_rfl)) (by unfold Func.isWrapper; first | (rw [if_pos (by decide +kernel)]; kernel_rfl) | (rw [if_neg (by decide +kernel)]; exact ⟨rfl, rfl⟩))
    (fun os started H enc _ => fnExactZoneOf_lifted os started H enc)

/-- The statement, as it was given. -/
theorem fnExactZoneOf_holds : Rows.FnExactZoneOfSaid := fnExactZoneOf_over
#print axioms fnExactZoneOf_holds
end Go.Proofs.Ytdcecfgmfmpeeaa
