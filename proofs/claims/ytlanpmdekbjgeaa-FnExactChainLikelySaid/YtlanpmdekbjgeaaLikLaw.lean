/-
  The program's ChainLikely answers as the model at every list of links, right or not, and at all bounds, and changes none.
-/
import Derived.Test.YtlanpmdekbjgeaaLikM
import Derived.Test.YtlanpmdekbjgeaaLikP
import Derived.Test.YtlanpmdekbjgeaaLkRows
import Derived.Test.YtlanpmdekbjgeaaLkOpen
import Derived.Test.YtlanpmdekbjgeaaChecked
import Derived.Test.YtlanpmdekbjgeaaRows
import Derived.ChangeOld
import Derived.Lib.SmallJoins
namespace Go.Proofs.Ytlanpmdekbjgeaa
open Go.ChangeShapes Go.WideShapes Go.ChangeAt Go.RowKit Go.Joins
set_option linter.unusedVariables false
set_option linter.unusedSimpArgs false

set_option maxHeartbeats 4000000 in
set_option maxRecDepth 100000 in
theorem fnExactChainLikely_walk (u : Option Addr) (n cap p po : Nat) (ls : List Lk) (low high : Int) (w : World) (hn : n ≤ 9223372036854775807) (hl : ls.length = n) (hsz : ∀ l ∈ ls, l.nm.size ≤ maxLen) (hu : Lks w u p po ls) :
    Calls Try.prog 8 #[.slice u n cap, .int .i64 low, .int .i64 high] w fun e w' => e = .returned (.bool true) ∧ Below w.heap.size w w' := by
  have HSZ := hide (lk_sz u p po n cap ls w hl hn hsz hu)
  have HT := hide (fun (h : n ≤ 1048576) (W : World) (hW : Below w.heap.size w W) => lk_to u p po n cap ls W hl h (hu.bel hW))
  have HM := hide (fun (h : n ≤ 1048576 ∧ ∀ l ∈ ls, l.nm.size ≤ 1048576) (g : Nat) (W : World) (hg : vblk W g 30 (flat5 ls)) => likM_any (some ⟨g, 0, none⟩) g 0 n n low high ls W hl h.1 h.2 hg.lks)
  have HP := hide (fun (h : n ≤ 1048576 ∧ ∀ l ∈ ls, l.nm.size ≤ 1048576) (g : Nat) (W : World) (hg : vblk W g 30 (flat5 ls)) => likP_any (some ⟨g, 0, none⟩) g 0 n n low high ls W hl h.1 h.2 hg.lks)
  have HE := hide (fun (h : n ≤ 1048576) (g g' : Nat) (W : World) (hg : vblk W g 30 (flat5 ls)) (hg' : vblk W g' 30 (flat5 ls)) => lk_same (some ⟨g, 0, none⟩) (some ⟨g', 0, none⟩) g 0 g' 0 n n n ls W hl (by omega) hg.lks hg'.lks)
  generalize likB ls low high = A at *
  generalize lkCode ls = C at *
  have cc : (C != C) = false := by simp
  have aa : (A != A) = false := by simp
  clear hu hl hsz
  go_enter Try.func8, Try.ntmps8
  go_wp2_with fail
  refine (unhide HSZ).mono ?_
  rintro e W0 ⟨⟨r, rfl, hr⟩, hb⟩
  have HB0 := hide hb
  clear hb HSZ
  by_cases hz : r < 0
  · have t : decide (r < 0) = true := decide_eq_true hz
    clear hr
    go_wp2_with fail
    go_ret
    exact ⟨rfl, unhide HB0⟩
  have t : decide (r < 0) = false := decide_eq_false hz
  have HIN := hide (hr (by omega))
  have hnn := (unhide HIN).1
  clear hr
  go_wp2_with fail
  refine (unhide HT hnn _ (unhide HB0)).mono ?_
  rintro e W1 ⟨⟨g1, rfl, hg1, hk1⟩, hb1⟩
  have HB1 := hide (bc (unhide HB0) hb1)
  have HK1 := hide hk1
  clear hb1 hk1 hg1
  go_wp2_with fail
  refine (unhide HM (unhide HIN) _ _ (unhide HK1)).mono ?_
  rintro e W2 ⟨rfl, hb2⟩
  have HB2 := hide (bc (unhide HB1) hb2)
  clear hb2
  go_wp2_with fail
  refine (unhide HT hnn _ (unhide HB2)).mono ?_
  rintro e W3 ⟨⟨g2, rfl, hg2, hk2⟩, hb3⟩
  have HB3 := hide (bc (unhide HB2) hb3)
  have HK2 := hide hk2
  clear hb3 hk2 hg2
  go_wp2_with fail
  refine (unhide HP (unhide HIN) _ _ (unhide HK2)).mono ?_
  rintro e W4 ⟨rfl, hb4⟩
  have HB4 := hide (bc (unhide HB3) hb4)
  have HK3 := hide ((unhide HK2).bel hb4)
  clear hb4
  go_wp2_with fail
  refine (unhide HT hnn _ (unhide HB4)).mono ?_
  rintro e W6 ⟨⟨g3, rfl, hg3, hk3⟩, hb6⟩
  have HB6 := hide (bc (unhide HB4) hb6)
  have HK5 := hide ((unhide HK3).bel hb6)
  have HK6 := hide hk3
  clear hb6 hk3 hg3
  go_wp2_with fail
  refine (unhide HE hnn _ _ _ (unhide HK5) (unhide HK6)).mono ?_
  rintro e W7 ⟨rfl, hb7⟩
  have HB7 := hide (bc (unhide HB6) hb7)
  clear hb7
  go_wp2_with fail
  go_ret
  exact ⟨rfl, unhide HB7⟩

theorem fnExactChainLikely_own : ownKnob Try.prog.godebug = none := by kernel_rfl
theorem fnExactChainLikely_laidOut : laidOutB Try.prog = true := by kernel_rfl

set_option maxRecDepth 100000 in
theorem fnExactChainLikely_lifted (os : Os) (started : os.Started) (H : Type) (enc : TypeId × Value → H) :
    ReturnsInHanded {} Try.checked os 8 .any (Rows.fnExactChainLikelySpec.pre6 enc Try.prog Try.f8 Rows.fnExactChainLikelyRow.domain false) (Rows.fnExactChainLikelySpec.post enc Try.prog Try.f8 false true false false) := by
  refine returnsInHanded_of_change (C := Try.checked) fnExactChainLikely_own started (by kernel_rfl) Try.func8
    (ChangeSpec.witness6 (enc := enc) (C := Try.checked) false ⟨#[], #[.slice none 0 0, .int .i64 0, .int .i64 0], []⟩ 8 (by kernel_rfl) (by kernel_rfl) (by kernel_rfl) (by kernel_rfl)) ?_
  intro W base args ds gs before hval0 hW hcnd _
  have hval : ∀ (j : Nat) t v, Try.f8.params[j]? = some t → args[j]? = some v → Value.okWide Try.prog W .any base t v := hval0
  have hW' := hW
  obtain ⟨p, q, hA0, hV, rfl, hfz, hnd⟩ := hW
  have hA : DataW.TrodAll enc Try.prog W 0 (fun _ => true) true Try.f8.params.toList args.toList ds p := hA0
  rw [Try.params8] at hA hval
  obtain ⟨v0, vs0, d0, ds0, p0, q0, hargs0, rfl, rfl, h0, r0⟩ := trodAll_cons hA
  obtain ⟨v1, vs1, d1, ds1, p1, q1, rfl, rfl, rfl, h1, r1⟩ := trodAll_cons r0
  obtain ⟨v2, vs2, d2, ds2, p2, q2, rfl, rfl, rfl, h2, r2⟩ := trodAll_cons r1
  obtain ⟨rfl, rfl, rfl⟩ := trodAll_nil r2
  obtain rfl : args = #[v0, v1, v2] := by cases args; simp_all
  obtain ⟨rfl, rfl⟩ := trodVars_none hV
  obtain ⟨a0, len0, cap0, rfl⟩ := okWide_slice Try.underlying41 (hval 0 41 v0 rfl rfl)
  obtain ⟨i1, rfl, rfl, rfl, w1⟩ := open_int Try.underlying3 (hval 1 3 v1 rfl rfl) h1
  obtain ⟨i2, rfl, rfl, rfl, w2⟩ := open_int Try.underlying3 (hval 2 3 v2 rfl rfl) h2
  have k0 := h0
  have lt0 : ∀ x ∈ p0, x.block < W.heap.size := by obtain ⟨m, hm⟩ := k0; exact DataW.trod_lt m _ _ _ hm
  obtain ⟨pp, po, ls, b0, l0, s0, w0⟩ : ∃ (pp po : Nat) (ls : List Lk), len0 ≤ 9223372036854775807 ∧ ls.length = len0 ∧ (∀ l ∈ ls, l.nm.size ≤ maxLen) ∧ Lks W a0 pp po ls := by
    obtain ⟨fuel, hf⟩ := h0
    obtain ⟨u, n, cap, pp, po, ls, hcs, hn, hl, hs, hx⟩ := open_links Try.underlying41 Try.underlying73 (by kernel_rfl) rfl (by kernel_rfl) hf
    simp [Value.cells] at hcs
    obtain ⟨rfl, rfl, rfl⟩ := hcs
    exact ⟨pp, po, ls, hn, hl, hs, hx⟩
  clear hA0 hval0
  refine (fnExactChainLikely_walk a0 len0 cap0 pp po ls i1 i2 W b0 l0 s0 w0).mono fun e W' ⟨he, bel⟩ => ?_
  subst he
  exact ⟨_, rfl, _, _, _, [], _, [], hW', trodAll_mk1 (shut_bool Try.underlying4 _), (trodAll_cons_mk (Below.trod fnExactChainLikely_laidOut (by kernel_rfl) (of_decide_eq_true (by kernel_rfl)) k0 bel lt0) (trodAll_cons_mk (shut_int Try.underlying3 w1) (trodAll_cons_mk (shut_int Try.underlying3 w2) trodAll_mk0))), rfl, bel.frame _, fun h => by cases h⟩

theorem fnExactChainLikely_over : Rows.fnExactChainLikelyRow.holds Try.pinned (OpenSpec.ofChange Rows.fnExactChainLikelySpec) :=
  OpenClaim.holds_of_wide 8 Try.f8 rfl rfl rfl rfl rfl rfl rfl ⟨rfl, rfl, rfl, rfl, rfl⟩ rfl rfl rfl rfl rfl (by kernel_rfl) Try.func8 (by kernel_rfl)
    (of_decide_eq_true (by kernel_rfl)) (by unfold Func.isWrapper; first | (rw [if_pos (by decide +kernel)]; kernel_rfl) | (rw [if_neg (by decide +kernel)]; exact ⟨rfl, rfl⟩))
    (fun os started H enc _ => fnExactChainLikely_lifted os started H enc)

/-- The statement, as it was given. -/
theorem fnExactChainLikely_holds : Rows.FnExactChainLikelySaid := fnExactChainLikely_over
#print axioms fnExactChainLikely_holds
end Go.Proofs.Ytlanpmdekbjgeaa
