/-
  The program's ChainShare answers as the model at every list of links, right or not, and at all totals; it changes none; its links lie in memory of their own.
-/
import Derived.Test.YtmhdodecofpchaaSoM
import Derived.Test.YtmhdodecofpchaaSoP
import Derived.Test.YtmhdodecofpchaaLkRow
import Derived.Test.YtmhdodecofpchaaLkRows
import Derived.Test.YtmhdodecofpchaaLkOpen
import Derived.Test.YtmhdodecofpchaaChecked
import Derived.Test.YtmhdodecofpchaaRows
import Derived.ChangeOld
import Derived.Lib.SmallJoins
namespace Go.Proofs.Ytmhdodecofpchaa
open Go.ChangeShapes Go.WideShapes Go.ChangeAt Go.RowKit Go.Joins
set_option linter.unusedVariables false
set_option linter.unusedSimpArgs false

/-- an answer's links: where they lie -/
def At (w : World) (u : Option Addr) (q n cap : Nat) (ls : List Lk) : Prop := ls ≠ [] → u = some ⟨q, 0, none⟩ ∧ LRow w 0 q n cap ls
theorem At.bel {w w' : World} {u : Option Addr} {q n cap : Nat} {ls : List Lk} (h : At w u q n cap ls) (hb : Below w.heap.size w w') : At w' u q n cap ls := fun h0 => ⟨(h h0).1, (h h0).2.bel hb⟩
theorem At.lks {w : World} {u : Option Addr} {q n cap : Nat} {ls : List Lk} (h : At w u q n cap ls) : Lks w u q 0 ls := fun h0 => by
  obtain ⟨h1, h2⟩ := h h0
  rw [h1]
  exact h2.lks h0
theorem LRow.low {w : World} {B g n cap : Nat} {ls : List Lk} (h : LRow w B g n cap ls) : LRow w 0 g n cap ls := ⟨h.1, by
  rcases h.2 with h5 | ⟨g', cap', cur, hv, hB, r⟩
  · exact .inl h5
  · exact .inr ⟨g', cap', cur, hv, Nat.zero_le _, r⟩⟩
theorem OutAt.get {w : World} {B n : Nat} {v : Value} {ls : List Lk} (h : OutAt w B v ls) (hn : ls.length = n) : ∃ u q cap, v = .slice u n cap ∧ At w u q n cap ls ∧ (ls ≠ [] → B ≤ q) := by
  obtain ⟨u, cap, hv, hx⟩ := h
  by_cases h0 : ls = []
  · exact ⟨u, 0, cap, by rw [hv, hn], fun h => absurd h0 h, fun h => absurd h0 h⟩
  · obtain ⟨g, hu, hr⟩ := hx h0
    exact ⟨u, g, cap, by rw [hv, hn], fun _ => ⟨hu, by rw [← hn]; exact hr.low⟩, fun _ => hr.parts.1⟩
theorem At.mw {w w' : World} {u : Option Addr} {q n cap g : Nat} {ls : List Lk} (h : At w u q n cap ls) (hm : Mw g w w') (hg : ls ≠ [] → q ≠ g) : At w' u q n cap ls := fun h0 => ⟨(h h0).1, (h h0).2.kept (hm.block q (h h0).2.parts.2.1 (hg h0))⟩

set_option maxHeartbeats 4000000 in
set_option maxRecDepth 100000 in
theorem fnExactChainShare_core (u : Option Addr) (n cap m : Nat) (ls : List Lk) (T : Int) (F : List Lk) (C : Int) (w : World) (hm : F.length = m) (hm40 : m ≤ 40) (hnn : n ≤ 1048576) (HL : Hid (ls.length = n))
    (HSZ : Hid (Calls Try.prog 17 #[.slice u n cap, .int .i64 1048576] w fun e w' => (∃ r : Int, e = .returned (.int .i64 r)) ∧ Below w.heap.size w w'))
    (HT : Hid (∀ (W : World), Below w.heap.size w W → Calls Try.prog 18 #[.slice u n cap] W fun e w' => (∃ g, e = .returned (.slice (some ⟨g, 0, none⟩) n n) ∧ W.heap.size ≤ g ∧ vblk w' g 29 (flat5 ls)) ∧ Below W.heap.size W w'))
    (HM : Hid (∀ (g : Nat) (W : World), vblk W g 29 (flat5 ls) → Calls Try.prog 11 #[.slice (some ⟨g, 0, none⟩) n n, .int .i64 T] W fun e w' => (∃ v, e = .returned (.tuple #[v, .int .i64 C]) ∧ OutAt w' W.heap.size v F) ∧ Below W.heap.size W w'))
    (HP : Hid (∀ (g : Nat) (W : World), vblk W g 29 (flat5 ls) → Calls Try.prog 10 #[.slice (some ⟨g, 0, none⟩) n n, .int .i64 T] W fun e w' => (∃ v, e = .returned (.tuple #[v, .int .i64 C]) ∧ OutAt w' W.heap.size v F) ∧ Below W.heap.size W w')) :
    Calls Try.prog 5 #[.slice u n cap, .int .i64 T] w fun e w' => e = .returned (.bool true) ∧ Below w.heap.size w w' := by
  have HE := hide (fun (g g' : Nat) (W : World) (hg : vblk W g 29 (flat5 ls)) (hg' : vblk W g' 29 (flat5 ls)) => lk_same (some ⟨g, 0, none⟩) (some ⟨g', 0, none⟩) g 0 g' 0 n n n ls W (unhide HL) (by omega) hg.lks hg'.lks)
  have HFE := hide (fun (u v : Option Addr) (p q cu cv : Nat) (W : World) (hu : At W u p m cu F) (hv : At W v q m cv F) => lk_same u v p 0 q 0 m cu cv F W hm (by omega) hu.lks hv.lks)
  have HMF := hide hm
  have HFN : Hid (m ≠ 0 → F ≠ []) := hide (fun h e => h (by rw [← hm, e]; rfl))
  have cc : (C != C) = false := by simp
  clear hm
  go_enter Try.func5, Try.ntmps5
  go_wp2_with fail
  refine (unhide HSZ).mono ?_
  rintro e W0 ⟨⟨r, rfl⟩, hb⟩
  have HB0 := hide hb
  clear hb HSZ
  by_cases hz : r < 0
  · have t : decide (r < 0) = true := decide_eq_true hz
    go_wp2_with fail
    go_ret
    exact ⟨rfl, unhide HB0⟩
  have t : decide (r < 0) = false := decide_eq_false hz
  go_wp2_with fail
  refine (unhide HT _ (unhide HB0)).mono ?_
  rintro e W1 ⟨⟨g1, rfl, hg1, hk1⟩, hb1⟩
  have HB1 := hide (bc (unhide HB0) hb1)
  have HK1 := hide hk1
  clear hb1 hk1 hg1
  go_wp2_with fail
  refine (unhide HM _ _ (unhide HK1)).mono ?_
  rintro e W2 ⟨⟨v1, rfl, ho1⟩, hb2⟩
  obtain ⟨u1, q1, k1, rfl, ha1, hq1⟩ := ho1.get (unhide HMF)
  have HB2 := hide (bc (unhide HB1) hb2)
  have HI1 := hide ha1
  clear hb2 ha1 ho1 HM hq1
  go_wp2_with fail
  refine (unhide HT _ (unhide HB2)).mono ?_
  rintro e W3 ⟨⟨g2, rfl, hg2, hk2⟩, hb3⟩
  have HB3 := hide (bc (unhide HB2) hb3)
  have HK2 := hide hk2
  have HG2 := hide (Nat.le_trans (unhide HB2).size hg2)
  have HQ1 : Hid (F ≠ [] → q1 < g2) := hide (fun h => Nat.lt_of_lt_of_le (unhide HI1 h).2.parts.2.1 hg2)
  have HI2 := hide ((unhide HI1).bel hb3)
  clear hb3 hk2 hg2
  go_wp2_with fail
  refine (unhide HP _ _ (unhide HK2)).mono ?_
  rintro e W4 ⟨⟨v2, rfl, ho2⟩, hb4⟩
  obtain ⟨u2, q2, k2, rfl, ha2, hq2⟩ := ho2.get (unhide HMF)
  have HB4 := hide (bc (unhide HB3) hb4)
  have HK3 := hide ((unhide HK2).bel hb4)
  have HI3 := hide ((unhide HI2).bel hb4)
  have hg2lt := (unhide HK2).lt
  have HQ2 : Hid (F ≠ [] → g2 < q2) := hide (fun h => Nat.lt_of_lt_of_le hg2lt (hq2 h))
  have HJ1 := hide ha2
  clear hb4 ha2 ho2 hg2lt hq2
  go_wp2_with fail
  refine (unhide HFE u2 u1 q2 q1 k2 k1 _ (unhide HJ1) (unhide HI3)).mono ?_
  rintro e W5 ⟨rfl, hb5⟩
  have HB5 := hide (bc (unhide HB4) hb5)
  have HK4 := hide ((unhide HK3).bel hb5)
  have HI4 := hide ((unhide HI3).bel hb5)
  have HJ2 := hide ((unhide HJ1).bel hb5)
  clear hb5
  go_wp2_with fail
  refine (unhide HT _ (unhide HB5)).mono ?_
  rintro e W6 ⟨⟨g3, rfl, hg3, hk3⟩, hb6⟩
  have HB6 := hide (bc (unhide HB5) hb6)
  have HK5 := hide ((unhide HK4).bel hb6)
  have HI5 := hide ((unhide HI4).bel hb6)
  have HJ3 := hide ((unhide HJ2).bel hb6)
  have HK6 := hide hk3
  clear hb6 hk3 hg3
  go_wp2_with fail
  refine (unhide HE _ _ _ (unhide HK5) (unhide HK6)).mono ?_
  rintro e W7 ⟨rfl, hb7⟩
  have HB7 := hide (bc (unhide HB6) hb7)
  have HK7 := hide ((unhide HK5).bel hb7)
  have HI6 := hide ((unhide HI5).bel hb7)
  have HJ4 := hide ((unhide HJ3).bel hb7)
  clear hb7
  go_wp2_with fail
  refine (lk_mark (some ⟨g2, 0, none⟩) g2 n n 1 ls _ (unhide HL) hnn (by omega) (by omega) (fun _ => ⟨rfl, unhide HK7⟩)).mono ?_
  rintro e W8 ⟨rfl, _, hmw⟩
  have t2 : decide (((1 : Nat) : Int) + 5 * (n : Int) < 0) = false := decide_eq_false (by omega)
  have t2b : decide ((1 : Int) + 5 * (n : Int) < 0) = false := decide_eq_false (by omega)
  have HB8 : Hid (Below w.heap.size w W8) := hide ((unhide HB7).trans (hmw.below (unhide HG2) (unhide HB7).size))
  have HI7 := hide ((unhide HI6).mw hmw (fun h => Nat.ne_of_lt (unhide HQ1 h)))
  have HJ5 := hide ((unhide HJ4).mw hmw (fun h => Nat.ne_of_gt (unhide HQ2 h)))
  clear hmw HK1 HK2 HK3 HK4 HK5 HK6 HK7
  go_wp2_with fail
  refine (unhide HFE u2 u1 q2 q1 k2 k1 _ (unhide HJ5) (unhide HI7)).mono ?_
  rintro e W9 ⟨rfl, hb9⟩
  have HB9 := hide (bc (unhide HB8) hb9)
  have HI8 := hide ((unhide HI7).bel hb9)
  have HJ6 := hide ((unhide HJ5).bel hb9)
  clear hb9
  go_wp2_with fail
  refine (lk_markR u2 0 q2 m k2 1 F _ (unhide HMF) (by omega) (by omega) (by omega) (fun h => unhide HJ6 (unhide HFN h))).mono ?_
  rintro e W10 ⟨rfl, hj10, hz10, hmw⟩
  have HB10 : Hid (Below w.heap.size w W10) := hide (by
    by_cases h0 : F = []
    · rw [hz10 (by rw [← unhide HMF, h0]; rfl)]; exact unhide HB9
    · exact (unhide HB9).trans (hmw.below (Nat.le_trans (unhide HG2) (Nat.le_of_lt (unhide HQ2 h0))) (unhide HB9).size))
  have HI9 := hide ((unhide HI8).mw hmw (fun h => Nat.ne_of_lt (Nat.lt_trans (unhide HQ1 h) (unhide HQ2 h))))
  have HJ7 : Hid (∀ W, Below W10.heap.size W10 W → Lks W u2 q2 0 (mkLs 1 m)) := hide (fun W hW h0 => by
    have hm0 : m ≠ 0 := fun e => h0 (List.eq_nil_of_length_eq_zero (by rw [mkLs_len]; exact e))
    have hr := (hj10 hm0).bel hW
    rw [(unhide HJ6 (unhide HFN hm0)).1]
    exact hr.lks h0)
  clear hj10 hz10 hmw
  go_wp2_with fail
  refine (lk_held u2 q2 0 m k2 1 _ (by omega) (by omega) (by omega) (unhide HJ7 _ (Below.refl _ _))).mono ?_
  rintro e W11 ⟨rfl, hb11⟩
  have t3 : decide (((1 : Nat) : Int) + 5 * (m : Int) < 0) = false := decide_eq_false (by omega)
  have t3b : decide ((1 : Int) + 5 * (m : Int) < 0) = false := decide_eq_false (by omega)
  have t4 : ((1 : Int) + 5 * (m : Int) != 1 + 5 * (m : Int)) = false := by simp
  have HC11 := hide hb11
  have HB11 := hide (bc (unhide HB10) hb11)
  have HI10 := hide ((unhide HI9).bel hb11)
  clear hb11
  go_wp2_with fail
  refine (unhide HT _ (unhide HB11)).mono ?_
  rintro e W12 ⟨⟨g4, rfl, hg4, hk4⟩, hb12⟩
  have HB12 := hide (bc (unhide HB11) hb12)
  have HC12 := hide (bc (unhide HC11) hb12)
  have HK8 := hide hk4
  have HI11 := hide ((unhide HI10).bel hb12)
  clear hb12 hk4 hg4
  go_wp2_with fail
  refine (unhide HP _ _ (unhide HK8)).mono ?_
  rintro e W13 ⟨⟨v3, rfl, ho3⟩, hb13⟩
  obtain ⟨u3, q3, k3, rfl, ha3, hq3⟩ := ho3.get (unhide HMF)
  have HB13 := hide (bc (unhide HB12) hb13)
  have HC13 := hide (bc (unhide HC12) hb13)
  have HI12 := hide ((unhide HI11).bel hb13)
  have HN := hide ha3
  clear hb13 ha3 ho3 hq3
  go_wp2_with fail
  refine (unhide HFE u3 u1 q3 q1 k3 k1 _ (unhide HN) (unhide HI12)).mono ?_
  rintro e W14 ⟨rfl, hb14⟩
  have HB14 := hide (bc (unhide HB13) hb14)
  have HC14 := hide (bc (unhide HC13) hb14)
  clear hb14
  go_wp2_with fail
  refine (lk_held u2 q2 0 m k2 1 _ (by omega) (by omega) (by omega) (unhide HJ7 _ (unhide HC14))).mono ?_
  rintro e W15 ⟨rfl, hb15⟩
  have HB15 := hide (bc (unhide HB14) hb15)
  clear hb15
  go_wp2_with fail
  go_ret
  exact ⟨rfl, unhide HB15⟩

theorem soL_len (T : Int) (ls : List Lk) : (soL T ls).length ≤ 40 := by
  unfold soL
  split
  · rename_i h
    rw [putTo_len]
    have hc : lkCode ls = 0 := by
      unfold soC at h
      by_cases e : lkCode ls = 0
      · exact e
      · rw [if_pos e] at h; exact h
    exact (soC_right (T := T) hc).2.1
  · simp

set_option maxHeartbeats 1000000 in
theorem fnExactChainShare_walk (u : Option Addr) (n cap p po : Nat) (ls : List Lk) (T : Int) (w : World) (hn : n ≤ 9223372036854775807) (hl : ls.length = n) (hsz : ∀ l ∈ ls, l.nm.size ≤ maxLen) (hu : Lks w u p po ls) :
    Calls Try.prog 5 #[.slice u n cap, .int .i64 T] w fun e w' => e = .returned (.bool true) ∧ Below w.heap.size w w' := by
  by_cases h : n ≤ 1048576 ∧ ∀ l ∈ ls, l.nm.size ≤ 1048576
  · exact fnExactChainShare_core u n cap (soL T ls).length ls T (soL T ls) (soC T ls) w rfl (soL_len T ls) h.1 (hide hl)
      (hide ((lk_sz u p po n cap ls w hl hn hsz hu).mono fun e w' ⟨⟨r, hr, _⟩, hb⟩ => ⟨⟨r, hr⟩, hb⟩))
      (hide fun W hW => lk_to u p po n cap ls W hl h.1 (hu.bel hW))
      (hide fun g W hg => soM_any (some ⟨g, 0, none⟩) g 0 n n T ls W hl h.1 h.2 hg.lks)
      (hide fun g W hg => soP_any (some ⟨g, 0, none⟩) g 0 n n T ls W hl h.1 h.2 hg.lks)
  · have HSZ := hide (lk_sz u p po n cap ls w hl hn hsz hu)
    have HN := hide h
    clear hu hl hsz h
    go_enter Try.func5, Try.ntmps5
    go_wp2_with fail
    refine (unhide HSZ).mono ?_
    rintro e W0 ⟨⟨r, rfl, hr⟩, hb⟩
    have HB0 := hide hb
    have t : decide (r < 0) = true := decide_eq_true (by
      rcases (by omega : r < 0 ∨ 0 ≤ r) with h | h
      · exact h
      · exact absurd (hr h) (unhide HN))
    clear hb HSZ hr
    go_wp2_with fail
    go_ret
    exact ⟨rfl, unhide HB0⟩

theorem fnExactChainShare_own : ownKnob Try.prog.godebug = none := by kernel_rfl
theorem fnExactChainShare_laidOut : laidOutB Try.prog = true := by kernel_rfl

set_option maxRecDepth 100000 in
theorem fnExactChainShare_lifted (os : Os) (started : os.Started) (H : Type) (enc : TypeId × Value → H) :
    ReturnsInHanded {} Try.checked os 5 .any (Rows.fnExactChainShareSpec.pre6 enc Try.prog Try.f5 Rows.fnExactChainShareRow.domain false) (Rows.fnExactChainShareSpec.post enc Try.prog Try.f5 false true false false) := by
  refine returnsInHanded_of_change (C := Try.checked) fnExactChainShare_own started (by kernel_rfl) Try.func5
    (ChangeSpec.witness6 (enc := enc) (C := Try.checked) false ⟨#[], #[.slice none 0 0, .int .i64 0], []⟩ 8 (by kernel_rfl) (by kernel_rfl) (by kernel_rfl) (by kernel_rfl)) ?_
  intro W base args ds gs before hval0 hW hcnd _
  have hval : ∀ (j : Nat) t v, Try.f5.params[j]? = some t → args[j]? = some v → Value.okWide Try.prog W .any base t v := hval0
  have hW' := hW
  obtain ⟨p, q, hA0, hV, rfl, hfz, hnd⟩ := hW
  have hA : DataW.TrodAll enc Try.prog W 0 (fun _ => true) true Try.f5.params.toList args.toList ds p := hA0
  rw [Try.params5] at hA hval
  obtain ⟨v0, vs0, d0, ds0, p0, q0, hargs0, rfl, rfl, h0, r0⟩ := trodAll_cons hA
  obtain ⟨v1, vs1, d1, ds1, p1, q1, rfl, rfl, rfl, h1, r1⟩ := trodAll_cons r0
  obtain ⟨rfl, rfl, rfl⟩ := trodAll_nil r1
  obtain rfl : args = #[v0, v1] := by cases args; simp_all
  obtain ⟨rfl, rfl⟩ := trodVars_none hV
  obtain ⟨a0, len0, cap0, rfl⟩ := okWide_slice Try.underlying44 (hval 0 44 v0 rfl rfl)
  obtain ⟨i1, rfl, rfl, rfl, w1⟩ := open_int Try.underlying3 (hval 1 3 v1 rfl rfl) h1
  have k0 := h0
  have lt0 : ∀ x ∈ p0, x.block < W.heap.size := by obtain ⟨m, hm⟩ := k0; exact DataW.trod_lt m _ _ _ hm
  obtain ⟨pp, po, ls, b0, l0, s0, w0⟩ : ∃ (pp po : Nat) (ls : List Lk), len0 ≤ 9223372036854775807 ∧ ls.length = len0 ∧ (∀ l ∈ ls, l.nm.size ≤ maxLen) ∧ Lks W a0 pp po ls := by
    obtain ⟨fuel, hf⟩ := h0
    obtain ⟨u, n, cap, pp, po, ls, hcs, hn, hl, hs, hx⟩ := open_links Try.underlying44 Try.underlying77 (by kernel_rfl) rfl (by kernel_rfl) hf
    simp [Value.cells] at hcs
    obtain ⟨rfl, rfl, rfl⟩ := hcs
    exact ⟨pp, po, ls, hn, hl, hs, hx⟩
  clear hA0 hval0
  refine (fnExactChainShare_walk a0 len0 cap0 pp po ls i1 W b0 l0 s0 w0).mono fun e W' ⟨he, bel⟩ => ?_
  subst he
  exact ⟨_, rfl, _, _, _, [], _, [], hW', trodAll_mk1 (shut_bool Try.underlying4 _), (trodAll_cons_mk (Below.trod fnExactChainShare_laidOut (by kernel_rfl) (of_decide_eq_true (by kernel_rfl)) k0 bel lt0) (trodAll_cons_mk (shut_int Try.underlying3 w1) trodAll_mk0)), rfl, bel.frame _, fun h => by cases h⟩

theorem fnExactChainShare_over : Rows.fnExactChainShareRow.holds Try.pinned (OpenSpec.ofChange Rows.fnExactChainShareSpec) :=
  OpenClaim.holds_of_wide 5 Try.f5 rfl rfl rfl rfl rfl rfl rfl ⟨rfl, rfl, rfl, rfl, rfl⟩ rfl rfl rfl rfl rfl (by kernel_rfl) Try.func5 (by kernel_rfl)
    (of_decide_eq_true (by kernel_rfl)) (by unfold Func.isWrapper; first | (rw [if_pos (by decide +kernel)]; kernel_rfl) | (rw [if_neg (by decide +kernel)]; exact ⟨rfl, rfl⟩))
    (fun os started H enc _ => fnExactChainShare_lifted os started H enc)

/-- The statement, as it was given. -/
theorem fnExactChainShare_holds : Rows.FnExactChainShareSaid := fnExactChainShare_over
#print axioms fnExactChainShare_holds
end Go.Proofs.Ytmhdodecofpchaa
