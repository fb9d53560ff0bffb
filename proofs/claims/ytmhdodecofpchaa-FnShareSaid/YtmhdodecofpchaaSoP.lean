/-
  The program's ChainShare.
-/
import Derived.Test.YtmhdodecofpchaaSoMath
import Derived.Test.YtmhdodecofpchaaShP
import Derived.Test.YtmhdodecofpchaaLinksP
import Derived.Test.YtmhdodecofpchaaLkRows
import Derived.BigRegion
import Derived.WalkSpells
namespace Go.Proofs.Ytmhdodecofpchaa
open Go.ChangeShapes Go.WideShapes Go.ChangeAt Go.RowKit
set_option linter.unusedVariables false
set_option linter.unusedSimpArgs false

theorem lks_cells {w : World} {p po : Nat} {ls : List Lk} (h : LkAt w p po ls) : ∀ (j : Nat) (x : Value), (flat5 ls)[j]? = some x → w.cell? ((⟨p, po, none⟩ : Addr).add j) = some x := by
  intro j x hj
  have hlt : j < (flat5 ls).length := (List.getElem?_eq_some_iff.1 hj).1
  rw [flat5_len] at hlt
  obtain ⟨l, hl⟩ : ∃ l, ls[j / 5]? = some l := ⟨_, List.getElem?_eq_getElem (by omega)⟩
  obtain ⟨f0, f1, f2, f3, f4⟩ := flat5_at hl
  obtain ⟨h0, h1, h2, h3, h4⟩ := h _ _ hl
  rw [add_none]
  have h5 : j % 5 = 0 ∨ j % 5 = 1 ∨ j % 5 = 2 ∨ j % 5 = 3 ∨ j % 5 = 4 := by omega
  rcases h5 with e | e | e | e | e
  · rw [show j = j / 5 * 5 by omega] at hj ⊢; rw [f0] at hj; rw [← Option.some.inj hj]; exact h0
  · rw [show j = j / 5 * 5 + 1 by omega] at hj ⊢; rw [f1] at hj; rw [← Option.some.inj hj]; exact h1
  · rw [show j = j / 5 * 5 + 2 by omega] at hj ⊢; rw [f2] at hj; rw [← Option.some.inj hj]; exact h2
  · rw [show j = j / 5 * 5 + 3 by omega] at hj ⊢; rw [f3] at hj; rw [← Option.some.inj hj]; exact h3
  · rw [show j = j / 5 * 5 + 4 by omega] at hj ⊢; rw [f4] at hj; rw [← Option.some.inj hj]; exact h4
theorem flat5_one {ls : List Lk} : ∀ u ∈ flat5 ls, u.oneCell' = true := by
  induction ls with
  | nil => intro u hu; cases hu
  | cons l ls ih =>
    intro u hu
    simp only [flat5, List.mem_cons] at hu
    rcases hu with rfl | rfl | rfl | rfl | rfl | hu
    · rfl
    · rfl
    · rfl
    · rfl
    · rfl
    · exact ih u hu
set_option maxHeartbeats 1000000 in
set_option maxRecDepth 100000 in
/-- slices.Clone at links -/
theorem clone_any (p po n cu : Nat) (ls : List Lk) (w : World) (hl : ls.length = n) (hn : n ≤ 4096) (hp : p < w.heap.size) (hu : LkAt w p po ls) :
    Calls Try.prog 36 #[.slice (some ⟨p, po, none⟩) n cu] w fun e w' => (∃ g cap, e = .returned (.slice (some ⟨g, 0, none⟩) n cap) ∧ LRow w' w.heap.size g n cap ls) ∧ Below w.heap.size w w' := by
  obtain ⟨iP, hi1, hy0, hy1, hy2⟩ := info_parts lk_info
  have HU := hide hu
  have HL := hide hl
  have H0 : Hid ((w.alloc (.cells #[] 29)).ownsRow w.heap.size 29 5 (.slice (some ⟨w.heap.size, 0, none⟩) 0 0) 0 []) := hide (World.ownsRow_made w #[] 0 (Nat.le_refl _) (by decide) (by simp))
  have hnil : ∀ W : World, (binOp .eql 23 (.slice (some ⟨p, po, none⟩) n cu) (.slice none 0 0)).run Try.prog W = .ok (.bool false) W := fun W => Lib.run_eql_slice_nil W _ _ _ _ _ _ _ Try.underlying23
  clear hu hl
  go_enter Try.func36, Try.ntmps36
  go_wp2_with (at_builtin; refine unhide ?_)
  refine hide ?_
  refine wpList_append_own _ rfl _ _ 23 rfl w.heap.size 29 iP _ 5 48 Try.underlying23 hi1 hy0 hy1 hy2 (by first | rfl | decide | simp [lkv, lk0, Value.cells]) (by decide) (.slice (some ⟨w.heap.size, 0, none⟩) 0 0) 0 [] rfl (unhide H0) ⟨p, po, none⟩ n cu (flat5 ls) rfl (by rw [flat5_len, unhide HL]) (lks_cells ((unhide HU).below (ba (Below.refl _ _) _) hp)) flat5_one (by unfold maxLen; omega) (by omega) (by simp) ?_
  intro v' wz hown' hgrow hvn
  rw [Nat.zero_add, List.nil_append] at hown'
  have hb : Below w.heap.size w wz := (ba (Below.refl _ _) _).grown hgrow (by simp) (fun j hj => by simp only [Value.ownBlock, Option.some.injEq] at hj; omega)
  have hne : v' ≠ .slice none 0 0 := fun e => by have := (hvn.1 e).1; cases this
  obtain ⟨g, cap, rfl⟩ : ∃ g cap, v' = .slice (some ⟨g, 0, none⟩) n cap := by
    rcases hown'.2 with ⟨h1, _⟩ | ⟨g, cap, cur, h1, _⟩
    · exact absurd h1 hne
    · exact ⟨g, cap, h1⟩
  have HO := hide hown'
  have HB := hide hb
  clear hown' hgrow hvn hb hne
  go_wp2_with fail
  go_ret
  exact ⟨⟨g, cap, rfl, unhide HO⟩, unhide HB⟩

set_option maxHeartbeats 4000000 in
set_option maxRecDepth 100000 in
/-- right links, a right total -/
theorem soP_right (p po n cu : Nat) (T : Int) (ls : List Lk) (w : World) (hl : ls.length = n) (hr : Right ls) (hT : 0 ≤ T ∧ T ≤ 100000) (hc : lkCode ls = 0) (hp : p < w.heap.size) (hu : LkAt w p po ls)
    (HLC : Hid (Calls Try.prog 32 #[.slice (some ⟨p, po, none⟩) n cu] w fun e w' => e = .returned (.int .i64 0) ∧ Below w.heap.size w w')) :
    Calls Try.prog 10 #[.slice (some ⟨p, po, none⟩) n cu, .int .i64 T] w fun e w' => (∃ v, e = .returned (.tuple #[v, .int .i64 (soC T ls)]) ∧ OutAt w' w.heap.size v (soL T ls)) ∧ Below w.heap.size w w' := by
  obtain ⟨iP, hi1, hy0, hy1, hy2⟩ := info_parts int_info3
  have hn0 := hr.1
  have hn1 := hr.2.1
  have HBT := hide (fun W => btw_any T 0 100000 W)
  rw [show btw T 0 100000 = true from decide_eq_true hT] at HBT
  have HMEM := hide (wts_mem hr.2.2.1)
  have HCL := hide (fun (W : World) (hW : Below w.heap.size w W) => clone_any p po n cu ls W hl (by omega) (Nat.lt_of_lt_of_le hp hW.size) (hu.below hW hp))
  have HSHP := hide (fun (q cq : Nat) (W : World) (hs : 0 < sumL (wts ls)) (hq : q < W.heap.size) (hI : IntsAt W q 0 (wts ls)) => shP_any (some ⟨q, 0, none⟩) q 0 (2 * n) cq T (wts ls) W (by rw [wts_len, hl]) (by omega) (wts_mem hr.2.2.1) hT hs ⟨rfl, hq, hI⟩)
  have hsum : ∀ i, i ≤ 2 * n → 0 ≤ sumL ((wts ls).take i) ∧ sumL ((wts ls).take i) ≤ 8000000 := by
    intro i hi
    refine ⟨sumL_ge (fun x hx => (wts_mem hr.2.2.1 x (List.mem_of_mem_take hx)).1), ?_⟩
    have := sumL_le (L := (wts ls).take i) (b := 100000) (fun x hx => (wts_mem hr.2.2.1 x (List.mem_of_mem_take hx)).2)
    rw [List.length_take] at this
    omega
  have HSO := hide (fun (q cq : Nat) (W : World) (hI : IntsAt W q 0 (wts ls)) => sum_any (some ⟨q, 0, none⟩) q 0 (2 * n) cq (wts ls) W (by rw [wts_len, hl]) (by omega) (fun i hi => by have := hsum i hi; omega) (fun _ => ⟨rfl, hI⟩))
  have HSC : Hid (soC T ls = if sumL (wts ls) = 0 then 11 else 0) := hide (by unfold soC; rw [if_neg (by rw [hc]; simp), if_neg (by simp; exact hT)])
  have HSM := hide hsum
  have HL := hide hl
  have HU := hide hu
  have n0 : (0 : Int) ≤ (n : Int) := Int.natCast_nonneg _
  have n1 : (n : Int) ≤ 40 := by omega
  have hnn : 1 ≤ n := by omega
  have hn40 : n ≤ 40 := by omega
  obtain ⟨hT0, hT1⟩ := hT
  have HWL : Hid ((wts ls).length = 2 * n) := hide (by rw [wts_len, hl])
  have HSL : Hid (sumL (wts ls) ≠ 0 → soL T ls = putTo ls (soSh T ls) n) := hide (fun h => by unfold soL; rw [unhide HSC, if_neg h, if_pos rfl, hl])
  have HSL0 : Hid (sumL (wts ls) = 0 → soL T ls = []) := hide (fun h => by unfold soL; rw [unhide HSC, if_pos h, if_neg (by omega)])
  have HSHD : Hid (soSh T ls = shr T (wts ls) (ranks (rs T (sumL (wts ls)) (wts ls)))) := hide rfl
  clear hsum hl hu hr hc hn0 hn1
  go_enter Try.func10, Try.ntmps10
  go_wp2_with fail
  refine (unhide HLC).mono ?_
  rintro e W1 ⟨rfl, hb1⟩
  have HB1 := hide hb1
  clear hb1
  go_wp2_with fail
  refine (unhide HBT _).mono ?_
  rintro e W2 ⟨rfl, hW2⟩
  have hW2' := hW2.symm
  subst hW2'
  go_wp2_with fail
  go_loopw [7, 23] (fun v z W => ∃ i : Nat, z = .int .i64 (i : Int) ∧ i ≤ n ∧ Row W w.heap.size 3 1 v (2 * i) (wts (ls.take i)) ∧ Below w.heap.size w W) (fun _ z _ => n - (intOf z).toNat)
  case atStart => exact ⟨0, rfl, Nat.zero_le _, by simpa [wts, Row] using World.ownsRow_nil _ _ _ _, unhide HB1⟩
  case round =>
    obtain ⟨i, rfl, hi, hrow, hw⟩ := hrel
    have HR := hide hrow
    have HW := hide hw
    have hszw := hw.size
    clear hrow hw HB1
    by_cases h : i < n
    · have i1 : (i : Int) < (n : Int) := by omega
      have i0 : (0 : Int) ≤ (i : Int) := Int.natCast_nonneg _
      have iz : decide ((i : Int) < (n : Int)) = true := decide_eq_true i1
      obtain ⟨⟨s, a, b, c, d⟩, hx⟩ := get_some (unhide HL) h
      obtain ⟨k0, k1, k2, k3, k4⟩ := (unhide HU).below (unhide HW) hp i _ hx
      simp only at k0 k1 k2 k3 k4
      have HWS := hide (wts_succ hx)
      clear hx
      go_wp2_with (at_builtin; refine unhide ?_)
      refine hide ?_
      refine wpList_append_own _ rfl _ _ 32 rfl w.heap.size 3 iP _ 1 8 Try.underlying32 hi1 hy0 hy1 hy2 rfl (by decide) _ (2 * i) ((wts (ls.take i)).map (Value.int .i64)) rfl (((unhide HR).alloc _).alloc _) _ 2 2 ([c, d].map (Value.int .i64)) rfl rfl (by first | exact news_cells _ _ rfl | exact news_cells _ _ (by simp) | exact news_drew _ _ (by simp)) ints_one (by unfold maxLen; omega) (by omega) (by simp; omega) ?_
      intro v' wz hown' hgrow _
      have R := hide (own_more (wr := wr) (news := [c, d]) (by repeat (first | exact Below.refl _ _ | refine Below.alloc ?_ (by first | omega | (simp; omega)) _ | refine Below.drew ?_)) (by simp; omega) (unhide HR) hown' hgrow)
      clear hown' hgrow
      go_wp2_with fail
      go_roundw
      case rel =>
        have H : ∃ i' : Nat, Value.int .i64 ((i : Int) + 1) = .int .i64 (i' : Int) ∧ i' ≤ n ∧ Row wz w.heap.size 3 1 v' (2 * i') (wts (ls.take i')) ∧ Below w.heap.size w wz := by
          refine ⟨i + 1, by simp, h, ?_, (unhide HW).trans (unhide R).2⟩
          rw [unhide HWS, show 2 * (i + 1) = 2 * i + 2 by omega]
          exact (unhide R).1
        first | exact H | ((repeat apply Exists.intro); refine ⟨?_, rfl⟩; exact H)
      case measure => simp only [intOf]; omega
    · have i1 : ¬ (i : Int) < (n : Int) := by omega
      have iz : decide ((i : Int) < (n : Int)) = false := decide_eq_false i1
      have en : i = n := by omega
      subst en
      have hrow := unhide HR
      rw [List.take_of_length_le (by rw [unhide HL]; omega)] at hrow
      obtain ⟨q, cq, hv, hq1, hq2, hqI, hqc, hqm⟩ := hrow.full (by omega)
      subst hv
      have HQI := hide hqI
      have hmx := unhide HSM (2 * i) (Nat.le_refl _)
      rw [List.take_of_length_le (by rw [unhide HWL]; omega)] at hmx
      have HSO2 := hide (unhide HSO q cq wr hqI)
      clear hrow hqI
      by_cases hs : sumL (wts ls) = 0
      · have HC : Hid (soC T ls = 11 ∧ soL T ls = []) := hide ⟨by rw [unhide HSC, if_pos hs], unhide HSL0 hs⟩
        rw [hs] at HSO2
        clear HSHP HSC hmx
        go_wp2_with fail
        refine (unhide HSO2).mono ?_
        rintro e W3 ⟨rfl, hW3⟩
        have hW3' := hW3.symm
        subst hW3'
        go_wp2_with fail
        exact bodyPost_ret (v := .tuple #[.slice none 0 0, .int .i64 11]) (by simp [results, Try.results10, go_sem]) rfl ⟨⟨_, by rw [(unhide HC).1], by rw [(unhide HC).2]; exact out_none _ _⟩, unhide HW⟩
      · have HC : Hid (soC T ls = 0 ∧ soL T ls = putTo ls (soSh T ls) i) := hide ⟨by rw [unhide HSC, if_neg hs], unhide HSL hs⟩
        have hsz : (sumL (wts ls) == 0) = false := by rw [beq_eq_false_iff_ne]; exact hs
        have HSHP2 := hide (fun W hq hI => unhide HSHP q cq W (by omega) hq hI)
        clear HSHP HSC HSO
        have HSS := hide hs
        generalize hsw : sumL (wts ls) = sw at HSO2 hsz
        clear hs hmx hsw
        go_wp2_with fail
        refine (unhide HSO2).mono ?_
        rintro e W3 ⟨rfl, hW3⟩
        have hW3' := hW3.symm
        subst hW3'
        go_wp2_with fail
        refine (unhide HSHP2 _ hq2 (unhide HQI)).mono ?_
        rintro e W4 ⟨⟨gs, M, rfl, hgs, hrk, hks⟩, hb4⟩
        have hks2 : iblk W4 gs 3 (soSh T ls) := by
          rw [unhide HSHD, ← ranked_one hrk (ranked_ranks _)]
          exact hks
        have HKS := hide hks2
        have HB4 := hide (bc (unhide HW) hb4)
        have hgs2 : w.heap.size ≤ gs := by omega
        have HSHL : Hid ((soSh T ls).length = 2 * i) := hide (by rw [unhide HSHD, shr_len]; exact unhide HWL)
        clear hrk hks hks2 hb4 HSHP2 HSO2 HQI
        generalize soSh T ls = sh at *
        generalize hmm : 2 * i = m at *
        have HMM := hide hmm
        clear hmm
        go_wp2_with fail
        refine (unhide HCL _ (unhide HB4)).mono ?_
        rintro e W5 ⟨⟨gc, cc, rfl, hlr⟩, hb5⟩
        have HLR := hide hlr
        have HKS5 := hide ((unhide HKS).bel hb5)
        have HB5 := hide (bc (unhide HB4) hb5)
        have hgc := hlr.parts
        have hgl := (unhide HKS).lt
        obtain ⟨hgc1, hgc2, hgc3, hgc4⟩ := hgc
        have hgg : gc ≠ gs := by omega
        have hgg2 : gs ≠ gc := by omega
        have hwgc : w.heap.size ≤ gc := by have := (unhide HB4).size; omega
        clear hlr hb5
        go_wp2_with fail
        go_loopw [45] (fun z W => ∃ j : Nat, z = .int .i64 (j : Int) ∧ j ≤ i ∧ LRow W W4.heap.size gc i cc (putTo ls sh j) ∧ iblk W gs 3 sh ∧ Below w.heap.size w W) (fun z _ => i - (intOf z).toNat)
        case atStart => exact ⟨0, rfl, Nat.zero_le _, by rw [putTo_zero]; exact unhide HLR, unhide HKS5, unhide HB5⟩
        case round =>
          obtain ⟨j, rfl, hj, hlr, hks, hw⟩ := hrel
          have HLR2 := hide hlr
          have HKS2 := hide hks
          have HW2 := hide hw
          by_cases h2 : j < i
          · have j1 : (j : Int) < (i : Int) := by omega
            have j0 : (0 : Int) ≤ (j : Int) := Int.natCast_nonneg _
            have jz : decide ((j : Int) < (i : Int)) = true := decide_eq_true j1
            obtain ⟨⟨s, a, b, c, d⟩, hx⟩ := get_some (unhide HL) h2
            have hat := putTo_at sh hx
            obtain ⟨f0, f1, f2, f3, f4⟩ := flat5_at hat
            have m3 := hlr.cell f3
            have m4 := hlr.cell f4
            simp only at m3 m4
            have fz : ∀ o, wr.frozen? ⟨gc, o, none⟩ = false := hlr.frozen
            have hmm := unhide HMM
            have s0 := hks.cell (gtk_some (a := sh) (i := 2 * j) (by rw [unhide HSHL]; omega))
            have s1 := hks.cell (gtk_some (a := sh) (i := 2 * j + 1) (by rw [unhide HSHL]; omega))
            have HPS := hide (putTo_step sh hx)
            have HAT := hide hat
            have HX := hide hx
            obtain ⟨qa, hqa⟩ : ∃ qa : Nat, 2 * j = qa := ⟨_, rfl⟩
            have hqi : 2 * (j : Int) = (qa : Int) := by omega
            have e1 : IntKind.i64.wrap (2 * (j : Int)) = (qa : Int) := by rw [hqi]; exact wrap_i (by omega) (by omega)
            have e2 : IntKind.i64.wrap ((qa : Int) + 1) = (qa : Int) + 1 := wrap_i (by omega) (by omega)
            have e4 : ((qa : Int) + 1).toNat = qa + 1 := by omega
            have e5 : (0 : Int) ≤ (qa : Int) := by omega
            have e6 : (qa : Int) + 1 < (m : Int) := by omega
            have e7 : (qa : Int) < (m : Int) := by omega
            have e8 : (0 : Int) ≤ (qa : Int) + 1 := by omega
            have l1 : qa < m := by omega
            have l2 : qa + 1 < m := by omega
            have HQA := hide hqa
            rw [hqa] at s0 s1
            clear hqa hmm
            have l3 : j * 5 + 3 ≠ j * 5 + 4 := by omega
            have HY : Hid (∀ (x y : Int), LRow ((wr.setCell ⟨gc, j * 5 + 3, none⟩ (.int .i64 x)).setCell ⟨gc, j * 5 + 4, none⟩ (.int .i64 y)) W4.heap.size gc i cc ((putTo ls sh j).set j ⟨s, a, b, x, y⟩)) := hide (by
              intro x y
              have z1 := (unhide HLR2).pl (unhide HAT) x
              have z2 := z1.mi (l := ⟨s, a, b, x, d⟩) (by rw [List.getElem?_set, if_pos rfl, if_pos (by rw [putTo_len, unhide HL]; exact h2)]) y
              rw [List.set_set] at z2
              exact z2)
            clear hx hat f0 f1 f2 f3 f4 hlr hks hw
            generalize hg0 : gt sh qa = x0 at s0
            generalize hg1 : gt sh (qa + 1) = x1 at s1
            have HG0 := hide hg0
            have HG1 := hide hg1
            clear hg0 hg1
            go_wp2_with fail
            go_region
            all_goals
              go_wp2_with fail
              go_roundw
              case rel =>
                refine ⟨j + 1, by simp, h2, ?_, ?_, ?_⟩
                · rw [← unhide HPS, unhide HQA, unhide HG0, unhide HG1]
                  exact unhide HY x0 x1
                · repeat (first | exact unhide HKS2 | refine iblk.setb ?_ (by assumption) | refine iblk.dr ?_)
                · repeat (first | exact unhide HW2 | refine Below.setCell ?_ (by assumption) _ | refine Below.drew ?_)
              case measure => simp only [intOf]; omega
          · have j1 : ¬ (j : Int) < (i : Int) := by omega
            have jz : decide ((j : Int) < (i : Int)) = false := decide_eq_false j1
            have ej : j = i := by omega
            subst ej
            clear hlr hks hw
            go_wp2_with fail
            refine bodyPost_ret (v := .tuple #[.slice (some ⟨gc, 0, none⟩) j cc, .int .i64 0]) (by simp [results, Try.results10, go_sem]) rfl ⟨⟨_, by rw [(unhide HC).1], ?_⟩, unhide HW2⟩
            rw [(unhide HC).2]
            exact (show LRow _ w.heap.size gc j cc _ from ⟨(unhide HLR2).1, by
              rcases (unhide HLR2).2 with h5 | ⟨g', cap', cur, hv, hB, r⟩
              · exact .inl h5
              · cases hv
                exact .inr ⟨gc, cc, cur, rfl, hwgc, r⟩⟩).out

/-- the program's, at every list and total -/
theorem soP_any (u : Option Addr) (p po n cu : Nat) (T : Int) (ls : List Lk) (w : World) (hl : ls.length = n) (hn : n ≤ 1048576) (hsz : ∀ l ∈ ls, l.nm.size ≤ 1048576) (hu : Lks w u p po ls) :
    Calls Try.prog 10 #[.slice u n cu, .int .i64 T] w fun e w' => (∃ v, e = .returned (.tuple #[v, .int .i64 (soC T ls)]) ∧ OutAt w' w.heap.size v (soL T ls)) ∧ Below w.heap.size w w' := by
  have HLC := hide (linksP_any u p po n cu ls w hl hn hsz hu)
  by_cases hc : lkCode ls = 0
  · have hr := soC_right (T := T) hc
    obtain ⟨rfl, hp, hat⟩ := hu (fun e => by have := hr.1; rw [e] at this; simp at this)
    rw [hc] at HLC
    by_cases hT : 0 ≤ T ∧ T ≤ 100000
    · exact soP_right p po n cu T ls w hl hr hT hc hp hat HLC
    · have HBT := hide (fun W => btw_any T 0 100000 W)
      rw [show btw T 0 100000 = false from decide_eq_false hT] at HBT
      have hC : soC T ls = 5 := by unfold soC; rw [if_neg (by rw [hc]; simp), if_pos hT]
      have hL : soL T ls = [] := by unfold soL; rw [hC, if_neg (by omega)]
      rw [hC, hL]
      clear hat hC hL hr
      go_enter Try.func10, Try.ntmps10
      go_wp2_with fail
      refine (unhide HLC).mono ?_
      rintro e W1 ⟨rfl, hb1⟩
      have HB1 := hide hb1
      clear hb1
      go_wp2_with fail
      refine (unhide HBT _).mono ?_
      rintro e W2 ⟨rfl, hW2⟩
      have hW2' := hW2.symm
      subst hW2'
      go_wp2_with fail
      exact bodyPost_ret (v := .tuple #[.slice none 0 0, .int .i64 5]) (by simp [results, Try.results10, go_sem]) rfl ⟨⟨_, rfl, out_none _ _⟩, unhide HB1⟩
  · have hC : soC T ls = lkCode ls := by unfold soC; rw [if_pos hc]
    have hL : soL T ls = [] := by unfold soL; rw [hC, if_neg hc]
    rw [hC, hL]
    have cz : (lkCode ls != 0) = true := by rw [bne_iff_ne]; exact hc
    clear hu hC hL hc
    generalize lkCode ls = C at *
    go_enter Try.func10, Try.ntmps10
    go_wp2_with fail
    refine (unhide HLC).mono ?_
    rintro e W1 ⟨rfl, hb1⟩
    have HB1 := hide hb1
    clear hb1
    go_wp2_with fail
    exact bodyPost_ret (v := .tuple #[.slice none 0 0, .int .i64 C]) (by simp [results, Try.results10, go_sem]) rfl ⟨⟨_, rfl, out_none _ _⟩, unhide HB1⟩
end Go.Proofs.Ytmhdodecofpchaa
