/-
  The model's ChainShare.
-/
import Derived.Test.YtmhdodecofpchaaSoMath
import Derived.Test.YtmhdodecofpchaaShM
import Derived.Test.YtmhdodecofpchaaLinksM
import Derived.Test.YtmhdodecofpchaaLkRows
import Derived.Deep.RegionLaw
namespace Go.Proofs.Ytmhdodecofpchaa
open Go.ChangeShapes Go.WideShapes Go.ChangeAt Go.RowKit
set_option linter.unusedVariables false
set_option linter.unusedSimpArgs false

theorem lks_cellsM {w : World} {p po : Nat} {ls : List Lk} (h : LkAt w p po ls) : ∀ (j : Nat) (x : Value), (flat5 ls)[j]? = some x → w.cell? ((⟨p, po, none⟩ : Addr).add j) = some x := by
  intro j x hj
  have hlt : j < (flat5 ls).length := (List.getElem?_eq_some_iff.1 hj).1
  rw [flat5_len] at hlt
  obtain ⟨l, hl⟩ : ∃ l, ls[j / 5]? = some l := ⟨_, List.getElem?_eq_getElem (by omega)⟩
  obtain ⟨f0, f1, f2, f3, f4⟩ := flat5_at hl
  obtain ⟨h0, h1, h2, h3, h4⟩ := h _ _ hl
  rw [add_none]
  have h5 : j % 5 = 0 ∨ j % 5 = 1 ∨ j % 5 = 2 ∨ j % 5 = 3 ∨ j % 5 = 4 := by omega
  rcases h5 with e | e | e | e | e
  · rw [show j = j / 5 * 5 by omega] at hj ⊢; rw [f0] at hj; rw [← Option.some.inj hj]; exact h0
  · rw [show j = j / 5 * 5 + 1 by omega] at hj ⊢; rw [f1] at hj; rw [← Option.some.inj hj]; exact h1
  · rw [show j = j / 5 * 5 + 2 by omega] at hj ⊢; rw [f2] at hj; rw [← Option.some.inj hj]; exact h2
  · rw [show j = j / 5 * 5 + 3 by omega] at hj ⊢; rw [f3] at hj; rw [← Option.some.inj hj]; exact h3
  · rw [show j = j / 5 * 5 + 4 by omega] at hj ⊢; rw [f4] at hj; rw [← Option.some.inj hj]; exact h4
theorem flat5_oneM {ls : List Lk} : ∀ u ∈ flat5 ls, u.oneCell' = true := by
  induction ls with
  | nil => intro u hu; cases hu
  | cons l ls ih =>
    intro u hu
    simp only [flat5, List.mem_cons] at hu
    rcases hu with rfl | rfl | rfl | rfl | rfl | hu
    · rfl
    · rfl
    · rfl
    · rfl
    · rfl
    · exact ih u hu

set_option maxHeartbeats 4000000 in
set_option maxRecDepth 100000 in
/-- right links, a right total -/
theorem soM_right (p po n cu : Nat) (T : Int) (ls : List Lk) (w : World) (hl : ls.length = n) (hr : Right ls) (hT : 0 ≤ T ∧ T ≤ 100000) (hc : lkCode ls = 0) (hp : p < w.heap.size) (hu : LkAt w p po ls)
    (HLC : Hid (Calls Try.prog 37 #[.slice (some ⟨p, po, none⟩) n cu] w fun e w' => e = .returned (.bool true) ∧ Below w.heap.size w w')) :
    Calls Try.prog 11 #[.slice (some ⟨p, po, none⟩) n cu, .int .i64 T] w fun e w' => (∃ v, e = .returned (.tuple #[v, .int .i64 (soC T ls)]) ∧ OutAt w' w.heap.size v (soL T ls)) ∧ Below w.heap.size w w' := by
  obtain ⟨iP, hi1, hy0, hy1, hy2⟩ := info_parts int_info3
  obtain ⟨iL, hl1, hz0, hz1, hz2⟩ := info_parts lk_info
  have hn0 := hr.1
  have hn1 := hr.2.1
  have HBT := hide (fun W => szM_any T W)
  rw [show szOk T = true from decide_eq_true hT] at HBT
  have HSHM := hide (fun (q cq : Nat) (W : World) (hs : 0 < sumL (wts ls)) (hq : q < W.heap.size) (hI : IntsAt W q 0 (wts ls)) => shM_any q 0 (2 * n) cq T (wts ls) (ranks (rs T (sumL (wts ls)) (wts ls))) W (by rw [wts_len, hl]) (by omega) (by omega) (wts_mem hr.2.2.1) hT hs hq hI (ranked_ranks _))
  have hsum : ∀ i, i ≤ 2 * n → 0 ≤ sumL ((wts ls).take i) ∧ sumL ((wts ls).take i) ≤ 8000000 := by
    intro i hi
    refine ⟨sumL_ge (fun x hx => (wts_mem hr.2.2.1 x (List.mem_of_mem_take hx)).1), ?_⟩
    have := sumL_le (L := (wts ls).take i) (b := 100000) (fun x hx => (wts_mem hr.2.2.1 x (List.mem_of_mem_take hx)).2)
    rw [List.length_take] at this
    omega
  have HSC : Hid (soC T ls = if sumL (wts ls) = 0 then 11 else 0) := hide (by unfold soC; rw [if_neg (by rw [hc]; simp), if_neg (by simp; exact hT)])
  have hsmL : ∀ i, i ≤ n → 0 ≤ sumL (wts (ls.take i)) ∧ sumL (wts (ls.take i)) ≤ 8000000 := by
    intro i hi
    have hm := wts_mem (ls := ls.take i) (fun l hl => hr.2.2.1 l (List.mem_of_mem_take hl))
    refine ⟨sumL_ge (fun x hx => (hm x hx).1), ?_⟩
    have := sumL_le (L := wts (ls.take i)) (b := 100000) (fun x hx => (hm x hx).2)
    rw [wts_len, List.length_take] at this
    omega
  have HSM := hide hsmL
  have HOK := hide hr.2.2.1
  have HL := hide hl
  have HU := hide hu
  have n0 : (0 : Int) ≤ (n : Int) := Int.natCast_nonneg _
  have n1 : (n : Int) ≤ 40 := by omega
  have hnn : 1 ≤ n := by omega
  have hn40 : n ≤ 40 := by omega
  have nz : decide ((4096 : Int) < (n : Int)) = false := decide_eq_false (by omega)
  obtain ⟨hT0, hT1⟩ := hT
  have HWL : Hid ((wts ls).length = 2 * n) := hide (by rw [wts_len, hl])
  have HSL : Hid (sumL (wts ls) ≠ 0 → soL T ls = putTo ls (soSh T ls) n) := hide (fun h => by unfold soL; rw [unhide HSC, if_neg h, if_pos rfl, hl])
  have HSL0 : Hid (sumL (wts ls) = 0 → soL T ls = []) := hide (fun h => by unfold soL; rw [unhide HSC, if_pos h, if_neg (by omega)])
  have HSHD : Hid (soSh T ls = shr T (wts ls) (ranks (rs T (sumL (wts ls)) (wts ls)))) := hide rfl
  clear hsum hsmL hl hu hr hc hn0 hn1
  go_enter Try.func11, Try.ntmps11
  go_wp2_with fail
  refine (unhide HLC).mono ?_
  rintro e W1 ⟨rfl, hb1⟩
  have HB1 := hide hb1
  have hszb := hb1.size
  clear hb1
  go_wp2_with fail
  refine (unhide HBT _).mono ?_
  rintro e W2 ⟨rfl, hW2⟩
  have hW2' := hW2.symm
  subst hW2'
  go_wp2_with fail
  go_loopw [6, 7, 8] (fun v t z W => ∃ (i q c : Nat), v = .slice (some ⟨q, 0, none⟩) (2 * i) c ∧ t = .int .i64 (sumL (wts (ls.take i))) ∧ z = .int .i64 (i : Int) ∧ i ≤ n ∧ Row W w.heap.size 3 1 (.slice (some ⟨q, 0, none⟩) (2 * i) c) (2 * i) (wts (ls.take i)) ∧ Below w.heap.size w W) (fun _ _ z _ => n - (intOf z).toNat)
  case atStart => exact ⟨0, _, _, rfl, by simp [wts, sumL], rfl, Nat.zero_le _, by simpa [wts] using row_made _ 3 _ 1 (by simpa using hszb) _ rfl, ba (unhide HB1) _⟩
  case round =>
    obtain ⟨i, q, c, rfl, rfl, rfl, hi, hrow, hw⟩ := hrel
    have HR := hide hrow
    have HW := hide hw
    have hszw := hw.size
    obtain ⟨_, _, hvg, hg1, hg2, hc1, hc2⟩ := hrow.sm (by simp)
    cases hvg
    clear hrow hw HB1
    by_cases h : i < n
    · have i1 : (i : Int) < (n : Int) := by omega
      have i0 : (0 : Int) ≤ (i : Int) := Int.natCast_nonneg _
      have iz : decide ((i : Int) < (n : Int)) = true := decide_eq_true i1
      obtain ⟨⟨s, a, b, x, y⟩, hx⟩ := get_some (unhide HL) h
      obtain ⟨k0, k1, k2, k3, k4⟩ := (unhide HU).below (unhide HW) hp i _ hx
      simp only at k0 k1 k2 k3 k4
      have HWS := hide (wts_succ hx)
      have hok := unhide HOK _ (List.mem_of_getElem? hx)
      obtain ⟨_, _, _, _, o4, o5, o6, o7⟩ := hok
      simp only at o4 o5 o6 o7
      have hsm := unhide HSM i (by omega)
      obtain ⟨sm0, sm1⟩ := hsm
      have HSS : Hid (sumL (wts (ls.take (i + 1))) = sumL (wts (ls.take i)) + (x + y)) := hide (by rw [wts_succ hx, sumL_app]; simp [sumL_cons, sumL_nil])
      clear hx
      generalize sumL (wts (ls.take i)) = S at *
      have e1 : IntKind.i64.wrap (x + y) = x + y := wrap_i (by omega) (by omega)
      have e2 : IntKind.i64.wrap (S + (x + y)) = S + (x + y) := wrap_i (by omega) (by omega)
      go_wp2_with fail
      go_region_law
        (first
        | (refine step_own (by rfl) (.tmp 31) (.tmp 42) _ (by rfl) w.heap.size 3 iP _ 1 8 Try.underlying32 hi1 hy0 hy1 hy2 rfl (by omega) (.slice (some ⟨q, 0, none⟩) (2 * i) c) (2 * i) ((wts (ls.take i)).map (Value.int .i64)) (by rfl) (by first | exact (unhide HR).alloc _ | exact ((unhide HR).alloc _).drew | exact ((unhide HR).drew.alloc _))
            ⟨_, 0, none⟩ 2 2 ([x, y].map (Value.int .i64)) (by rfl) (by rfl) (by first | exact news_cells _ _ rfl | exact news_cells _ _ (by simp) | exact news_drew _ _ (by simp)) ints_one (by unfold maxLen; omega) (by omega) (by simp; omega) ?_; intro v' wz hown' hgrow hvn; have R := own_more (wr := wr) (news := [x, y]) (by repeat (first | exact Below.refl _ _ | refine Below.alloc ?_ (by first | omega | (simp; omega)) _ | refine Below.drew ?_)) (by simp; omega) (unhide HR) hown' hgrow; have hne : v' ≠ .slice none 0 0 := (fun e => by have := (hvn.1 e).1; cases this); have HRz := hide R; have HNE := hide hne; have z0 := (R.2.cell (p := ⟨p, po + i * 5 + 3, none⟩) hp).trans k3; have z1 := (R.2.cell (p := ⟨p, po + i * 5 + 4, none⟩) hp).trans k4; clear hown' hgrow hvn R hne))
      all_goals
        obtain ⟨q', c', rfl, hq1', hq2', hq3', hq4'⟩ := (unhide HRz).1.sm (unhide HNE)
        go_wp2_with fail
        go_quiet (fail)
        go_wp2_with fail
        go_roundw
        case rel =>
          (try rw [e1])
          (try rw [e2])
          have H : ∃ (i' q c : Nat), Value.slice (some ⟨q', 0, none⟩) (2 * i + 2) c' = .slice (some ⟨q, 0, none⟩) (2 * i') c ∧ Value.int .i64 (S + (x + y)) = .int .i64 (sumL (wts (ls.take i'))) ∧ Value.int .i64 ((i : Int) + 1) = .int .i64 (i' : Int) ∧ i' ≤ n ∧ Row (wz.drewN nq) w.heap.size 3 1 (.slice (some ⟨q, 0, none⟩) (2 * i') c) (2 * i') (wts (ls.take i')) ∧ Below w.heap.size w (wz.drewN nq) := by
            refine ⟨i + 1, q', c', by rw [show 2 * (i + 1) = 2 * i + 2 by omega], by rw [unhide HSS], by simp, h, ?_, ?_⟩
            · rw [unhide HWS, show 2 * (i + 1) = 2 * i + 2 by omega]
              exact (unhide HRz).1
            · exact ((unhide HW).trans (unhide HRz).2).trans ⟨rfl, rfl, rfl, Nat.le_refl _, fun _ _ => rfl⟩
          first | exact H | ((repeat apply Exists.intro); refine ⟨?_, rfl⟩; exact H)
        case measure => simp only [intOf]; omega
    · have i1 : ¬ (i : Int) < (n : Int) := by omega
      have iz : decide ((i : Int) < (n : Int)) = false := decide_eq_false i1
      have en : i = n := by omega
      subst en
      have et : ls.take i = ls := List.take_of_length_le (by rw [unhide HL]; omega)
      have HR2 : Hid (Row wr w.heap.size 3 1 (.slice (some ⟨q, 0, none⟩) (2 * i) c) (2 * i) (wts ls)) := hide (by have := unhide HR; rwa [et] at this)
      have hqI := (unhide HR2).ints
      have HQI := hide hqI
      have hmx := unhide HSM i (Nat.le_refl _)
      rw [et] at hmx ⊢
      clear hqI et HR
      by_cases hs : sumL (wts ls) = 0
      · have HC : Hid (soC T ls = 11 ∧ soL T ls = []) := hide ⟨by rw [unhide HSC, if_pos hs], unhide HSL0 hs⟩
        rw [hs]
        clear HSHM HSC hmx
        go_wp2_with fail
        exact bodyPost_ret (v := .tuple #[.slice (some ⟨wr.heap.size, 0, none⟩) 0 0, .int .i64 11]) (by simp [results, Try.results11, go_sem]) rfl ⟨⟨_, by rw [(unhide HC).1], by rw [(unhide HC).2]; exact out_empty _ _ _ _⟩, ba (unhide HW) _⟩
      · have HC : Hid (soC T ls = 0 ∧ soL T ls = putTo ls (soSh T ls) i) := hide ⟨by rw [unhide HSC, if_neg hs], unhide HSL hs⟩
        have hsz : (sumL (wts ls) == 0) = false := by rw [beq_eq_false_iff_ne]; exact hs
        have HSHM2 := hide (fun W hq hI => unhide HSHM q c W (by omega) hq hI)
        clear HSHM HSC
        have HSS := hide hs
        generalize hsw : sumL (wts ls) = sw at hsz ⊢
        clear hs hmx hsw
        go_wp2_with fail
        refine (unhide HSHM2 _ hg2 (unhide HQI)).mono ?_
        rintro e W4 ⟨⟨gs, cs, rfl, hks⟩, hb4⟩
        rw [← unhide HSHD] at hks
        have HKS := hide hks
        have HB4 := hide (bc (unhide HW) hb4)
        have hsz4 := (unhide HB4).size
        obtain ⟨_, _, hvs, hgs1, hgs2, hcs1, hcs2⟩ := hks.sm (by simp)
        cases hvs
        have HSHL : Hid ((soSh T ls).length = 2 * i) := hide (by rw [unhide HSHD, shr_len]; exact unhide HWL)
        clear hks hb4 HSHM2 HQI HR2
        generalize soSh T ls = sh at *
        generalize hmm : 2 * i = m at *
        have HMM := hide hmm
        have hm80 : m ≤ 80 := by omega
        clear hmm
        go_wp2_with (at_builtin; refine unhide ?_)
        refine hide ?_
        have H0 : Hid ((W4.alloc (.cells #[] 29)).ownsRow W4.heap.size 29 5 (.slice (some ⟨W4.heap.size, 0, none⟩) 0 0) 0 []) := hide (World.ownsRow_made W4 #[] 0 (Nat.le_refl _) (by decide) (by simp))
        refine wpList_append_own _ rfl _ _ 23 rfl W4.heap.size 29 iL _ 5 48 Try.underlying23 hl1 hz0 hz1 hz2 (by first | rfl | decide | simp [lkv, lk0, Value.cells]) (by decide) (.slice (some ⟨W4.heap.size, 0, none⟩) 0 0) 0 [] rfl (unhide H0) ⟨p, po, none⟩ i cu (flat5 ls) rfl (by rw [flat5_len, unhide HL]) (lks_cellsM (((unhide HU).below (unhide HB4) hp).below (ba (Below.refl _ _) _) (by omega))) flat5_oneM (by unfold maxLen; omega) (by omega) (by simp) ?_
        intro v' wz hown' hgrow hvn
        rw [Nat.zero_add, List.nil_append] at hown'
        have hb5 : Below W4.heap.size W4 wz := (ba (Below.refl _ _) _).grown hgrow (by simp) (fun j hj => by simp only [Value.ownBlock, Option.some.injEq] at hj; omega)
        have hne : v' ≠ .slice none 0 0 := fun e => by have := (hvn.1 e).1; cases this
        obtain ⟨gc, cc, rfl⟩ : ∃ g cap, v' = .slice (some ⟨g, 0, none⟩) i cap := by
          rcases hown'.2 with ⟨h1, _⟩ | ⟨g, cap, cur, h1, _⟩
          · exact absurd h1 hne
          · exact ⟨g, cap, h1⟩
        have hlr : LRow wz W4.heap.size gc i cc ls := hown'
        have HLR := hide hlr
        have HKS5 := hide ((unhide HKS).below hb5)
        have HB5 := hide (bc (unhide HB4) hb5)
        obtain ⟨hgc1, hgc2, hgc3, hgc4⟩ := hlr.parts
        have hgg : gc ≠ gs := by omega
        have hgg2 : gs ≠ gc := by omega
        have hwgc : w.heap.size ≤ gc := by omega
        clear hown' hgrow hvn hne hlr hb5 H0
        go_wp2_with fail
        go_loopw [11] (fun z W => ∃ j : Nat, z = .int .i64 (j : Int) ∧ j ≤ i ∧ LRow W W4.heap.size gc i cc (putTo ls sh j) ∧ Row W wr.heap.size 3 1 (.slice (some ⟨gs, 0, none⟩) m cs) m sh ∧ Below w.heap.size w W) (fun z _ => i - (intOf z).toNat)
        case atStart => exact ⟨0, rfl, Nat.zero_le _, by rw [putTo_zero]; exact unhide HLR, unhide HKS5, unhide HB5⟩
        case round =>
          obtain ⟨j, rfl, hj, hlr, hks, hw⟩ := hrel
          have HLR2 := hide hlr
          have HKS2 := hide hks
          have HW2 := hide hw
          by_cases h2 : j < i
          · have j1 : (j : Int) < (i : Int) := by omega
            have j0 : (0 : Int) ≤ (j : Int) := Int.natCast_nonneg _
            have jz : decide ((j : Int) < (i : Int)) = true := decide_eq_true j1
            obtain ⟨⟨s, a, b, x, y⟩, hx⟩ := get_some (unhide HL) h2
            have hat := putTo_at sh hx
            obtain ⟨f0, f1, f2, f3, f4⟩ := flat5_at hat
            have m3 := hlr.cell f3
            have m4 := hlr.cell f4
            simp only at m3 m4
            have fz : ∀ o, wr.frozen? ⟨gc, o, none⟩ = false := hlr.frozen
            have hmm := unhide HMM
            have s0 := hks.cellAt (gtk_some (a := sh) (i := 2 * j) (by rw [unhide HSHL]; omega))
            have s1 := hks.cellAt (gtk_some (a := sh) (i := 2 * j + 1) (by rw [unhide HSHL]; omega))
            have HPS := hide (putTo_step sh hx)
            have HAT := hide hat
            obtain ⟨qa, hqa⟩ : ∃ qa : Nat, 2 * j = qa := ⟨_, rfl⟩
            have hqi : 2 * (j : Int) = (qa : Int) := by omega
            have e1 : IntKind.i64.wrap (2 * (j : Int)) = (qa : Int) := by rw [hqi]; exact wrap_i (by omega) (by omega)
            have e2 : IntKind.i64.wrap ((qa : Int) + 1) = (qa : Int) + 1 := wrap_i (by omega) (by omega)
            have e4 : ((qa : Int) + 1).toNat = qa + 1 := by omega
            have e5 : (0 : Int) ≤ (qa : Int) := by omega
            have e6 : (qa : Int) + 1 < (m : Int) := by omega
            have e7 : (qa : Int) < (m : Int) := by omega
            have e8 : (0 : Int) ≤ (qa : Int) + 1 := by omega
            have l1 : qa < m := by omega
            have l2 : qa + 1 < m := by omega
            have HQA := hide hqa
            rw [hqa] at s0 s1
            clear hqa hmm
            have l3 : j * 5 + 3 ≠ j * 5 + 4 := by omega
            have HY : Hid (∀ (x y : Int), LRow ((wr.setCell ⟨gc, j * 5 + 3, none⟩ (.int .i64 x)).setCell ⟨gc, j * 5 + 4, none⟩ (.int .i64 y)) W4.heap.size gc i cc ((putTo ls sh j).set j ⟨s, a, b, x, y⟩)) := hide (by
              intro x' y'
              have z1 := (unhide HLR2).pl (unhide HAT) x'
              have z2 := z1.mi (l := ⟨s, a, b, x', y⟩) (by rw [List.getElem?_set, if_pos rfl, if_pos (by rw [putTo_len, unhide HL]; exact h2)]) y'
              rw [List.set_set] at z2
              exact z2)
            clear hx hat f0 f1 f2 f3 f4 hlr hks hw
            generalize hg0 : gt sh qa = x0 at s0
            generalize hg1 : gt sh (qa + 1) = x1 at s1
            have HG0 := hide hg0
            have HG1 := hide hg1
            clear hg0 hg1
            go_wp2_with fail
            go_roundw
            case rel =>
              refine ⟨j + 1, by simp, h2, ?_, ?_, ?_⟩
              · rw [← unhide HPS, unhide HQA, unhide HG0, unhide HG1]
                exact unhide HY x0 x1
              · exact ((unhide HKS2).setb hgg2).setb hgg2
              · repeat (first | exact unhide HW2 | refine Below.setCell ?_ (by assumption) _ | refine Below.drew ?_)
            case measure => simp only [intOf]; omega
          · have j1 : ¬ (j : Int) < (i : Int) := by omega
            have jz : decide ((j : Int) < (i : Int)) = false := decide_eq_false j1
            have ej : j = i := by omega
            subst ej
            clear hlr hks hw
            go_wp2_with fail
            refine bodyPost_ret (v := .tuple #[.slice (some ⟨gc, 0, none⟩) j cc, .int .i64 0]) (by simp [results, Try.results11, go_sem]) rfl ⟨⟨_, by rw [(unhide HC).1], ?_⟩, unhide HW2⟩
            rw [(unhide HC).2]
            exact (show LRow _ w.heap.size gc j cc _ from ⟨(unhide HLR2).1, by
              rcases (unhide HLR2).2 with h5 | ⟨g', cap', cur, hv, hB, r⟩
              · exact .inl h5
              · cases hv
                exact .inr ⟨gc, cc, cur, rfl, hwgc, r⟩⟩).out

/-- the model's, at every list and total -/
theorem soM_any (u : Option Addr) (p po n cu : Nat) (T : Int) (ls : List Lk) (w : World) (hl : ls.length = n) (hn : n ≤ 1048576) (hsz : ∀ l ∈ ls, l.nm.size ≤ 1048576) (hu : Lks w u p po ls) :
    Calls Try.prog 11 #[.slice u n cu, .int .i64 T] w fun e w' => (∃ v, e = .returned (.tuple #[v, .int .i64 (soC T ls)]) ∧ OutAt w' w.heap.size v (soL T ls)) ∧ Below w.heap.size w w' := by
  by_cases h0 : 4096 < n
  · have hc : lkCode ls = 2 := by simp [lkCode]; omega
    have hC : soC T ls = 2 := by unfold soC; rw [if_pos (by omega), hc]
    have hL : soL T ls = [] := by unfold soL; rw [hC, if_neg (by omega)]
    rw [hC, hL]
    have t0 : decide ((4096 : Int) < (n : Int)) = true := decide_eq_true (by omega)
    clear hu
    go_enter Try.func11, Try.ntmps11
    go_wp2_with fail
    exact bodyPost_ret (v := .tuple #[.slice (some ⟨w.heap.size, 0, none⟩) 0 0, .int .i64 2]) (by simp [results, Try.results11, go_sem]) rfl ⟨⟨_, rfl, out_empty _ _ _ _⟩, ba (Below.refl _ _) _⟩
  · have t0 : decide ((4096 : Int) < (n : Int)) = false := decide_eq_false (by omega)
    have HLC := hide (linksM_any u p po n cu ls w hl hn hsz hu)
    by_cases hrb : rightB ls = true
    · have hc : lkCode ls = 0 := by simp [lkCode, hrb]; omega
      have hr := of_rightB hrb
      obtain ⟨rfl, hp, hat⟩ := hu (fun e => by have := hr.1; rw [e] at this; simp at this)
      rw [hrb] at HLC
      by_cases hT : 0 ≤ T ∧ T ≤ 100000
      · exact soM_right p po n cu T ls w hl hr hT hc hp hat HLC
      · have HBT := hide (fun W => szM_any T W)
        rw [show szOk T = false from decide_eq_false hT] at HBT
        have hC : soC T ls = 5 := by unfold soC; rw [if_neg (by rw [hc]; simp), if_pos hT]
        have hL : soL T ls = [] := by unfold soL; rw [hC, if_neg (by omega)]
        rw [hC, hL]
        clear hat hC hL hr
        go_enter Try.func11, Try.ntmps11
        go_wp2_with fail
        refine (unhide HLC).mono ?_
        rintro e W1 ⟨rfl, hb1⟩
        have HB1 := hide hb1
        clear hb1
        go_wp2_with fail
        refine (unhide HBT _).mono ?_
        rintro e W2 ⟨rfl, hW2⟩
        have hW2' := hW2.symm
        subst hW2'
        go_wp2_with fail
        exact bodyPost_ret (v := .tuple #[.slice (some ⟨W1.heap.size, 0, none⟩) 0 0, .int .i64 5]) (by simp [results, Try.results11, go_sem]) rfl ⟨⟨_, rfl, out_empty _ _ _ _⟩, ba (unhide HB1) _⟩
    · have hrf : rightB ls = false := by simpa using hrb
      have hc : lkCode ls = 1 := by simp [lkCode, hrf]; omega
      have hC : soC T ls = 1 := by unfold soC; rw [if_pos (by omega), hc]
      have hL : soL T ls = [] := by unfold soL; rw [hC, if_neg (by omega)]
      rw [hC, hL]
      rw [hrf] at HLC
      clear hu hC hL hc
      go_enter Try.func11, Try.ntmps11
      go_wp2_with fail
      refine (unhide HLC).mono ?_
      rintro e W1 ⟨rfl, hb1⟩
      have HB1 := hide hb1
      clear hb1
      go_wp2_with fail
      exact bodyPost_ret (v := .tuple #[.slice (some ⟨W1.heap.size, 0, none⟩) 0 0, .int .i64 1]) (by simp [results, Try.results11, go_sem]) rfl ⟨⟨_, rfl, out_empty _ _ _ _⟩, ba (unhide HB1) _⟩
end Go.Proofs.Ytmhdodecofpchaa
