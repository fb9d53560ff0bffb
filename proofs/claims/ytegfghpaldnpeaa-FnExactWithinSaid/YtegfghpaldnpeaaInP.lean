/-
  Where a point lies of a polygon, as the program finds it.
-/
import Derived.Test.YtegfghpaldnpeaaArea
import Derived.Test.YtegfghpaldnpeaaInMath
namespace Go.Proofs.Ytegfghpaldnpeaa
open Go.ChangeShapes Go.WideShapes Go.ChangeAt Go.RowKit Go.Shelf
set_option linter.unusedVariables false
set_option linter.unusedSimpArgs false

theorem cmpI_lt (x y : Int) : decide (cmpI x y < 0) = decide (x < y) := by
  unfold cmpI
  split
  · simp [*]
  · split
    · rename_i h1 h2; simp [h1]
    · rename_i h1 h2; simp [h1]
theorem boundsY_any (a b : Pt) : Hid (∀ W, Calls Try.prog 70 #[ptv a, ptv b, .func (.func 71) #[] #[]] W fun e w' => e = .returned (.tuple #[ptv (lowY a b), ptv (highY a b)]) ∧ Below W.heap.size W w') := hide fun W => by
  have hn := cmpI_lt b.2 a.2
  unfold lowY highY
  by_cases h : b.2 < a.2
  · rw [decide_eq_true h] at hn
    rw [if_pos h, if_pos h]
    exact bounds_lt 71 a.1 a.2 b.1 b.2 (cmpI b.2 a.2) W enters71 hn (hide fun W => heights_ints b.1 b.2 a.1 a.2 W)
  · rw [decide_eq_false h] at hn
    rw [if_neg h, if_neg h]
    exact bounds_ge 71 a.1 a.2 b.1 b.2 (cmpI b.2 a.2) W enters71 hn (hide fun W => heights_ints b.1 b.2 a.1 a.2 W)
theorem lowY_ok {a b : Pt} (ha : ptOk a = true) (hb : ptOk b = true) : ptOk (lowY a b) = true := by unfold lowY; split <;> assumption
theorem highY_ok {a b : Pt} (ha : ptOk a = true) (hb : ptOk b = true) : ptOk (highY a b) = true := by unfold highY; split <;> assumption
def sgI (b : Bool) : Int := if b = true then 1 else -1

set_option maxRecDepth 100000 in
set_option maxHeartbeats 4000000 in
theorem placeIn_any (b off cap n : Nat) (L : List Pt) (x1 x2 : Int) (w : World) (HN : Hid (L.length = n)) (hn : n ≤ 200) (hx : Hid (ptOk (x1, x2) = true)) (HBAD : Hid (firstI (badI L) L.length = none)) (HBB : Hid (b < w.heap.size)) (HX : Hid (PtsAt w b off L)) :
    Calls Try.prog 43 #[.slice (some ⟨b, off, none⟩) n cap, .agg #[.int .i64 x1, .int .i64 x2]] w fun e w' => e = .returned (.int .i64 (within L n (x1, x2))) ∧ Below w.heap.size w w' := by
  have n0 : (0 : Int) ≤ (n : Int) := Int.natCast_nonneg _
  have HF : Hid (∀ i, i < n → (flatG (sides L))[i * 4]? = some (ptAt L i).1 ∧ (flatG (sides L))[i * 4 + 1]? = some (ptAt L i).2 ∧ (flatG (sides L))[i * 4 + 2]? = some (ptAt L ((i + 1) % n)).1 ∧ (flatG (sides L))[i * 4 + 3]? = some (ptAt L ((i + 1) % n)).2) := hide fun i hi => by
    have h1 := flatG_at (sides L) i _ (sides_at L i (by rw [unhide HN]; exact hi))
    rw [unhide HN] at h1
    exact h1
  have H47 := hide (fun W (hW : Below w.heap.size w W) => sidesOf_any b off cap n L W HN hn (Nat.lt_of_lt_of_le (unhide HBB) hW.size) (hide ((unhide HX).bel hW (unhide HBB))))
  generalize flatG (sides L) = F at *
  go_enter Try.func43, Try.ntmps43
  go_wp2_with fail
  have HB0 := hide (ba (Below.refl w.heap.size w) (.cells #[.int .i64 x1, .int .i64 x2] 26))
  have HC0 : Hid (∀ W, Below (w.heap.size + 1) (w.alloc (.cells #[.int .i64 x1, .int .i64 x2] 26)) W → W.cell? ⟨w.heap.size, 0, none⟩ = some (.int .i64 x1) ∧ W.cell? ⟨w.heap.size, 1, none⟩ = some (.int .i64 x2)) := hide fun W hW => by
    refine ⟨?_, ?_⟩ <;> (rw [hW.cell (by simp)]; simp [go_sem])
  refine (unhide H47 _ (unhide HB0)).mono ?_
  rintro e W2 ⟨⟨g, rfl, hg, hk⟩, hb⟩
  have HB2 := hide (show Below (w.heap.size + 1) (w.alloc (.cells #[.int .i64 x1, .int .i64 x2] 26)) W2 from hb.mono (by simp))
  have HK := hide hk
  clear hb hk hg
  go_wp2_with fail
  go_loopw [5, 13] (fun s t W => ∃ i : Nat, s = .int .i64 (sgI (insTo L n (x1, x2) i)) ∧ t = .int .i64 (i : Int) ∧ i ≤ n ∧ (∀ j, j < i → onI L n (x1, x2) j = false) ∧ Below W2.heap.size W2 W) (fun _ s _ => n - (intOf s).toNat)
  case atStart => exact ⟨0, rfl, rfl, Nat.zero_le _, fun j hj => by omega, Below.refl _ _⟩
  case round =>
    obtain ⟨i, rfl, rfl, hi, ht, hw⟩ := hrel
    have HT := hide ht
    have HW := hide hw
    clear ht hw
    by_cases h : i < n
    · have i1 : (i : Int) < (n : Int) := by omega
      have i0 : (0 : Int) ≤ (i : Int) := Int.natCast_nonneg _
      have iz : decide ((i : Int) < (n : Int)) = true := decide_eq_true i1
      have mi' : (i + 1) % n < n := Nat.mod_lt _ (by omega)
      obtain ⟨f0, f1, f2, f3⟩ := unhide HF i h
      have HST : Hid (insTo L n (x1, x2) (i + 1) = (insTo L n (x1, x2) i != stepM (ptAt L i) (ptAt L ((i + 1) % n)) (x1, x2))) := hide rfl
      have HON : Hid (onI L n (x1, x2) i = onS (ptAt L i) (ptAt L ((i + 1) % n)) (x1, x2)) := hide rfl
      obtain ⟨m, hm⟩ : ∃ m : Nat, (i + 1) % n = m := ⟨_, rfl⟩
      rw [hm] at mi' f2 f3 HST HON
      clear hm
      have op := ok_at (unhide HBAD) i (by rw [unhide HN]; exact h)
      have oq := ok_at (unhide HBAD) m (by rw [unhide HN]; exact mi')
      have kb := (unhide HK).bel (unhide HW)
      have y0 := kb.cell f0
      have y1 := kb.cell f1
      have y2 := kb.cell f2
      have y3 := kb.cell f3
      have hwx : Below (w.heap.size + 1) (w.alloc (.cells #[.int .i64 x1, .int .i64 x2] 26)) wr := (unhide HB2).trans ((unhide HW).mono (by have := (unhide HB2).size; simpa using this))
      obtain ⟨z0, z1⟩ := unhide HC0 _ hwx
      obtain ⟨⟨p1, p2⟩, hp⟩ : ∃ p : Pt, ptAt L i = p := ⟨_, rfl⟩
      obtain ⟨⟨q1, q2⟩, hq⟩ : ∃ q : Pt, ptAt L m = q := ⟨_, rfl⟩
      rw [hp] at y0 y1 HST HON op
      rw [hq] at y2 y3 HST HON oq
      dsimp only at y0 y1 y2 y3
      have H36 := hide (fun W => commonP_any (p1, p2) (q1, q2) (x1, x2) (x1, x2) W op oq (unhide hx) (unhide hx))
      have hon := on_eq (p1, p2) (q1, q2) (x1, x2)
      have H70 := boundsY_any (p1, p2) (q1, q2)
      have H34 := hide (fun W => turn_ints (lowY (p1, p2) (q1, q2)).1 (lowY (p1, p2) (q1, q2)).2 (highY (p1, p2) (q1, q2)).1 (highY (p1, p2) (q1, q2)).2 x1 x2 W (lowY_ok op oq) (highY_ok op oq) (unhide hx))
      have HSP : Hid (stepP (p1, p2) (q1, q2) (x1, x2) = (decide ((lowY (p1, p2) (q1, q2)).2 ≤ x2) && decide (x2 < (highY (p1, p2) (q1, q2)).2) && decide (0 < sgn (((highY (p1, p2) (q1, q2)).1 - (lowY (p1, p2) (q1, q2)).1) * (x2 - (lowY (p1, p2) (q1, q2)).2) - ((highY (p1, p2) (q1, q2)).2 - (lowY (p1, p2) (q1, q2)).2) * (x1 - (lowY (p1, p2) (q1, q2)).1))))) := hide rfl
      have HSE := hide (step_eq (p1, p2) (q1, q2) (x1, x2))
      generalize sgn (((highY (p1, p2) (q1, q2)).1 - (lowY (p1, p2) (q1, q2)).1) * (x2 - (lowY (p1, p2) (q1, q2)).2) - ((highY (p1, p2) (q1, q2)).2 - (lowY (p1, p2) (q1, q2)).2) * (x1 - (lowY (p1, p2) (q1, q2)).1)) = TN at H34 HSP
      generalize lowY (p1, p2) (q1, q2) = lo at H70 H34 HSP
      generalize highY (p1, p2) (q1, q2) = hi at H70 H34 HSP
      obtain ⟨l1, l2⟩ := lo
      obtain ⟨h1, h2⟩ := hi
      generalize cross (p1, p2) (q1, q2) (x1, x2) (x1, x2) = CL at H36 hon
      dsimp only [ptv, sgv] at H36 H70 H34 HSP
      obtain ⟨I, hI⟩ : ∃ I, insTo L n (x1, x2) i = I := ⟨_, rfl⟩
      rw [hI] at HST
      rw [hI]
      have HCN := hide hon
      clear hp hq op oq kb f0 f1 f2 f3 hI hon
      have lb := cell_lt y0
      have lb2 := Nat.le_of_lt lb
      have lb3 : wr.heap.size ≠ g := by omega
      have lz := cell_lt z0
      have lz2 := Nat.le_of_lt lz
      have lz3 : wr.heap.size ≠ w.heap.size := by omega
      clear hwx
      go_wp2_with fail
      refine (unhide H36 _).mono ?_
      rintro e W3 ⟨⟨v, rfl, hv⟩, hb⟩
      obtain ⟨u', k', cap', rfl, h8, h9⟩ := hv.out
      have k0 := keep1 hb (b := wr.heap.size) (o := 0) (v := .int .i64 p1) (by simp (maxDischargeDepth := 12) [go_sem, le1, lt1, *])
      have k1 := keep1 hb (b := wr.heap.size) (o := 1) (v := .int .i64 p2) (by simp (maxDischargeDepth := 12) [go_sem, le1, lt1, *])
      have k2 := keep1 hb (b := wr.heap.size) (o := 2) (v := .int .i64 q1) (by simp (maxDischargeDepth := 12) [go_sem, le1, lt1, *])
      have k3 := keep1 hb (b := wr.heap.size) (o := 3) (v := .int .i64 q2) (by simp (maxDischargeDepth := 12) [go_sem, le1, lt1, *])
      have k4 := keep1 hb (b := w.heap.size) (o := 0) (v := .int .i64 x1) (by simp (maxDischargeDepth := 12) [go_sem, le1, lt1, *])
      have k5 := keep1 hb (b := w.heap.size) (o := 1) (v := .int .i64 x2) (by simp (maxDischargeDepth := 12) [go_sem, le1, lt1, *])
      have E1 := hide (bc (ba (unhide HW) _) hb)
      clear hb hv h8 h9 y0 y1 y2 y3 z0 z1 lb lb2 lb3 lz lz2 lz3
      obtain ⟨CN, hcn⟩ : ∃ c, CL.length = c := ⟨_, rfl⟩
      rw [hcn] at HCN
      rw [hcn]
      clear hcn
      have cn0 : (0 : Int) ≤ (CN : Int) := Int.natCast_nonneg _
      by_cases hc : 0 < CN
      · have cz : decide ((0 : Int) < (CN : Int)) = true := decide_eq_true (by omega)
        have HON2 : Hid (onS (p1, p2) (q1, q2) (x1, x2) = true) := hide (by rw [← unhide HCN]; exact decide_eq_true hc)
        go_wp2_with fail
        go_ret
        refine ⟨ret_int ?_, Below.trans (unhide HB0) (((unhide HB2).trans ((unhide E1).mono (by have := (unhide HB2).size; simpa using this))).mono (by omega))⟩
        unfold within
        rw [firstI_some (i := i) (unhide HT) h (by rw [unhide HON, unhide HON2])]
      · have cz : decide ((0 : Int) < (CN : Int)) = false := decide_eq_false (by omega)
        have HON2 : Hid (onS (p1, p2) (q1, q2) (x1, x2) = false) := hide (by rw [← unhide HCN]; exact decide_eq_false hc)
        have HSE2 := hide ((unhide HSE (unhide HON2)).trans (unhide HSP))
        go_wp2_with fail
        refine (unhide H70 _).mono ?_
        rintro e W4 ⟨rfl, hb⟩
        have j0 := keep1 hb k4
        have j1 := keep1 hb k5
        have E2 := hide (bc (unhide E1) hb)
        clear hb E1 k0 k1 k2 k3 k4 k5
        have lj := cell_lt j0
        have lj2 := Nat.le_of_lt lj
        have lj3 : W4.heap.size ≠ w.heap.size := by omega
        have lj4 : W4.heap.size + 1 ≠ w.heap.size := by omega
        cases hA : decide (l2 ≤ x2)
        · have HSM : Hid (stepM (p1, p2) (q1, q2) (x1, x2) = false) := hide (by rw [unhide HSE2, hA]; rfl)
          have b1 : -1 ≤ sgI I := by cases I <;> decide
          have b2 : sgI I ≤ 1 := by cases I <;> decide
          have HSG : Hid (sgI (insTo L n (x1, x2) (i + 1)) = sgI I) := hide (by rw [unhide HST, unhide HSM]; cases I <;> rfl)
          generalize sgI I = G at *
          go_wp2_with fail
          go_roundw
          case rel =>
            refine ⟨i + 1, by rw [unhide HSG], by simp, h, fun j hj => ?_, ba (ba (unhide E2) _) _⟩
            rcases Nat.lt_succ_iff_lt_or_eq.1 hj with h3 | h3
            · exact unhide HT j h3
            · subst h3; rw [unhide HON, unhide HON2]
          case measure => simp only [intOf]; omega
        · cases hB : decide (x2 < h2)
          · have HSM : Hid (stepM (p1, p2) (q1, q2) (x1, x2) = false) := hide (by rw [unhide HSE2, hA, hB]; rfl)
            have b1 : -1 ≤ sgI I := by cases I <;> decide
            have b2 : sgI I ≤ 1 := by cases I <;> decide
            have HSG : Hid (sgI (insTo L n (x1, x2) (i + 1)) = sgI I) := hide (by rw [unhide HST, unhide HSM]; cases I <;> rfl)
            generalize sgI I = G at *
            go_wp2_with fail
            go_roundw
            case rel =>
              refine ⟨i + 1, by rw [unhide HSG], by simp, h, fun j hj => ?_, ba (ba (unhide E2) _) _⟩
              rcases Nat.lt_succ_iff_lt_or_eq.1 hj with h3 | h3
              · exact unhide HT j h3
              · subst h3; rw [unhide HON, unhide HON2]
            case measure => simp only [intOf]; omega
          · go_wp2_with fail
            refine (unhide H34 _).mono ?_
            rintro e W5 ⟨rfl, hb⟩
            have E3 := hide (bc (ba (ba (unhide E2) _) _) hb)
            clear hb
            have E2 := E3
            cases hC : decide (0 < TN)
            · have HSM : Hid (stepM (p1, p2) (q1, q2) (x1, x2) = false) := hide (by rw [unhide HSE2, hA, hB, hC]; rfl)
              have b1 : -1 ≤ sgI I := by cases I <;> decide
              have b2 : sgI I ≤ 1 := by cases I <;> decide
              have HSG : Hid (sgI (insTo L n (x1, x2) (i + 1)) = sgI I) := hide (by rw [unhide HST, unhide HSM]; cases I <;> rfl)
              generalize sgI I = G at *
              go_wp2_with fail
              go_roundw
              case rel =>
                refine ⟨i + 1, by rw [unhide HSG], by simp, h, fun j hj => ?_, unhide E2⟩
                rcases Nat.lt_succ_iff_lt_or_eq.1 hj with h3 | h3
                · exact unhide HT j h3
                · subst h3; rw [unhide HON, unhide HON2]
              case measure => simp only [intOf]; omega
            · have HSM : Hid (stepM (p1, p2) (q1, q2) (x1, x2) = true) := hide (by rw [unhide HSE2, hA, hB, hC]; rfl)
              have b1 : -1 ≤ sgI I := by cases I <;> decide
              have b2 : sgI I ≤ 1 := by cases I <;> decide
              have HSG : Hid (sgI (insTo L n (x1, x2) (i + 1)) = -sgI I) := hide (by rw [unhide HST, unhide HSM]; cases I <;> rfl)
              generalize sgI I = G at *
              go_wp2_with fail
              go_roundw
              case rel =>
                refine ⟨i + 1, by rw [unhide HSG], by simp, h, fun j hj => ?_, unhide E2⟩
                rcases Nat.lt_succ_iff_lt_or_eq.1 hj with h3 | h3
                · exact unhide HT j h3
                · subst h3; rw [unhide HON, unhide HON2]
              case measure => simp only [intOf]; omega
    · have i1 : ¬ (i : Int) < (n : Int) := by omega
      have iz : decide ((i : Int) < (n : Int)) = false := decide_eq_false i1
      have en : i = n := by omega
      have HWI : Hid (within L n (x1, x2) = sgI (insTo L n (x1, x2) i)) := hide (by
        have e2 : insTo L n (x1, x2) i = insTo L n (x1, x2) n := by rw [en]
        unfold within
        rw [firstI_none (fun j hj => unhide HT j (by omega)), e2]
        rfl)
      obtain ⟨I, hI⟩ : ∃ I, sgI (insTo L n (x1, x2) i) = I := ⟨_, rfl⟩
      rw [hI] at HWI
      rw [hI]
      clear hI en
      go_wp2_with fail
      go_ret
      exact ⟨ret_int (unhide HWI).symm, Below.trans (unhide HB0) (((unhide HB2).trans ((unhide HW).mono (by have := (unhide HB2).size; simpa using this))).mono (by omega))⟩
end Go.Proofs.Ytegfghpaldnpeaa
