/-
  Where a point lies of a polygon, as the model finds it.
-/
import Derived.Test.YtegfghpaldnpeaaArea
import Derived.Test.YtegfghpaldnpeaaInMath
namespace Go.Proofs.Ytegfghpaldnpeaa
open Go.ChangeShapes Go.WideShapes Go.ChangeAt Go.RowKit Go.Shelf
set_option linter.unusedVariables false
set_option linter.unusedSimpArgs false

set_option maxRecDepth 100000 in
set_option maxHeartbeats 4000000 in
theorem withinM_loop (b off cap n : Nat) (L : List Pt) (x1 x2 : Int) (w : World) (HN : Hid (L.length = n)) (hn : n ≤ 200) (hx : Hid (ptOk (x1, x2) = true)) (HBAD : Hid (firstI (badI L) L.length = none)) (HBB : Hid (b < w.heap.size)) (HX : Hid (PtsAt w b off L)) :
    Calls Try.prog 40 #[.slice (some ⟨b, off, none⟩) n cap, .agg #[.int .i64 x1, .int .i64 x2]] w fun e w' => e = .returned (.int .i64 (within L n (x1, x2))) ∧ Below w.heap.size w w' := by
  have n0 : (0 : Int) ≤ (n : Int) := Int.natCast_nonneg _
  go_enter Try.func40, Try.ntmps40
  go_wp2_with fail
  have HC0 : Hid (∀ W, Below (w.heap.size + 1) (w.alloc (.cells #[.int .i64 x1, .int .i64 x2] 26)) W → W.cell? ⟨w.heap.size, 0, none⟩ = some (.int .i64 x1) ∧ W.cell? ⟨w.heap.size, 1, none⟩ = some (.int .i64 x2)) := hide fun W hW => by
    refine ⟨?_, ?_⟩ <;> (rw [hW.cell (by simp)]; simp [go_sem])
  have HB0 := hide (ba (Below.refl w.heap.size w) (.cells #[.int .i64 x1, .int .i64 x2] 26))
  go_loopw [5, 6] (fun s t W => ∃ i : Nat, s = .bool (insTo L n (x1, x2) i) ∧ t = .int .i64 (i : Int) ∧ i ≤ n ∧ (∀ j, j < i → onI L n (x1, x2) j = false) ∧ Below (w.heap.size + 1) (w.alloc (.cells #[.int .i64 x1, .int .i64 x2] 26)) W) (fun _ s _ => n - (intOf s).toNat)
  case atStart => exact ⟨0, rfl, rfl, Nat.zero_le _, fun j hj => by omega, Below.refl _ _⟩
  case round =>
    obtain ⟨i, rfl, rfl, hi, ht, hw⟩ := hrel
    have HT := hide ht
    have HW := hide hw
    clear ht hw
    by_cases h : i < n
    · skip
      have i1 : (i : Int) < (n : Int) := by omega
      have i0 : (0 : Int) ≤ (i : Int) := Int.natCast_nonneg _
      have iz : decide ((i : Int) < (n : Int)) = true := decide_eq_true i1
      have nz : ((n : Int) == 0) = false := by rw [beq_eq_false_iff_ne]; omega
      have nw : ¬ n = 0 := by omega
      have wi : IntKind.i64.wrap ((i : Int) + 1) = (i : Int) + 1 := wrap_i (by omega) (by omega)
      have mi' : (i + 1) % n < n := Nat.mod_lt _ (by omega)
      have HST : Hid (insTo L n (x1, x2) (i + 1) = (insTo L n (x1, x2) i != stepM (ptAt L i) (ptAt L ((i + 1) % n)) (x1, x2))) := hide rfl
      have HON : Hid (onI L n (x1, x2) i = onS (ptAt L i) (ptAt L ((i + 1) % n)) (x1, x2)) := hide rfl
      obtain ⟨m, hm⟩ : ∃ m : Nat, (i + 1) % n = m := ⟨_, rfl⟩
      rw [hm] at mi' HST HON
      have ei : ((i : Int) + 1).tmod (n : Int) = (m : Int) := by rw [tmod_nat, hm]
      have ei2 : ((i : Int) + 1) % (n : Int) = (m : Int) := by rw [← hm]; rfl
      have m0 : (0 : Int) ≤ (m : Int) := Int.natCast_nonneg _
      have m1 : (m : Int) < (n : Int) := by omega
      clear hm
      have op := ok_at (unhide HBAD) i (by rw [unhide HN]; exact h)
      have oq := ok_at (unhide HBAD) m (by rw [unhide HN]; exact mi')
      have hwb : Below w.heap.size w wr := Below.trans (unhide HB0) ((unhide HW).mono (by omega))
      have pw := (unhide HX).bel hwb (unhide HBB)
      obtain ⟨y0, y1⟩ := pw i _ (ptAt_some (L := L) (i := i) (by rw [unhide HN]; omega))
      obtain ⟨y2, y3⟩ := pw m _ (ptAt_some (L := L) (i := m) (by rw [unhide HN]; omega))
      obtain ⟨z0, z1⟩ := unhide HC0 _ (unhide HW)
      obtain ⟨⟨p1, p2⟩, hp⟩ : ∃ p : Pt, ptAt L i = p := ⟨_, rfl⟩
      obtain ⟨⟨q1, q2⟩, hq⟩ : ∃ q : Pt, ptAt L m = q := ⟨_, rfl⟩
      rw [hp] at y0 y1 HST HON op
      rw [hq] at y2 y3 HST HON oq
      dsimp only at y0 y1 y2 y3
      have H32 := side_below (p1, p2) (q1, q2) (x1, x2) op oq (unhide hx)
      have H64 := hide (fun W => on_ints p1 p2 q1 q2 x1 x2 W)
      dsimp only [ptv] at H32
      have HS2 : Hid (stepM (p1, p2) (q1, q2) (x1, x2) = ((decide (x2 < p2) != decide (x2 < q2)) && (decide (0 < side (p1, p2) (q1, q2) (x1, x2)) == decide (p2 < q2)))) := hide rfl
      have HO2 : Hid (onS (p1, p2) (q1, q2) (x1, x2) = (decide (side (p1, p2) (q1, q2) (x1, x2) = 0) && onB (p1, p2) (q1, q2) (x1, x2))) := hide rfl
      generalize side (p1, p2) (q1, q2) (x1, x2) = S at H32 HS2 HO2
      generalize onB (p1, p2) (q1, q2) (x1, x2) = O at H64 HO2
      obtain ⟨T, hT⟩ : ∃ T, stepM (p1, p2) (q1, q2) (x1, x2) = T := ⟨_, rfl⟩
      rw [hT] at HST HS2
      obtain ⟨I, hI⟩ : ∃ I, insTo L n (x1, x2) i = I := ⟨_, rfl⟩
      rw [hI] at HST
      rw [hI]
      clear hp hq op oq pw hT hI
      have lb := cell_lt y0
      have lb2 := Nat.le_of_lt lb
      have lb3 : wr.heap.size ≠ b := by omega
      have lz := cell_lt z0
      have lz2 := Nat.le_of_lt lz
      have lz3 : wr.heap.size ≠ w.heap.size := by omega
      have HWB := hide hwb
      clear hwb
      go_wp2_with fail
      refine (unhide H32 _).mono ?_
      rintro e W1 ⟨rfl, hb⟩
      have k0 := keep1 hb (b := wr.heap.size) (o := 0) (v := .int .i64 p1) (by simp (maxDischargeDepth := 12) [go_sem, le1, lt1, *])
      have k1 := keep1 hb (b := wr.heap.size) (o := 1) (v := .int .i64 p2) (by simp (maxDischargeDepth := 12) [go_sem, le1, lt1, *])
      have k2 := keep1 hb (b := wr.heap.size + 1) (o := 0) (v := .int .i64 q1) (by simp (maxDischargeDepth := 12) [go_sem, le1, lt1, *])
      have k3 := keep1 hb (b := wr.heap.size + 1) (o := 1) (v := .int .i64 q2) (by simp (maxDischargeDepth := 12) [go_sem, le1, lt1, *])
      have k4 := keep1 hb (b := w.heap.size) (o := 0) (v := .int .i64 x1) (by simp (maxDischargeDepth := 12) [go_sem, le1, lt1, *])
      have k5 := keep1 hb (b := w.heap.size) (o := 1) (v := .int .i64 x2) (by simp (maxDischargeDepth := 12) [go_sem, le1, lt1, *])
      have E1 := hide (show Below (w.heap.size + 1) (w.alloc (.cells #[.int .i64 x1, .int .i64 x2] 26)) W1 from (Below.alloc (Below.alloc (unhide HW) (by omega) _) (by simp; omega) _).trans (hb.mono (by simp; omega)))
      clear hb y0 y1 y2 y3 z0 z1 lb lb2 lb3 lz lz2 lz3
      have hcase : (S == 0) = false ∧ onS (p1, p2) (q1, q2) (x1, x2) = false ∨ (S == 0) = true ∧ O = false ∧ onS (p1, p2) (q1, q2) (x1, x2) = false ∨ (S == 0) = true ∧ O = true ∧ onS (p1, p2) (q1, q2) (x1, x2) = true := by
        rw [unhide HO2]
        by_cases h0 : S = 0
        · cases O
          · exact .inr (.inl ⟨by simp [h0], rfl, by simp⟩)
          · exact .inr (.inr ⟨by simp [h0], rfl, by simp [h0]⟩)
        · exact .inl ⟨by simp [h0], by simp [h0]⟩
      rcases hcase with ⟨s0, hon⟩ | ⟨s0, rfl, hon⟩ | ⟨s0, rfl, hon⟩
      · have HON2 := hide hon
        clear hon
        go_upto_region 10 with fail
        go_cut [60] (fun s wx => s = .bool T ∧ Below (w.heap.size + 1) (w.alloc (.cells #[.int .i64 x1, .int .i64 x2] 26)) wx)
        case first =>
          have ht := unhide HS2
          cases hA : decide (x2 < p2) <;> cases hB : decide (x2 < q2) <;> cases hC : decide (0 < S) <;> cases hD : decide (p2 < q2)
          all_goals
            rw [hA, hB, hC, hD] at ht
            simp at ht
            subst ht
            go_wp2_with fail
            go_meet
            case rel => exact ⟨rfl, unhide E1⟩
        case rest =>
          obtain ⟨rfl, hw⟩ := hcut
          have HW3 := hide hw
          clear hw
          cases T
          all_goals
            go_wp2_with fail
            go_roundw
            case rel =>
              refine ⟨i + 1, by rw [unhide HST]; cases I <;> rfl, by simp, h, fun j hj => ?_, unhide HW3⟩
              rcases Nat.lt_succ_iff_lt_or_eq.1 hj with h1 | h1
              · exact unhide HT j h1
              · subst h1; rw [unhide HON, unhide HON2]
            case measure => simp only [intOf]; omega
      · go_wp2_with fail
        refine (unhide H64 _).mono ?_
        rintro e W2 ⟨rfl, hb⟩
        have j0 := keep1 hb k0
        have j1 := keep1 hb k1
        have j2 := keep1 hb k2
        have j3 := keep1 hb k3
        have j4 := keep1 hb k4
        have j5 := keep1 hb k5
        have E2 := hide ((unhide E1).trans (hb.mono (by simpa using (unhide E1).size)))
        clear hb k0 k1 k2 k3 k4 k5 E1
        have E1 := E2
        clear E2
        have HON2 := hide hon
        clear hon
        go_upto_region 10 with fail
        go_cut [60] (fun s wx => s = .bool T ∧ Below (w.heap.size + 1) (w.alloc (.cells #[.int .i64 x1, .int .i64 x2] 26)) wx)
        case first =>
          have ht := unhide HS2
          cases hA : decide (x2 < p2) <;> cases hB : decide (x2 < q2) <;> cases hC : decide (0 < S) <;> cases hD : decide (p2 < q2)
          all_goals
            rw [hA, hB, hC, hD] at ht
            simp at ht
            subst ht
            go_wp2_with fail
            go_meet
            case rel => exact ⟨rfl, unhide E1⟩
        case rest =>
          obtain ⟨rfl, hw⟩ := hcut
          have HW3 := hide hw
          clear hw
          cases T
          all_goals
            go_wp2_with fail
            go_roundw
            case rel =>
              refine ⟨i + 1, by rw [unhide HST]; cases I <;> rfl, by simp, h, fun j hj => ?_, unhide HW3⟩
              rcases Nat.lt_succ_iff_lt_or_eq.1 hj with h1 | h1
              · exact unhide HT j h1
              · subst h1; rw [unhide HON, unhide HON2]
            case measure => simp only [intOf]; omega
      · go_wp2_with fail
        refine (unhide H64 _).mono ?_
        rintro e W2 ⟨rfl, hb⟩
        have E2 := hide (Below.trans (unhide HB0) (((unhide E1).trans (hb.mono (by simpa using (unhide E1).size))).mono (by omega)))
        clear hb
        have HON2 := hide hon
        clear hon
        go_wp2_with fail
        go_ret
        refine ⟨ret_int ?_, unhide E2⟩
        unfold within
        rw [firstI_some (i := i) (unhide HT) h (by rw [unhide HON, unhide HON2])]
    · have i1 : ¬ (i : Int) < (n : Int) := by omega
      have iz : decide ((i : Int) < (n : Int)) = false := decide_eq_false i1
      have en : i = n := by omega
      have HWI : Hid (within L n (x1, x2) = if insTo L n (x1, x2) i = true then 1 else -1) := hide (by
        have e2 : insTo L n (x1, x2) i = insTo L n (x1, x2) n := by rw [en]
        unfold within
        rw [firstI_none (fun j hj => unhide HT j (by omega)), e2])
      obtain ⟨I, hI⟩ : ∃ I, insTo L n (x1, x2) i = I := ⟨_, rfl⟩
      rw [hI] at HWI
      rw [hI]
      clear hI en
      cases I
      all_goals
        go_wp2_with fail
        go_ret
        exact ⟨ret_int (by rw [unhide HWI]; simp), Below.trans (unhide HB0) ((unhide HW).mono (by omega))⟩
end Go.Proofs.Ytegfghpaldnpeaa
