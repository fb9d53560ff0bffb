/-
  The model's SketchSolve.
-/
import Derived.Test.YtchdmigeopmacaaCoreMath
import Derived.Test.YtchdmigeopmacaaKeeps
namespace Go.Proofs.Ytchdmigeopmacaa
open Go.ChangeShapes Go.WideShapes Go.ChangeAt Go.RowKit
set_option linter.unusedVariables false
set_option linter.unusedSimpArgs false

set_option maxHeartbeats 4000000 in
set_option maxRecDepth 100000 in
theorem solveM_core (N : Nat) (u : Option Addr) (l c : Nat) (bad : List Nat → Bool) (C : List Nat) (w : World) (hl : l ≤ 60)
    (HOKM : Hid (∀ W, Below w.heap.size w W → Calls Try.prog 20 #[skv (N : Int) u l c] W fun e w' => e = .returned (.bool true) ∧ Below W.heap.size W w'))
    (HKEEP : Hid (∀ W, Below w.heap.size w W → ∀ (ks : List Nat) (uk : Option Addr) (q K ck : Nat), ks.length = K → K ≤ 60 → (∀ j ∈ ks, j < l) → (K ≠ 0 → uk = some ⟨q, 0, none⟩ ∧ q < W.heap.size ∧ IntsAt W q 0 (nats ks)) →
      Calls Try.prog 27 #[skv (N : Int) u l c, .slice uk K ck] W fun e w' => (∃ v, e = .returned (.tuple #[v, .bool (!(bad ks))])) ∧ Below W.heap.size W w'))
    (HBAD : Hid (bad (List.range l) = true)) (HC : Hid (coreGo bad l (List.range l) = C)) :
    Calls Try.prog 8 #[skv (N : Int) u l c] w fun e w' => ∃ g v, e = .returned (.tuple #[.slice (some ⟨g, 0, none⟩) 0 0, .int .i64 15, v]) ∧ Row w' (w.heap.size + 1) 3 1 v C.length (nats C) ∧ Below w.heap.size w w' := by
  obtain ⟨i0, hi, hz0, hz1, hz2⟩ := info_parts info3k
  have HALL := hide (fun W => all_any (N : Int) u l c W hl)
  go_enter Try.func8, Try.ntmps8
  go_wp2_with fail
  refine (unhide HOKM _ (ba (Below.refl _ _) _)).mono ?_
  rintro e W1 ⟨rfl, hb1⟩
  have a0 : W1.cell? ⟨w.heap.size, 0, none⟩ = some (.int .i64 (N : Int)) := keep1 hb1 (by simp [go_sem])
  have a1 : W1.cell? ⟨w.heap.size, 1, none⟩ = some (.slice u l c) := keep1 hb1 (by simp [go_sem])
  have HB1 := hide (bc (ba (Below.refl _ _) _) hb1)
  clear hb1
  go_wp2_with fail
  refine (unhide HALL _).mono ?_
  rintro e W2 ⟨v, rfl, hrow, hb2⟩
  have b0 := keep1 hb2 a0
  have b1 := keep1 hb2 a1
  have lt1' := cell_lt a0
  have HB2 := hide (bc (unhide HB1) hb2)
  obtain ⟨uk, ck, rfl, hform⟩ := hrow.form
  have HR2 := hide (hrow.mono (show w.heap.size + 1 ≤ W1.heap.size + 1 by omega))
  obtain ⟨q, hq⟩ : ∃ q, l ≠ 0 → uk = some ⟨q, 0, none⟩ ∧ q < W2.heap.size ∧ IntsAt W2 q 0 (nats (List.range l)) := by
    by_cases h0 : l = 0
    · exact ⟨0, fun h => absurd h0 h⟩
    · obtain ⟨g, h1, _, h3, h4⟩ := hform h0
      exact ⟨g, fun _ => ⟨h1, h3, h4⟩⟩
  have HQ := hide hq
  clear hrow hb2 a0 a1 hform hq
  go_wp2_with fail
  refine (unhide HKEEP _ (unhide HB2) (List.range l) uk q l ck (by simp) hl (fun j hj => by simpa using hj) (unhide HQ)).mono ?_
  rintro e W3 ⟨⟨vp, rfl⟩, hb3⟩
  rw [unhide HBAD]
  have a0 := keep1 hb3 b0
  have a1 := keep1 hb3 b1
  have HB3 := hide (bc (unhide HB2) hb3)
  have HR3 := hide ((unhide HR2).below hb3)
  clear hb3 b0 b1
  go_wp2_with fail
  go_loopw [5, 8] (fun v s W => ∃ (k : Nat) (ks : List Nat), s = .int .i64 ((k : Int) - 1) ∧ k ≤ ks.length ∧ ks.length ≤ l ∧ (∀ j ∈ ks, j < l) ∧ coreGo bad k ks = C ∧ Row W (w.heap.size + 1) 3 1 v ks.length (nats ks) ∧ W.cell? ⟨w.heap.size, 0, none⟩ = some (.int .i64 (N : Int)) ∧ W.cell? ⟨w.heap.size, 1, none⟩ = some (.slice u l c) ∧ Below w.heap.size w W) (fun _ s _ => (intOf s + 1).toNat)
  case atStart =>
    refine ⟨l, List.range l, rfl, by simp, by simp, fun j hj => by simpa using hj, unhide HC, ?_, a0, a1, unhide HB3⟩
    simpa using unhide HR3
  case round =>
    obtain ⟨k, ks, rfl, hk, hkl, hm, hco, hrow, a0, a1, hw⟩ := hrel
    have HW := hide hw
    have HR := hide hrow
    have HM := hide hm
    have HCO := hide hco
    clear hw hm hco
    cases k with
    | zero =>
      have t1 : decide ((0 : Int) ≤ ((0 : Nat) : Int) - 1) = false := by decide
      have hC : ks = C := unhide HCO
      subst hC
      go_wp2_with fail
      exact bodyPost_ret (v := .tuple #[.slice (some ⟨wr.heap.size, 0, none⟩) 0 0, .int .i64 15, u5]) (by simp [results, Try.results8, go_sem]) rfl ⟨_, _, rfl, (unhide HR).below (ba (Below.refl _ _) _), ba (unhide HW) _⟩
    | succ k =>
      have e1 : ((k + 1 : Nat) : Int) - 1 = (k : Int) := by omega
      rw [e1]
      have t1 : decide ((0 : Int) ≤ (k : Int)) = true := decide_eq_true (by omega)
      obtain ⟨q, ck, rfl, hq1, hq2, hq3, hc1, hc2⟩ := hrow.full (by omega)
      have HQ3 := hide hq3
      have HFR := hide (row_made wr 3 wr.heap.size 1 (Nat.le_refl _) wr.heap.size rfl)
      have kk1 : (k : Int) < (ks.length : Int) := by omega
      generalize hn : ks.length = n at *
      have HNL := hide hn
      clear hrow hq3 hn
      have kk0 : (0 : Int) ≤ (k : Int) := Int.natCast_nonneg _
      have kk5 : (0 : Int) ≤ (k : Int) + 1 := by omega
      obtain ⟨ad, had, hsrc⟩ := tail_ad q ck k n (nats ks) (by rw [nats_len, unhide HNL]) (by omega) hc1
      have HSRC := hide hsrc
      clear hsrc
      have kk2 : (k : Int) ≤ (ck : Int) := by omega
      have kk3 : (k : Int) + 1 ≤ (n : Int) := by omega
      have kk4 : (n : Int) ≤ (ck : Int) := by omega
      have wk : IntKind.i64.wrap ((k : Int) + 1) = (k : Int) + 1 := wrap_i (by omega) (by omega)
      go_wp2_with fail
      go_region_law
        (first
        | (refine step_own (by rfl) (.tmp 33) (.tmp 36) _ (by rfl) wr.heap.size 3 i0 _ 1 8 Try.underlying28 hi hz0 hz1 hz2 rfl (by omega) (.slice (some ⟨wr.heap.size, 0, none⟩) 0 0) 0 (([] : List Int).map (Value.int .i64)) (by rfl) (by first | exact unhide HFR | exact (unhide HFR).drew)
            ⟨q, 0, none⟩ k ck (((nats ks).take k).map (Value.int .i64)) (by rfl) (by simp [nats_len, unhide HNL]; omega) (src_cells (by first | exact ((unhide HQ3).alloc hq2 _) | exact ((unhide HQ3).alloc hq2 _).drew) _ 0 (take_part _ _)) ints_one
            (by unfold maxLen; omega) (by omega) (by simp) ?_; intro v1 w1 hown' hgrow hvn; have R := hide (own_first (wr := wr) (news := (nats ks).take k) (by repeat (first | exact Below.refl _ _ | refine Below.alloc ?_ (by first | omega | (simp; omega)) _ | refine Below.drew ?_)) (by simp) (Nat.le_refl _) hown' hgrow); clear hown' hgrow hvn)
        | (refine step_own (by rfl) (.tmp 37) (.tmp 41) _ (by rfl) wr.heap.size 3 i0 _ 1 8 Try.underlying28 hi hz0 hz1 hz2 rfl (by omega) v1 k (((nats ks).take k).map (Value.int .i64)) (by rfl) (unhide R).1
            ad (n - (k + 1)) (ck - (k + 1)) (((nats ks).drop (k + 1)).map (Value.int .i64)) (by rfl) (by simp [nats_len, unhide HNL]) (unhide HSRC _ ((unhide HQ3).below (unhide R).2 hq2)) ints_one
            (by unfold maxLen; omega) (by omega) (unhide R).2.size ?_; intro v2 w2 hown' hgrow hvn; have R2 := hide (own_more (wr := w1) (L := (nats ks).take k) (news := (nats ks).drop (k + 1)) (Below.refl _ _) (unhide R).2.size (unhide R).1 hown' hgrow); clear hown' hgrow hvn))
      all_goals
        have e2 : k + (n - (k + 1)) = n - 1 := by omega
        have R3 : Hid (Row w2 wr.heap.size 3 1 v2 (n - 1) (nats (ks.eraseIdx k))) := hide (by have := (unhide R2).1; rw [e2, ← nats_erase] at this; exact this)
        have HB4 : Hid (Below wr.heap.size wr w2) := hide ((unhide R).2.trans (unhide R2).2)
        obtain ⟨uk2, ck2, rfl, hform⟩ := (unhide R3).form
        obtain ⟨q2, hq2'⟩ : ∃ q2, n - 1 ≠ 0 → uk2 = some ⟨q2, 0, none⟩ ∧ q2 < w2.heap.size ∧ IntsAt w2 q2 0 (nats (ks.eraseIdx k)) := by
          by_cases h0 : n - 1 = 0
          · exact ⟨0, fun h => absurd h0 h⟩
          · obtain ⟨g, h1, _, h3, h4⟩ := hform h0
            exact ⟨g, fun _ => ⟨h1, h3, h4⟩⟩
        have HQ2 := hide hq2'
        have b0 := keep1 (unhide HB4) a0
        have b1 := keep1 (unhide HB4) a1
        have hbs := cell_lt a0
        have HEL := hide (erase_len (unhide HNL) (show k < n by omega))
        clear hq2' hform e2 R R2
        go_wp2_with fail
        refine (unhide HKEEP _ (bc (unhide HW) (unhide HB4)) (ks.eraseIdx k) uk2 q2 (n - 1) ck2 (unhide HEL) (by omega) (erase_mem (unhide HM)) (unhide HQ2)).mono ?_
        rintro e W5 ⟨⟨vp5, rfl⟩, hb5⟩
        have c0 := keep1 hb5 b0
        have c1 := keep1 hb5 b1
        have HB5 := hide (bc (unhide HB4) hb5)
        have R5 := hide ((unhide R3).below hb5)
        clear hb5 b0 b1
        cases hbad : bad (ks.eraseIdx k) with
        | true =>
          have HC2 : Hid (coreGo bad k (ks.eraseIdx k) = C) := hide (by have := unhide HCO; rw [coreGo, hbad] at this; exact this)
          clear hbad
          go_wp2_with fail
          go_roundw
          case rel =>
            refine ⟨k, ks.eraseIdx k, rfl, by rw [unhide HEL]; omega, by rw [unhide HEL]; omega, erase_mem (unhide HM), unhide HC2, ?_, c0, c1, bc (unhide HW) (unhide HB5)⟩
            rw [unhide HEL]
            exact (unhide R5).mono (by omega)
          case measure => simp only [intOf]; omega
        | false =>
          have HC2 : Hid (coreGo bad k ks = C) := hide (by have := unhide HCO; rw [coreGo, hbad] at this; exact this)
          clear hbad
          go_wp2_with fail
          go_roundw
          case rel =>
            refine ⟨k, ks, rfl, by rw [unhide HNL]; omega, by rw [unhide HNL]; omega, unhide HM, unhide HC2, ?_, c0, c1, bc (unhide HW) (unhide HB5)⟩
            rw [unhide HNL]
            exact (unhide HR).below (unhide HB5)
          case measure => simp only [intOf]; omega
end Go.Proofs.Ytchdmigeopmacaa
