/-
  The program's core.
-/
import Derived.Test.YtchdmigeopmacaaDels
import Derived.Test.YtchdmigeopmacaaSomes
namespace Go.Proofs.Ytchdmigeopmacaa
open Go.ChangeShapes Go.WideShapes Go.ChangeAt Go.RowKit
set_option linter.unusedVariables false
set_option linter.unusedSimpArgs false

set_option maxHeartbeats 4000000 in
set_option maxRecDepth 100000 in
theorem coreP_core (N : Nat) (u : Option Addr) (l c : Nat) (rs : List Ru) (bad : List Nat → Bool) (C : List Nat) (w : World) (hl : l ≤ 60)
    (HSOME : Hid (∀ W, Below w.heap.size w W → ∀ (ks : List Nat) (uk : Option Addr) (q K ck : Nat), ks.length = K → K ≤ 60 → (∀ j ∈ ks, j < l) → (K ≠ 0 → uk = some ⟨q, 0, none⟩ ∧ q < W.heap.size ∧ IntsAt W q 0 (nats ks)) →
      Calls Try.prog 51 #[skv (N : Int) u l c, .slice uk K ck] W fun e w' => ∃ g, e = .returned (.slice (some ⟨g, 0, none⟩) K K) ∧ W.heap.size ≤ g ∧ iblk w' g 35 (flat4 (pick rs ks)) ∧ Below W.heap.size W w'))
    (HLOW : Hid (∀ W, ∀ (ks : List Nat) (g K : Nat), ks.length = K → K ≤ 60 → (∀ j ∈ ks, j < l) → iblk W g 35 (flat4 (pick rs ks)) →
      Calls Try.prog 22 #[.int .i64 (N : Int), .slice (some ⟨g, 0, none⟩) K K] W fun e w' => (∃ v, e = .returned (.tuple #[v, .bool (!(bad ks))])) ∧ Below W.heap.size W w'))
    (HC : Hid (coreGo bad l (List.range l) = C)) :
    Calls Try.prog 23 #[skv (N : Int) u l c] w fun e w' => ∃ v, e = .returned v ∧ Row w' (w.heap.size + 1) 3 1 v C.length (nats C) ∧ Below w.heap.size w w' := by
  obtain ⟨i0, hi, hz0, hz1, hz2⟩ := info_parts info3k
  go_enter Try.func23, Try.ntmps23
  go_wp2_with fail
  go_loopw [3, 12] (fun v s W => ∃ i : Nat, s = .int .i64 (i : Int) ∧ i ≤ l ∧ Row W (w.heap.size + 1) 3 1 v i (nats (List.range i)) ∧ W.cell? ⟨w.heap.size, 0, none⟩ = some (.int .i64 (N : Int)) ∧ W.cell? ⟨w.heap.size, 1, none⟩ = some (.slice u l c) ∧ Below w.heap.size w W) (fun _ s _ => l - (intOf s).toNat)
  case atStart => exact ⟨0, rfl, Nat.zero_le _, World.ownsRow_nil _ _ _ _, by simp [go_sem], by simp [go_sem], ba (Below.refl _ _) _⟩
  case round =>
    obtain ⟨i, rfl, hil, hrow, z0, z1, hw⟩ := hrel
    have HW := hide hw
    have HR := hide hrow
    have lt0 := cell_lt z0
    clear hw hrow
    by_cases h : i < l
    · have i1 : (i : Int) < (l : Int) := by omega
      have iz : decide ((i : Int) < (l : Int)) = true := decide_eq_true i1
      go_wp2_with (at_builtin; refine unhide ?_)
      refine hide ?_
      refine wpList_append_own _ rfl _ _ 28 rfl (w.heap.size + 1) 3 i0 _ 1 8 Try.underlying28 hi hz0 hz1 hz2 rfl (by decide) _ _ _ rfl ((unhide HR).alloc _) _ 1 1 ([(i : Int)].map (Value.int .i64)) rfl rfl (by first | exact news_cells _ _ (by simp) | exact news_drew _ _ (by simp)) ints_one (by unfold maxLen; omega) (by omega) (by simp; omega) ?_
      intro v' w1 hown' hgrow _
      have R := hide (own_more (wr := wr) (news := [(i : Int)]) (by repeat (first | exact Below.refl _ _ | refine Below.alloc ?_ (by first | omega | (simp; omega)) _ | refine Below.drew ?_)) (by simp; omega) (unhide HR) hown' hgrow)
      have y0 := (unhide R).2.cell (p := ⟨w.heap.size, 0, none⟩) (by simp)
      have y1 := (unhide R).2.cell (p := ⟨w.heap.size, 1, none⟩) (by simp)
      rw [z0] at y0
      rw [z1] at y1
      clear hown' hgrow
      go_wp2_with fail
      go_roundw
      case rel =>
        refine ⟨i + 1, by simp, h, ?_, y0, y1, (unhide HW).trans ((unhide R).2.mono (by omega))⟩
        rw [nats_range]
        exact (unhide R).1
      case measure => simp only [intOf]; omega
    · have i1 : ¬ (i : Int) < (l : Int) := by omega
      have iz : decide ((i : Int) < (l : Int)) = false := decide_eq_false i1
      have en : i = l := by omega
      subst en
      obtain ⟨uk, ck, rfl, _⟩ := (unhide HR).form
      go_wp2_with fail
      go_loopw [3, 5] (fun v s W => ∃ (k : Nat) (ks : List Nat), s = .int .i64 ((k : Int) - 1) ∧ k ≤ ks.length ∧ ks.length ≤ i ∧ (∀ j ∈ ks, j < i) ∧ coreGo bad k ks = C ∧ Row W (w.heap.size + 1) 3 1 v ks.length (nats ks) ∧ W.cell? ⟨w.heap.size, 0, none⟩ = some (.int .i64 (N : Int)) ∧ W.cell? ⟨w.heap.size, 1, none⟩ = some (.slice u i c) ∧ Below w.heap.size w W) (fun _ s _ => (intOf s + 1).toNat)
      case atStart =>
        refine ⟨i, List.range i, rfl, by simp, by simp, fun j hj => by simpa using hj, unhide HC, ?_, z0, z1, unhide HW⟩
        simpa using unhide HR
      case round =>
        obtain ⟨k, ks, rfl, hk, hkl, hm, hco, hrow, a0, a1, hw⟩ := hrel
        have HW := hide hw
        have HR := hide hrow
        have HM := hide hm
        have HCO := hide hco
        clear hw hm hco
        cases k with
        | zero =>
          have t1 : decide ((0 : Int) ≤ ((0 : Nat) : Int) - 1) = false := by decide
          go_wp2_with fail
          go_ret
          have hC : ks = C := unhide HCO
          subst hC
          exact ⟨_, rfl, unhide HR, unhide HW⟩
        | succ k =>
          have e1 : ((k + 1 : Nat) : Int) - 1 = (k : Int) := by omega
          rw [e1]
          have t1 : decide ((0 : Int) ≤ (k : Int)) = true := decide_eq_true (by omega)
          obtain ⟨q, ck, rfl, hq1, hq2, hq3, hc1, hc2⟩ := hrow.full (by omega)
          have hkn : k < ks.length := by omega
          generalize hn : ks.length = n at *
          have HNL := hide hn
          have HCL := hide (clone_any q n ck (nats ks) wr (by omega) (by rw [nats_len, hn]) hq3)
          clear hrow hq3 hn
          have wk : IntKind.i64.wrap ((k : Int) + 1) = (k : Int) + 1 := wrap_i (by omega) (by omega)
          go_wp2_with fail
          refine (unhide HCL).mono ?_
          rintro e W1 ⟨v1, rfl, hr1, hv1, hb1⟩
          obtain ⟨g1, cap1, rfl, hg1, hg2, _, _, _⟩ := hr1.full (by omega)
          have HB1 := hide hb1
          have HDE := hide (del_any wr.heap.size g1 n cap1 k ks W1 hkn (unhide HNL) hr1)
          clear hr1 hv1 hb1
          go_wp2_with fail
          refine (unhide HDE).mono ?_
          rintro e W2 ⟨rfl, hr2, hb2⟩
          have HB2 : Hid (Below wr.heap.size wr W2) := hide ((unhide HB1).trans (hb2.bel hg1))
          have R3 := hide hr2
          have hbs := cell_lt a0
          have b0 := keep1 (unhide HB2) a0
          have b1 := keep1 (unhide HB2) a1
          have hform := hr2.form
          have HEL := hide (erase_len (unhide HNL) hkn)
          have HQ2 : Hid (n - 1 ≠ 0 → some (⟨g1, 0, none⟩ : Addr) = some ⟨g1, 0, none⟩ ∧ g1 < W2.heap.size ∧ IntsAt W2 g1 0 (nats (ks.eraseIdx k))) := hide (fun h0 => by
            obtain ⟨u2, c2, h5, h6⟩ := hform
            cases h5
            obtain ⟨g, h7, _, h8, h9⟩ := h6 h0
            cases h7
            exact ⟨rfl, h8, h9⟩)
          clear hr2 hb2 hform
          have HSM := hide (fun W (hW : Below W2.heap.size W2 W) => unhide HSOME W (bc (bc (unhide HW) (unhide HB2)) hW) (ks.eraseIdx k) (some ⟨g1, 0, none⟩) g1 (n - 1) cap1 (unhide HEL) (by omega) (erase_mem (unhide HM)) (fun h0 => ⟨rfl, Nat.lt_of_lt_of_le (unhide HQ2 h0).2.1 hW.size, (unhide HQ2 h0).2.2.below hW (unhide HQ2 h0).2.1⟩))
          have HLO := hide (fun W g (hg : iblk W g 35 (flat4 (pick rs (ks.eraseIdx k)))) => unhide HLOW W (ks.eraseIdx k) g (n - 1) (unhide HEL) (by omega) (erase_mem (unhide HM)) hg)
          go_wp2_with fail
          go_region_held3 (fun wx => wx.cell? ⟨w.heap.size, 0, none⟩ = some (.int .i64 (N : Int)) ∧ wx.cell? ⟨w.heap.size, 1, none⟩ = some (.slice u i c))
            (simp (maxDischargeDepth := 12) [go_sem, le1, lt1, *])
            (first
            | (go_at_call 51; refine (unhide HSM _ (by repeat (first | exact Below.refl _ _ | refine Below.drew ?_))).mono ?_; rintro e W3 ⟨g3, rfl, hg3, hk3, hb3⟩; have HK3 := hide hk3; have HB3 := hide hb3; have x0 := keep1 hb3 (b := w.heap.size) (o := 0) (v := .int .i64 (N : Int)) b0; have x1 := keep1 hb3 (b := w.heap.size) (o := 1) (v := .slice u i c) b1; clear hb3 hk3 hg3)
            | (go_at_call 22; refine (unhide HLO _ g3 (by exact unhide HK3)).mono ?_; rintro e W4 ⟨⟨v4, rfl⟩, hb4⟩; have HB4 := hide hb4; have y0 := keep1 hb4 (b := w.heap.size) (o := 0) (v := .int .i64 (N : Int)) x0; have y1 := keep1 hb4 (b := w.heap.size) (o := 1) (v := .slice u i c) x1; clear hb4))
          all_goals
            have HB5 : Hid (Below wr.heap.size wr W4) := hide (by repeat (first | exact unhide HB2 | refine bc ?_ (unhide HB4) | refine bc ?_ (unhide HB3) | refine Below.drew ?_))
            have HB6 : Hid (Below W2.heap.size W2 W4) := hide (by repeat (first | exact Below.refl _ _ | refine bc ?_ (unhide HB4) | refine bc ?_ (unhide HB3) | refine Below.drew ?_))
            have R5 := hide ((unhide R3).below (unhide HB6))
            cases hbad : bad (ks.eraseIdx k) with
            | true =>
              have HC2 : Hid (coreGo bad k (ks.eraseIdx k) = C) := hide (by have := unhide HCO; rw [coreGo, hbad] at this; exact this)
              clear hbad
              go_wp2_with fail
              go_roundw
              case rel =>
                refine ⟨k, ks.eraseIdx k, rfl, by rw [unhide HEL]; omega, by rw [unhide HEL]; omega, erase_mem (unhide HM), unhide HC2, ?_, y0, y1, bc (unhide HW) (unhide HB5)⟩
                rw [unhide HEL]
                exact (unhide R5).mono (by omega)
              case measure => simp only [intOf]; omega
            | false =>
              have HC2 : Hid (coreGo bad k ks = C) := hide (by have := unhide HCO; rw [coreGo, hbad] at this; exact this)
              clear hbad
              go_wp2_with fail
              go_roundw
              case rel =>
                refine ⟨k, ks, rfl, by rw [unhide HNL]; omega, by rw [unhide HNL]; omega, unhide HM, unhide HC2, ?_, y0, y1, bc (unhide HW) (unhide HB5)⟩
                rw [unhide HNL]
                exact (unhide HR).below (unhide HB5)
              case measure => simp only [intOf]; omega
end Go.Proofs.Ytchdmigeopmacaa
