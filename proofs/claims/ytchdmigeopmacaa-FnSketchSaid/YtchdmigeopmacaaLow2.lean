/-
  The program's lowest: the least coordinates that keep all rules, or none.
-/
import Derived.Test.YtchdmigeopmacaaLowest
namespace Go.Proofs.Ytchdmigeopmacaa
open Go.ChangeShapes Go.WideShapes Go.ChangeAt Go.RowKit
set_option linter.unusedVariables false
set_option linter.unusedSimpArgs false

/-- at the end: nothing is at 0, and none is beyond -/
def fineA (n : Nat) (A : List Int) : Bool := decide (gt A 0 = 0) && decide (∀ i, i < n → gt A i ≤ 100000)
theorem fine_max {n : Nat} {A : List Int} {X M : Int} (hX : gt A 0 = X) (h0 : X = 0) (h1 : ∀ i, i < n → gt A i ≤ M) (h2 : ∃ i, i < n ∧ gt A i = M) : (true && fineA n A) = decide (M ≤ 100000) := by
  unfold fineA
  rw [Bool.true_and, decide_eq_true (show gt A 0 = 0 by omega), Bool.true_and]
  obtain ⟨i, hi, he⟩ := h2
  by_cases hM : M ≤ 100000
  · rw [decide_eq_true hM, decide_eq_true]
    intro j hj
    have := h1 j hj
    omega
  · rw [decide_eq_false hM, decide_eq_false]
    intro h
    have := h i hi
    omega
theorem fine_not {n : Nat} {A : List Int} {X : Int} (hX : gt A 0 = X) (h0 : ¬ X = 0) : (true && fineA n A) = false := by
  unfold fineA
  rw [Bool.true_and, decide_eq_false (show ¬ gt A 0 = 0 by omega), Bool.false_and]
set_option maxHeartbeats 4000000 in
set_option maxRecDepth 100000 in
theorem lowest_core (N n S : Nat) (vr : Value) (ss : List Sp) (Z : List Value) (A : List Int) (B : Bool) (w : World) (hN : N ≤ 24) (hn : n = 2 * N + 1)
    (HSP : Hid (∀ W, Below w.heap.size w W → Calls Try.prog 45 #[vr] W fun e w' => ∃ v, e = .returned v ∧ w'.ownsRow W.heap.size 58 4 v S Z ∧ S ≤ 120 ∧ Below W.heap.size W w'))
    (HZ : Hid (flatV ss = Z)) (HSL : Hid (ss.length = S)) (HIN : Hid (∀ s ∈ ss, spIn n s))
    (HGO : Hid (go (ss.flatMap spE) n (zer n) = (A, B))) :
    Calls Try.prog 22 #[.int .i64 (N : Int), vr] w fun e w' => ∃ v, e = .returned (.tuple #[v, .bool (B && fineA n A)]) ∧ (B = true → ∃ g, v = .slice (some ⟨g, 0, none⟩) n n ∧ w.heap.size ≤ g ∧ iblk w' g 3 A) ∧ (B = false → v = .slice none 0 0) ∧ Below w.heap.size w w' := by
  have hn49 : n ≤ 49 := by omega
  have en : 2 * (N : Int) + 1 = (n : Int) := by omega
  have HCO := hide (fun W => coords_any N W hN)
  rw [en] at HCO
  have hmk := fun W => make_ints (P := Try.prog) 28 3 1 8 n Try.underlying28 (.int .i64 0) (by rfl) (by omega) info3 (by omega) (by omega) W
  rw [Nat.mul_one] at hmk
  generalize hzz : zeros n = Q at hmk
  have HQ := hide hzz
  have HNN := hide hn
  have hn1 : 1 ≤ n := by omega
  clear hzz en hn
  go_enter Try.func22, Try.ntmps22
  go_wp2_with fail
  refine (unhide HCO _).mono ?_
  rintro e W0 ⟨rfl, hW00⟩
  have hW01 := hW00.symm
  subst hW01
  clear hW00
  go_wp2_with fail
  refine (unhide HSP _ (by repeat (first | exact Below.refl _ _ | refine ba ?_ _))).mono ?_
  rintro e W2 ⟨v, rfl, hrow, hS, hb2⟩
  have HBA : Hid (Below w.heap.size w W2) := hide (bc (by repeat (first | exact Below.refl _ _ | refine ba ?_ _)) hb2)
  have q6 : W2.cell? ⟨w.heap.size + 1, 0, none⟩ = some (.slice (some ⟨w.heap.size, 0, none⟩) n n) := keep1 hb2 (by simp [go_sem])
  have HI2 : Hid (iblk W2 w.heap.size 3 Q) := hide (bel_iblk hb2 (bel_iblk (ba (Below.refl _ _) _) (iblk_new w 3 Q)))
  have lt6 := cell_lt q6
  obtain ⟨us, cs, rfl, hus⟩ := own_form hrow
  obtain ⟨gs, hgs⟩ : ∃ gs, S ≠ 0 → us = some ⟨gs, 0, none⟩ ∧ w.heap.size + 2 ≤ gs ∧ gs < W2.heap.size ∧ ∀ j x, Z[j]? = some x → W2.cell? ⟨gs, j, none⟩ = some x := by
    by_cases h0 : S = 0
    · exact ⟨0, fun h => absurd h0 h⟩
    · obtain ⟨g, h1, h2, h3, h4⟩ := hus h0
      exact ⟨g, fun _ => ⟨h1, by simpa using h2, h3, h4⟩⟩
  have HGS := hide hgs
  clear hrow hus hgs hb2 hmk
  go_wp2_with fail
  refine (unhide HCO _).mono ?_
  rintro e W3 ⟨rfl, rfl⟩
  have HB3 := hide (show Below W2.heap.size W2 ((W2.alloc (.cells #[.bool false] 4)).alloc (.cells #[.func (.func 46) #[] #[.pointer (some ⟨w.heap.size + 1, 0, none⟩), .pointer (some ⟨W2.heap.size, 0, none⟩)]] 76)) from ba (ba (Below.refl _ _) _) _)
  have k9 : ((W2.alloc (.cells #[.bool false] 4)).alloc (.cells #[.func (.func 46) #[] #[.pointer (some ⟨w.heap.size + 1, 0, none⟩), .pointer (some ⟨W2.heap.size, 0, none⟩)]] 76)).cell? ⟨W2.heap.size + 1, 0, none⟩ = some (.func (.func 46) #[] #[.pointer (some ⟨w.heap.size + 1, 0, none⟩), .pointer (some ⟨W2.heap.size, 0, none⟩)]) := by simp [go_sem]
  have HF3 : Hid (bblk ((W2.alloc (.cells #[.bool false] 4)).alloc (.cells #[.func (.func 46) #[] #[.pointer (some ⟨w.heap.size + 1, 0, none⟩), .pointer (some ⟨W2.heap.size, 0, none⟩)]] 76)) W2.heap.size false) := hide ((Below.heap_alloc _ _ _ (by simp)).trans (heap_alloc_new W2 (.cells #[.bool false] 4)))
  have HI3 := hide (bel_iblk (unhide HB3) (unhide HI2))
  have k6 := keep1 (unhide HB3) q6
  generalize (W2.alloc (.cells #[.bool false] 4)).alloc (.cells #[.func (.func 46) #[] #[.pointer (some ⟨w.heap.size + 1, 0, none⟩), .pointer (some ⟨W2.heap.size, 0, none⟩)]] 76) = W3 at *
  clear HI2
  go_wp2_with fail
  go_loopw [22] (fun s W => ∃ (t cc : Nat) (a : List Int) (f : Bool), s = .int .i64 (t : Int) ∧ t ≤ n ∧ go (ss.flatMap spE) (n - t) a = (A, B) ∧ a.length = n ∧ cc ≤ t * 240 ∧ Bd ((cc : Int) * 100000) a ∧ iblk W w.heap.size 3 a ∧ bblk W W2.heap.size f ∧ Two w.heap.size W2.heap.size W3 W) (fun s _ => n - (intOf s).toNat)
  case atStart =>
    refine ⟨0, 0, zer n, false, rfl, Nat.zero_le _, unhide HGO, zer_len _, by omega, by simpa using bd_zer n, ?_, unhide HF3, Two.refl _ _ _⟩
    rw [zer_zeros, unhide HQ]; exact unhide HI3
  case round =>
    obtain ⟨t, cc, a, f, rfl, ht, hgo, hal, hcc, hbd, hblk, hbb, htwo⟩ := hrel
    have HGT := hide hgo
    have HAL := hide hal
    have HBD := hide hbd
    have HBL := hide hblk
    have HBB := hide hbb
    have HTW := hide htwo
    clear hgo hal hbd hblk hbb htwo
    by_cases h : t < n
    · have t1 : (t : Int) < (n : Int) := by omega
      have tz : decide ((t : Int) < (n : Int)) = true := decide_eq_true t1
      have fc := (unhide HBB).cell
      have fz := (unhide HBB).frozen
      have HBB2 : Hid (bblk (wr.setCell ⟨W2.heap.size, 0, none⟩ (.bool false)) W2.heap.size false) := hide ((unhide HBB).set false)
      have HBL2 : Hid (iblk (wr.setCell ⟨W2.heap.size, 0, none⟩ (.bool false)) w.heap.size 3 a) := hide ((unhide HBL).far (Below.heap_setCell _ _ _ _ (by simp; omega)))
      have HTW2 : Hid (Two w.heap.size W2.heap.size W3 (wr.setCell ⟨W2.heap.size, 0, none⟩ (.bool false))) := hide ((unhide HTW).set2 _ _)
      go_wp2_with fail
      go_loopw [26] (fun s W => ∃ (i ci : Nat) (a2 : List Int) (fl : Bool), s = .int .i64 (i : Int) ∧ i ≤ S ∧ passF ((ss.take i).flatMap spE) (a, false) = (a2, fl) ∧ a2.length = n ∧ ci ≤ t * 240 + 2 * i ∧ Bd ((ci : Int) * 100000) a2 ∧ iblk W w.heap.size 3 a2 ∧ bblk W W2.heap.size fl ∧ Two w.heap.size W2.heap.size W3 W) (fun s _ => S - (intOf s).toNat)
      case atStart => exact ⟨0, cc, a, false, rfl, Nat.zero_le _, rfl, unhide HAL, by omega, unhide HBD, unhide HBL2, unhide HBB2, unhide HTW2⟩
      case round =>
        obtain ⟨i, ci, a2, fl, rfl, hi, hp, hal, hci, hbd, hblk, hbb, htwo⟩ := hrel
        have HP := hide hp
        have HAL2 := hide hal
        have HBD2 := hide hbd
        have HBL3 := hide hblk
        have HBB3 := hide hbb
        have HTW3 := hide htwo
        clear hp hal hbd hblk hbb htwo HBB2 HBL2 HTW2 fc fz
        by_cases hiS : i < S
        · have i1 : (i : Int) < (S : Int) := by omega
          have i0 : (0 : Int) ≤ (i : Int) := Int.natCast_nonneg _
          have iz : decide ((i : Int) < (S : Int)) = true := decide_eq_true i1
          obtain ⟨rfl, gs1, gs2, gs3⟩ := unhide HGS (by omega)
          obtain ⟨⟨lo, hi_, num, just⟩, hs⟩ : ∃ s, ss[i]? = some s := ⟨ss[i]'(by rw [unhide HSL]; exact hiS), List.getElem?_eq_getElem _⟩
          have hin := unhide HIN _ (List.mem_of_getElem? hs)
          obtain ⟨f0, f1, f2, f3⟩ := flatV_at hs
          rw [unhide HZ] at f0 f1 f2 f3
          simp only at f0 f1 f2 f3
          have c0 := (unhide HTW3).cell (b := gs) (by omega) (by omega) (keep1 (unhide HB3) (gs3 _ _ f0))
          have c1 := (unhide HTW3).cell (b := gs) (by omega) (by omega) (keep1 (unhide HB3) (gs3 _ _ f1))
          have c2 := (unhide HTW3).cell (b := gs) (by omega) (by omega) (keep1 (unhide HB3) (gs3 _ _ f2))
          have c3 := (unhide HTW3).cell (b := gs) (by omega) (by omega) (keep1 (unhide HB3) (gs3 _ _ f3))
          have HPT := hide (pass_take (a, false) hs)
          rw [unhide HP] at HPT
          have HSB := hide (passF_bd (spE (lo, hi_, num, just)) ((ci : Int) * 100000) (a2, fl) (unhide HAL2) (fun e he => (spE_in hin e he).2) (by omega) (unhide HBD2))
          have HSL2 := hide (passF_len (spE (lo, hi_, num, just)) (a2, fl))
          have HLE := hide (spE_len (lo, hi_, num, just))
          obtain ⟨s1, s2, s3, s4⟩ := hin
          simp only at s1 s2 s3 s4
          have HRX := hide (fun W (hW : Below wr.heap.size wr W) => relax_any lo hi_ n w.heap.size (W2.heap.size + 1) (w.heap.size + 1) W2.heap.size num ((ci : Int) * 100000) just a2 fl W s1 s2 (by omega) HAL2 (by omega) (by omega) (by omega) (by omega) (by omega) s3 s4 HBD2 (by omega)
            (keep1 hW ((unhide HTW3).cell (by omega) (by omega) k6)) (keep1 hW ((unhide HTW3).cell (by omega) (by omega) k9)) (hide (bel_iblk hW (unhide HBL3))) (hide ((unhide HBB3).far (hW.block _ (cell_lt (unhide HBB3).cell)))))
          clear f0 f1 f2 f3 hs gs3
          generalize hSS : passF (spE (lo, hi_, num, just)) (a2, fl) = S1 at HRX HPT HSB HSL2
          obtain ⟨a3, f3⟩ := S1
          generalize (spE (lo, hi_, num, just)).length = ln at HSB HLE
          simp only at HRX HSB HSL2
          clear hSS
          have ltw := cell_lt c0
          go_wp2_with fail
          refine (unhide HRX _ (by repeat (first | exact Below.refl _ _ | refine ba ?_ _ | refine Below.drew ?_))).mono ?_
          rintro e W5 ⟨rfl, hg5, hf5, ht5⟩
          have HG5 := hide hg5
          have HF5 := hide hf5
          have HT5 : Hid (Two w.heap.size W2.heap.size W3 W5) := hide ((unhide HTW3).trans (Two.trans (by repeat (first | exact Two.refl _ _ _ | refine Two.alloc ?_ _ | refine Two.drew ?_)) ht5))
          clear hg5 hf5 ht5 c0 c1 c2 c3
          go_wp2_with fail
          go_roundw
          case rel =>
            have hle := unhide HLE
            refine ⟨i + 1, ci + 2, a3, f3, by simp, hiS, unhide HPT, (unhide HSL2).trans (unhide HAL2), by omega, ?_, unhide HG5, unhide HF5, unhide HT5⟩
            exact (unhide HSB).mono (by omega)
          case measure => simp only [intOf]; omega
        · have i1 : ¬ (i : Int) < (S : Int) := by omega
          have iz : decide ((i : Int) < (S : Int)) = false := decide_eq_false i1
          have HPP : Hid (pass (ss.flatMap spE) a = (a2, fl)) := hide (by
            have := unhide HP
            rw [List.take_of_length_le (by rw [unhide HSL]; omega)] at this
            exact this)
          have HG2 : Hid (go (ss.flatMap spE) (n - (t + 1) + 1) a = (A, B)) := hide (by
            have := unhide HGT
            rwa [show n - t = n - (t + 1) + 1 by omega] at this)
          have fc := (unhide HBB3).cell
          cases fl with
          | true =>
            have HG3 := hide ((go_succ (unhide HPP)).symm.trans (unhide HG2))
            go_wp2_with fail
            go_roundw
            case rel => exact ⟨t + 1, ci, a2, true, by simp, by omega, unhide HG3, unhide HAL2, by omega, unhide HBD2, unhide HBL3, unhide HBB3, unhide HTW3⟩
            case measure => simp only [intOf]; omega
          | false =>
            have HG3 := hide ((go_stop (unhide HPP)).symm.trans (unhide HG2))
            have m1 : wr.cell? ⟨w.heap.size, 0, none⟩ = some (.int .i64 (gt a2 0)) := (unhide HBL3).cell (gt_some (by rw [unhide HAL2]; omega))
            have k6' := (unhide HTW3).cell (b := w.heap.size + 1) (by omega) (by omega) k6
            have r1 : (0 : Int) < (n : Int) := by omega
            have r0 : 0 < n := hn1
            have r2 : n ≠ 0 := by omega
            have HMX := hide (fun W (hW : iblk W w.heap.size 3 a2) => max_any n w.heap.size a2 W hn1 (by omega) HAL2 (hide hW) (hide ((unhide HBD2).mono (by omega))))
            have HBE : Hid (Below w.heap.size w wr) := hide (Two.bel (bc (unhide HBA) (unhide HB3)) (unhide HTW3) (Nat.le_refl _) (by omega) (by have := (unhide HB3).size; omega))
            generalize hX : gt a2 0 = X at m1
            have HX := hide hX
            clear hX
            by_cases h0 : X = 0
            · have e0 : (X == 0) = true := by simp [h0]
              have HH0 := hide h0
              clear h0
              go_wp2_with fail
              go_region_held3 (fun wx => wx.cell? ⟨w.heap.size + 1, 0, none⟩ = some (.slice (some ⟨w.heap.size, 0, none⟩) n n) ∧ wx.cell? ⟨w.heap.size, 0, none⟩ = some (.int .i64 X))
                (simp (maxDischargeDepth := 12) [go_sem, le1, lt1, *])
                (first
                | (go_at_call 48; refine (unhide HMX _ (by exact unhide HBL3)).mono ?_; rintro e w' ⟨⟨M, rfl, hM1, hM2⟩, hsm⟩; have HM1 := hide hM1; have HM2 := hide hM2; have HSM := hide hsm; have x6 := (hsm.cell ⟨w.heap.size + 1, 0, none⟩).trans k6'; have x7 := (hsm.cell ⟨w.heap.size, 0, none⟩).trans m1; clear hM1 hM2 hsm))
              all_goals
                go_wp2_with fail
                have hg := unhide HG3
                cases hg
                refine bodyPost_ret (v := .tuple #[.slice (some ⟨w.heap.size, 0, none⟩) n n, .bool (decide (M ≤ 100000))]) (by simp [results, Try.results22, go_sem]) rfl ⟨_, ?_, fun _ => ⟨_, rfl, Nat.le_refl _, ?_⟩, (fun h => nomatch h), ?_⟩
                · rw [fine_max (unhide HX) (unhide HH0) (unhide HM1) (unhide HM2)]
                · first | exact (unhide HSM).iblk (unhide HBL3)
                · first | exact (unhide HBE).drew.trans (unhide HSM).bel | exact (unhide HBE).trans (unhide HSM).bel
            · have e0 : (X == 0) = false := by simp [h0]
              have HH0 := hide h0
              clear h0
              go_wp2_with fail
              go_region
              all_goals
                go_wp2_with fail
                have hg := unhide HG3
                cases hg
                refine bodyPost_ret (v := .tuple #[.slice (some ⟨w.heap.size, 0, none⟩) n n, .bool false]) (by simp [results, Try.results22, go_sem]) rfl ⟨_, ?_, fun _ => ⟨_, rfl, Nat.le_refl _, unhide HBL3⟩, (fun h => nomatch h), by repeat (first | exact unhide HBE | refine Below.drew ?_)⟩
                rw [fine_not (unhide HX) (unhide HH0)]
    · have t1 : ¬ (t : Int) < (n : Int) := by omega
      have tz : decide ((t : Int) < (n : Int)) = false := decide_eq_false t1
      have en : t = n := by omega
      subst en
      have hg := unhide HGT
      rw [Nat.sub_self] at hg
      have HGE := hide hg
      clear hg
      go_wp2_with fail
      have hg := unhide HGE
      cases hg
      refine bodyPost_ret (v := .tuple #[.slice none 0 0, .bool false]) (by simp [results, Try.results22, go_sem]) rfl ⟨_, rfl, (fun h => nomatch h), fun _ => rfl, ?_⟩
      exact Two.bel (bc (unhide HBA) (unhide HB3)) (unhide HTW) (Nat.le_refl _) (by omega) (by have := (unhide HB3).size; omega)
end Go.Proofs.Ytchdmigeopmacaa
