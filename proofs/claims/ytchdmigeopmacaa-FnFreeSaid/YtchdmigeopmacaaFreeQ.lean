/-
  What a rule says anew, and the program's freedoms.
-/
import Derived.Test.YtchdmigeopmacaaFreeP
namespace Go.Proofs.Ytchdmigeopmacaa
open Go.ChangeShapes Go.WideShapes Go.ChangeAt Go.RowKit
set_option linter.unusedVariables false
set_option linter.unusedSimpArgs false

def ruleStep (acc : (List Int × Int) × Bool) (sp : Sp) : (List Int × Int) × Bool := if sp.2.2.2 = true then ((tieL acc.1 sp.1 sp.2.1).1, acc.2 || (tieL acc.1 sp.1 sp.2.1).2) else (acc.1, true)
def ruleL (s : List Int × Int) (r : Ru) : (List Int × Int) × Bool := (spR r).foldl ruleStep (s, false)
theorem tieL_bd (s : List Int × Int) (lo hi : Nat) : s.2 - 1 ≤ (tieL s lo hi).1.2 ∧ (tieL s lo hi).1.2 ≤ s.2 ∧ (tieL s lo hi).1.1.length = s.1.length := by
  unfold tieL
  split
  · exact ⟨by show s.2 - 1 ≤ s.2; omega, Int.le_refl _, rfl⟩
  · exact ⟨Int.le_refl _, by show s.2 - 1 ≤ s.2; omega, relab_len _ _ _⟩
theorem ruleStep_bd (acc : (List Int × Int) × Bool) (sp : Sp) : acc.1.2 - 1 ≤ (ruleStep acc sp).1.2 ∧ (ruleStep acc sp).1.2 ≤ acc.1.2 ∧ (ruleStep acc sp).1.1.length = acc.1.1.length := by
  unfold ruleStep
  split
  · exact tieL_bd _ _ _
  · exact ⟨by show acc.1.2 - 1 ≤ acc.1.2; omega, Int.le_refl _, rfl⟩
theorem fold_take {ss : List Sp} {i : Nat} {s : Sp} (a : (List Int × Int) × Bool) (h : ss[i]? = some s) : (ss.take (i + 1)).foldl ruleStep a = ruleStep ((ss.take i).foldl ruleStep a) s := by
  rw [List.take_add_one, h]
  simp

set_option maxHeartbeats 2000000 in
set_option maxRecDepth 100000 in
theorem says_any (N n g b7 b9 : Nat) (fr : Int) (lab : List Int) (r : Ru) (w : World) (hN : N ≤ 24) (hnN : n = 2 * N + 1) (HL : Hid (lab.length = n)) (h1 : b7 ≠ g) (h2 : b7 ≠ b9) (h3 : g ≠ b9) (q1 : -900000 ≤ fr) (q2 : fr ≤ 1000000) (hok : ruOk (N : Int) r = true)
    (k7 : w.cell? ⟨b7, 0, none⟩ = some (.slice (some ⟨g, 0, none⟩) n n)) (HG : Hid (iblk w g 3 lab)) (HF : Hid (iblk w b9 3 [fr])) :
    Calls Try.prog 34 #[ruv r, .func (.func 32) #[] #[.pointer (some ⟨b7, 0, none⟩), .pointer (some ⟨b9, 0, none⟩)]] w
      fun e w' => e = .returned (.bool (ruleL (lab, fr) r).2) ∧ iblk w' g 3 (ruleL (lab, fr) r).1.1 ∧ iblk w' b9 3 [(ruleL (lab, fr) r).1.2] ∧ Two g b9 w w' := by
  have hin := spR_in hok
  rw [← hnN] at hin
  have HIN := hide hin
  have HSP := hide (fun W => spans_any (N : Int) r W (by omega) hok)
  have hsl := spR_len r
  generalize hR : ruleL (lab, fr) r = R
  have HR := hide hR
  unfold ruleL at HR
  clear hR hin
  generalize hss : spR r = ss at *
  have hn : n ≤ 1000 := by omega
  obtain ⟨k, a, b, m⟩ := r
  clear hss hok hnN
  generalize hS : ss.length = S at *
  have HSL := hide hS
  generalize hFV : flatV ss = FV at HSP
  have HFV := hide hFV
  clear hS hFV
  go_enter Try.func34, Try.ntmps34
  go_wp2_with fail
  refine (unhide HSP _).mono ?_
  rintro e W1 ⟨rfl, hh, hb⟩
  have HH : Hid (W1.heap[w.heap.size + 1 + 1]? = some (.cells FV.toArray 58)) := hide (by simpa using hh)
  have hb0 : Below w.heap.size w W1 := bc (ba (Below.refl _ _) _) hb
  have HB1 := hide hb0
  have hsz1 : w.heap.size + 2 < W1.heap.size := (Array.getElem?_eq_some_iff.1 (unhide HH)).1
  have ltg := (unhide HG).lt
  have ltb := (unhide HF).lt
  have HG1 := hide ((unhide HG).bel hb0)
  have HF1 := hide ((unhide HF).bel hb0)
  have k71 := keep1 hb0 k7
  have lt7 := cell_lt k7
  clear hh hb hb0
  go_wp2_with fail
  go_loopw [5, 11] (fun v s W => ∃ (i : Nat) (la : List Int) (f : Int) (nw : Bool), s = .int .i64 (i : Int) ∧ v = .bool nw ∧ i ≤ S ∧ (ss.take i).foldl ruleStep ((lab, fr), false) = ((la, f), nw) ∧ la.length = n ∧ fr - (i : Int) ≤ f ∧ f ≤ fr ∧ iblk W g 3 la ∧ iblk W b9 3 [f] ∧ Two g b9 W1 W) (fun _ s _ => S - (intOf s).toNat)
  case atStart => exact ⟨0, lab, fr, false, rfl, rfl, Nat.zero_le _, rfl, unhide HL, by simp, Int.le_refl _, unhide HG1, unhide HF1, Two.refl _ _ _⟩
  case round =>
    obtain ⟨i, la, f, nw, rfl, rfl, hi, hfold, hla, hf1, hf2, hg, hf, htw⟩ := hrel
    have HFO := hide hfold
    have HLA := hide hla
    have HGi := hide hg
    have HFi := hide hf
    have HTW := hide htw
    clear hfold hla hg hf htw
    by_cases h : i < S
    · have i1 : (i : Int) < (S : Int) := by omega
      have i0 : (0 : Int) ≤ (i : Int) := Int.natCast_nonneg _
      have iz : decide ((i : Int) < (S : Int)) = true := decide_eq_true i1
      obtain ⟨⟨lo, hi_, num, just⟩, hs⟩ : ∃ s, ss[i]? = some s := ⟨ss[i]'(by rw [unhide HSL]; exact h), List.getElem?_eq_getElem _⟩
      have hin := unhide HIN _ (List.mem_of_getElem? hs)
      obtain ⟨s1, s2, s3, s4⟩ := hin
      simp only at s1 s2 s3 s4
      obtain ⟨f0, f1, f2, f3⟩ := flatV_at hs
      rw [unhide HFV] at f0 f1 f2 f3
      simp only at f0 f1 f2 f3
      have cellF : ∀ (j : Nat) (u : Value), FV[j]? = some u → W1.cell? ⟨w.heap.size + 1 + 1, j, none⟩ = some u := fun j u hj => by have := blk_cells (unhide HH) j u hj; rwa [add_none, Nat.zero_add] at this
      have c0 := (unhide HTW).cell (by omega) (by omega) (cellF _ _ f0)
      have c1 := (unhide HTW).cell (by omega) (by omega) (cellF _ _ f1)
      have c2 := (unhide HTW).cell (by omega) (by omega) (cellF _ _ f2)
      have c3 := (unhide HTW).cell (by omega) (by omega) (cellF _ _ f3)
      have HTK := hide (fold_take ((lab, fr), false) hs)
      rw [unhide HFO] at HTK
      have ltw := cell_lt c0
      clear f0 f1 f2 f3 hs cellF
      cases just with
      | true =>
        have hbd := tieL_bd (la, f) lo hi_
        have HBD := hide hbd
        have HTI := hide (fun W (hW : Below wr.heap.size wr W) => tieP_any lo hi_ n g b7 b9 num f la W s1 s2 hn HLA h1 h2 h3 (by omega) (by omega) (keep1 hW ((unhide HTW).cell h1 h2 k71)) (hide (bel_iblk hW (unhide HGi))) (hide (bel_iblk hW (unhide HFi))))
        have HST : Hid (ruleStep ((la, f), nw) (lo, hi_, num, true) = ((tieL (la, f) lo hi_).1, nw || (tieL (la, f) lo hi_).2)) := hide rfl
        rw [unhide HST] at HTK
        clear hbd HST
        generalize tieL (la, f) lo hi_ = TT at *
        obtain ⟨⟨la2, f2⟩, nb⟩ := TT
        simp only at HTI HTK HBD
        go_wp2_with fail
        refine (unhide HTI _ (by repeat (first | exact Below.refl _ _ | refine ba ?_ _ | refine Below.drew ?_))).mono ?_
        rintro e W3 ⟨rfl, hg3, hf3, ht3⟩
        have HG3 := hide hg3
        have HF3 := hide hf3
        have HT3 : Hid (Two g b9 W1 W3) := hide ((unhide HTW).trans (Two.trans (by repeat (first | exact Two.refl _ _ _ | refine Two.alloc ?_ _ | refine Two.drew ?_)) ht3))
        clear hg3 hf3 ht3 c0 c1 c2 c3
        cases nb with
        | true =>
          go_wp2_with fail
          go_roundw
          case rel =>
            obtain ⟨b1, b2, b3⟩ := unhide HBD
            refine ⟨i + 1, la2, f2, true, by simp, rfl, h, by rw [unhide HTK]; simp, b3.trans (unhide HLA), by omega, by omega, unhide HG3, unhide HF3, unhide HT3⟩
          case measure => simp only [intOf]; omega
        | false =>
          go_wp2_with fail
          go_roundw
          case rel =>
            obtain ⟨b1, b2, b3⟩ := unhide HBD
            refine ⟨i + 1, la2, f2, nw, by simp, rfl, h, by rw [unhide HTK]; simp, b3.trans (unhide HLA), by omega, by omega, unhide HG3, unhide HF3, unhide HT3⟩
          case measure => simp only [intOf]; omega
      | false =>
        have HST : Hid (ruleStep ((la, f), nw) (lo, hi_, num, false) = ((la, f), true)) := hide rfl
        rw [unhide HST] at HTK
        go_wp2_with fail
        go_roundw
        case rel => exact ⟨i + 1, la, f, true, by simp, rfl, h, unhide HTK, unhide HLA, by omega, hf2, bel_iblk (ba (Below.refl _ _) _) (unhide HGi), bel_iblk (ba (Below.refl _ _) _) (unhide HFi), by repeat (first | exact unhide HTW | refine Two.alloc ?_ _ | refine Two.drew ?_)⟩
        case measure => simp only [intOf]; omega
    · have i1 : ¬ (i : Int) < (S : Int) := by omega
      have iz : decide ((i : Int) < (S : Int)) = false := decide_eq_false i1
      have hR : R = ((la, f), nw) := by
        rw [← unhide HR, ← unhide HFO, List.take_of_length_le (by rw [unhide HSL]; omega)]
      subst hR
      go_wp2_with fail
      go_ret
      exact ⟨rfl, unhide HGi, unhide HFi, (Two.of_bel (unhide HB1)).trans (unhide HTW)⟩
end Go.Proofs.Ytchdmigeopmacaa
