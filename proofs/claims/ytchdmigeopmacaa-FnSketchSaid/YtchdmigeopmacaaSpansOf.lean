/-
  The program's spans of all rules.
-/
import Derived.Test.YtchdmigeopmacaaSpans
namespace Go.Proofs.Ytchdmigeopmacaa
open Go.ChangeShapes Go.WideShapes Go.ChangeAt Go.RowKit
set_option linter.unusedVariables false
set_option linter.unusedSimpArgs false

theorem spans_any (n : Int) (r : Ru) (w : World) (hn : n ≤ 24) (hok : ruOk n r = true) :
    Calls Try.prog 53 #[ruv r] w fun e w' => e = .returned (.slice (some ⟨w.heap.size + 1, 0, none⟩) (spR r).length (spR r).length) ∧ w'.heap[w.heap.size + 1]? = some (.cells (flatV (spR r)).toArray 58) ∧ Below w.heap.size w w' := by
  obtain ⟨k, a, b, m⟩ := r
  obtain ⟨h1, h2, h3, h4⟩ := of_decide_eq_true hok
  simp only at h1 h2 h3 h4
  have a0 : 0 ≤ a := h2.1
  have a1 : a ≤ 24 := by omega
  have bb : 0 ≤ b ∧ b ≤ 24 := by split at h3 <;> omega
  obtain ⟨b0, b1⟩ := bb
  have ea : ((a.toNat : Nat) : Int) = a := Int.toNat_of_nonneg a0
  have eb : ((b.toNat : Nat) : Int) = b := Int.toNat_of_nonneg b0
  have hk : k = 1 ∨ k = 2 ∨ k = 3 ∨ k = 4 ∨ k = 5 ∨ k = 6 ∨ k = 7 ∨ k = 8 ∨ k = 9 := by omega
  rcases hk with rfl | rfl | rfl | rfl | rfl | rfl | rfl | rfl | rfl
  · have h := spans_1 a b m w a0 a1 b0 b1; simpa [spR, flatV, spV, ea, eb] using h
  · have h := spans_2 a b m w a0 a1 b0 b1; simpa [spR, flatV, spV, ea, eb] using h
  · have h := spans_3 a b m w a0 a1 b0 b1; simpa [spR, flatV, spV, ea, eb] using h
  · have h := spans_4 a b m w a0 a1 b0 b1; simpa [spR, flatV, spV, ea, eb] using h
  · have h := spans_5 a b m w a0 a1 b0 b1; simpa [spR, flatV, spV, ea, eb] using h
  · have h := spans_6 a b m w a0 a1 b0 b1; simpa [spR, flatV, spV, ea, eb] using h
  · have h := spans_7 a b m w a0 a1 b0 b1; simpa [spR, flatV, spV, ea, eb] using h
  · have h := spans_8 a b m w a0 a1 b0 b1; simpa [spR, flatV, spV, ea, eb] using h
  · have h := spans_9 a b m w a0 a1 b0 b1; simpa [spR, flatV, spV, ea, eb] using h
theorem spR_len (r : Ru) : (spR r).length ≤ 2 := by
  unfold spR
  repeat' split
  all_goals simp
theorem flatV_len (ss : List Sp) : (flatV ss).length = ss.length * 4 := by
  induction ss with
  | nil => rfl
  | cons s ss ih => show (flatV ss).length + 4 = (ss.length + 1) * 4; omega
theorem flatV_append (a b : List Sp) : flatV (a ++ b) = flatV a ++ flatV b := by simp [flatV]
theorem flatV_one (ss : List Sp) : ∀ u ∈ flatV ss, u.oneCell' = true := by
  intro u hu
  obtain ⟨s, _, hs⟩ := List.mem_flatMap.1 hu
  simp only [spV, List.mem_cons, List.not_mem_nil, or_false] at hs
  rcases hs with rfl | rfl | rfl | rfl <;> rfl
theorem flatV_at {ss : List Sp} {i : Nat} {s : Sp} (h : ss[i]? = some s) : (flatV ss)[i * 4]? = some (.int .i64 (s.1 : Int)) ∧ (flatV ss)[i * 4 + 1]? = some (.int .i64 (s.2.1 : Int)) ∧ (flatV ss)[i * 4 + 2]? = some (.int .i64 s.2.2.1) ∧ (flatV ss)[i * 4 + 3]? = some (.bool s.2.2.2) := by
  induction ss generalizing i with
  | nil => cases h
  | cons x ss ih =>
    cases i with
    | zero =>
      simp only [List.getElem?_cons_zero, Option.some.injEq] at h
      subst h
      exact ⟨rfl, rfl, rfl, rfl⟩
    | succ i =>
      have h1 := ih (i := i) (by simpa using h)
      rw [show (i + 1) * 4 = i * 4 + 4 by omega]
      exact h1
theorem info71 : (Try.prog.info? 58).map (fun i => (i.zero, i.size, i.bytes)) = some (some (.agg #[.int .i64 0, .int .i64 0, .int .i64 0, .bool false]), 4, 32) := by kernel_rfl
theorem blk_cells {W : World} {g e : Nat} {news : List Value} (h : W.heap[g]? = some (.cells news.toArray e)) : ∀ (j : Nat) (u : Value), news[j]? = some u → W.cell? ((⟨g, 0, none⟩ : Addr).add j) = some u := by
  intro j u hj
  rw [add_none, Nat.zero_add]
  simp only [World.cell?]
  rw [h]
  simp [hj]

theorem own_below {w w' : World} {B t k : Nat} {v : Value} {n : Nat} {xs : List Value} (h : w.ownsRow B t k v n xs) (hb : Below w.heap.size w w') : w'.ownsRow B t k v n xs := by
  refine ⟨h.1, ?_⟩
  rcases h.2 with h1 | ⟨g, cap, cur, hv, hB, hh, r⟩
  · exact .inl h1
  · exact .inr ⟨g, cap, cur, hv, hB, (hb.block g (Array.getElem?_eq_some_iff.1 hh).1).trans hh, r⟩

set_option maxHeartbeats 2000000 in
set_option maxRecDepth 100000 in
theorem spansOf_any (n : Int) (u : Option Addr) (p po l c M : Nat) (Z : List Value) (rs : List Ru) (w : World) (HMZ : Hid ((rs.flatMap spR).length = M ∧ flatV (rs.flatMap spR) = Z)) (hn : n ≤ 24) (HL : Hid (rs.length = l)) (hl : l ≤ 60)
    (HX : Hid (l ≠ 0 → u = some ⟨p, po, none⟩ ∧ p < w.heap.size ∧ RusAt w p po rs)) (HOK : Hid (∀ r ∈ rs, ruOk n r = true)) :
    Calls Try.prog 45 #[.slice u l c] w fun e w' => ∃ v, e = .returned v ∧ w'.ownsRow w.heap.size 58 4 v M Z ∧ M ≤ 2 * l ∧ Below w.heap.size w w' := by
  obtain ⟨i0, hi, hz0, hz1, hz2⟩ := info_parts info71
  go_enter Try.func45, Try.ntmps45
  go_wp2_with fail
  go_loopw [3, 8] (fun v s W => ∃ (j m : Nat) (X : List Value), s = .int .i64 (j : Int) ∧ j ≤ l ∧ ((rs.take j).flatMap spR).length = m ∧ flatV ((rs.take j).flatMap spR) = X ∧ m ≤ 2 * j ∧ W.ownsRow w.heap.size 58 4 v m X ∧ Below w.heap.size w W) (fun _ s _ => l - (intOf s).toNat)
  case atStart => exact ⟨0, 0, [], rfl, Nat.zero_le _, rfl, rfl, by omega, World.ownsRow_nil _ _ _ _, Below.refl _ _⟩
  case round =>
    obtain ⟨j, m, X, rfl, hj, hm, hX, hm2, hrow, hw⟩ := hrel
    have HW := hide hw
    have HR := hide hrow
    have HM := hide hm
    have HXX := hide hX
    clear hw hrow hm hX
    by_cases h : j < l
    · have j1 : (j : Int) < (l : Int) := by omega
      have j0 : (0 : Int) ≤ (j : Int) := Int.natCast_nonneg _
      have jz : decide ((j : Int) < (l : Int)) = true := decide_eq_true j1
      obtain ⟨rfl, pw, pa⟩ := unhide HX (by omega)
      obtain ⟨r, hr⟩ : ∃ r, rs[j]? = some r := ⟨rs[j]'(by rw [unhide HL]; exact h), List.getElem?_eq_getElem _⟩
      have hok := unhide HOK r (List.mem_of_getElem? hr)
      have HSP := hide (fun W => spans_any n r W hn hok)
      have HTK : Hid ((rs.take (j + 1)).flatMap spR = (rs.take j).flatMap spR ++ spR r) := hide (by rw [List.take_add_one, hr]; simp)
      have HLR := hide (spR_len r)
      have HFL := hide (flatV_len (spR r))
      have HF1 := hide (flatV_one (spR r))
      have HFA := hide (flatV_append ((rs.take j).flatMap spR) (spR r))
      have HLA : Hid (((rs.take j).flatMap spR ++ spR r).length = ((rs.take j).flatMap spR).length + (spR r).length) := hide List.length_append
      obtain ⟨k0, k1, k2, k3⟩ := (pa.bel (unhide HW) pw) j _ hr
      obtain ⟨k, a, b, mm⟩ := r
      simp only at k0 k1 k2 k3
      clear pa hr pw hok
      generalize (spR (k, a, b, mm)).length = ln at *
      generalize flatV (spR (k, a, b, mm)) = Y at *
      go_wp2_with fail
      refine (unhide HSP _).mono ?_
      rintro e W1 ⟨rfl, hh, hb⟩
      have HH : Hid (W1.heap[wr.heap.size + 1 + 1]? = some (.cells Y.toArray 58)) := hide (by simpa using hh)
      have HB1 : Hid (Below wr.heap.size wr W1) := hide (bc (ba (Below.refl _ _) _) hb)
      have HRW : Hid (W1.ownsRow w.heap.size 58 4 u3 m X) := hide (own_below (unhide HR) (unhide HB1))
      have hsz := (unhide HB1).size
      have hsz2 := (unhide HW).size
      clear hb hh
      go_wp2_with (at_builtin; refine unhide ?_)
      refine hide ?_
      refine wpList_append_own _ rfl _ _ 74 rfl w.heap.size 58 i0 _ 4 32 Try.underlying74 hi hz0 hz1 hz2 rfl (by decide) _ _ _ rfl (unhide HRW) _ ln ln Y rfl (unhide HFL) (blk_cells (unhide HH)) (unhide HF1) (by unfold maxLen; have := unhide HLR; omega) (by have := unhide HLR; omega) (by omega) ?_
      intro v' w1 hown' hgrow _
      have HB2 : Hid (Below w.heap.size w w1) := hide ((bc (unhide HW) (unhide HB1)).grown hgrow (by omega) (fun j hj => ((unhide HRW).lt j hj).1))
      have HO2 := hide hown'
      clear hown' hgrow
      go_wp2_with fail
      go_roundw
      case rel =>
        refine ⟨j + 1, m + ln, X ++ Y, by simp, h, ?_, ?_, by have := unhide HLR; omega, unhide HO2, unhide HB2⟩
        · rw [unhide HTK, unhide HLA, unhide HM]
        · rw [unhide HTK, unhide HFA, unhide HXX]
      case measure => simp only [intOf]; omega
    · have j1 : ¬ (j : Int) < (l : Int) := by omega
      have jz : decide ((j : Int) < (l : Int)) = false := decide_eq_false j1
      have en : j = l := by omega
      subst en
      have ht : rs.take j = rs := List.take_of_length_le (by rw [unhide HL]; omega)
      rw [ht] at HM HXX
      go_wp2_with fail
      go_ret
      refine ⟨_, rfl, ?_, ?_, unhide HW⟩
      · rw [← (unhide HMZ).1, ← (unhide HMZ).2, unhide HM, unhide HXX]; exact unhide HR
      · rw [← (unhide HMZ).1, unhide HM]; exact hm2
end Go.Proofs.Ytchdmigeopmacaa
