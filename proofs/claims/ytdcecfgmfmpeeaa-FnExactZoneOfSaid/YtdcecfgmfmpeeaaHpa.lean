/-
  Hull of the program and of the model: the same points and the same code at every list.
-/
import Derived.Test.YtdcecfgmfmpeeaaHso
import Derived.Test.YtdcecfgmfmpeeaaHhm
namespace Go.Proofs.Ytdcecfgmfmpeeaa
open Go.ChangeShapes Go.WideShapes Go.ChangeAt Go.RowKit
open Go.Sort (flatK HoldsK putRowK)
set_option linter.unusedVariables false
set_option linter.unusedSimpArgs false

theorem cloneP_any (g cap : Nat) (L : List Pt) (w : World) (hn : L.length ≤ 4096) (hI : IntsAt w g 0 (flat2 L)) :
    Calls Try.prog 34 #[.slice (some ⟨g, 0, none⟩) L.length cap] w fun e w' => ∃ g' c', e = .returned (.slice (some ⟨g', 0, none⟩) L.length c') ∧ Row w' w.heap.size 30 2 (.slice (some ⟨g', 0, none⟩) L.length c') L.length (flat2 L) ∧ Below w.heap.size w w' := by
  obtain ⟨i0, hi, hz0, hz1, hz2⟩ := info_parts info26
  have h := AnyE.slices_Clone Try.l34 i0 (.agg #[.int .i64 0, .int .i64 0]) 2 16 hi hz0 hz1 hz2 rfl (by omega) Try.sizeOf30 g 0 L.length cap ((flat2 L).map (Value.int .i64)) w (by simp [flat2_len]) (by unfold maxLen; omega) (by omega)
    (fun j u hj => by
      rw [List.getElem?_map] at hj
      obtain ⟨x, hx, rfl⟩ := Option.map_eq_some_iff.1 hj
      exact hI j x hx) ints_one
  refine Calls.mono h ?_
  rintro e w' ⟨v, rfl, hown, hv, hb⟩
  have hr : Row w' w.heap.size 30 2 v L.length (flat2 L) := hown
  obtain ⟨g', c', rfl, _⟩ := hr.sm hv
  exact ⟨g', c', rfl, hr, hb⟩
theorem revP_any (B g cap : Nat) (D : List Pt) (w : World) (hB : B ≤ w.heap.size) (hgB : B ≤ g) (hn : D.length ≤ 4096) (hrow : Row w B 30 2 (.slice (some ⟨g, 0, none⟩) D.length cap) D.length (flat2 D)) :
    Calls Try.prog 39 #[.slice (some ⟨g, 0, none⟩) D.length cap] w fun e w' => e = .returned (.tuple #[]) ∧ Row w' B 30 2 (.slice (some ⟨g, 0, none⟩) D.length cap) D.length (flat2 D.reverse) ∧ Below B w w' ∧ ∀ i, i ≠ g → w'.heap[i]? = w.heap[i]? := by
  have hcon := AnyQ.slices_Reverse Try.l39 2 Try.isAgg30 Try.sizeOf30 encPt (fun _ => rfl) (fun x v hv => by simp [encPt] at hv; rcases hv with rfl | rfl <;> rfl) g 0 cap D.toArray w hrow.holds (by simp; omega)
  change Calls Try.prog 39 _ _ _ at hcon
  rw [List.size_toArray] at hcon
  refine hcon.mono ?_
  rintro e w' ⟨rfl, n, rfl⟩
  have hf : flatK encPt 2 D.toArray.reverse = ((flat2 D.reverse).map (Value.int .i64)).toArray := by have := flatK_pts D.reverse; simpa using this
  have h1 := hrow.put (flat2 D.reverse) (by rw [flat2_len]; simp)
  have hne : ∀ i, i ≠ g → (putRowK encPt 2 (Sort.ahead w n) g 0 D.toArray.reverse).heap[i]? = w.heap[i]? := fun i hi => by
    show (w.heap.modify g _)[i]? = _
    rw [Array.getElem?_modify, if_neg (fun e => hi e.symm)]
  refine ⟨rfl, ?_, ⟨rfl, rfl, rfl, ?_, fun i hi => hne i (by omega)⟩, hne⟩
  · unfold putRowK
    rw [hf]
    exact h1
  · show w.heap.size ≤ (w.heap.modify g _).size
    simp

/-- what Hull answers: the code, the points -/
def hullC (L : List Pt) : Int := if 4096 < L.length then 2 else if 1 ≤ L.length ∧ L.length ≤ 200 ∧ L.all ptOk = true then 0 else 1
def hullL (L : List Pt) : List Pt := if 4096 < L.length then [] else if 1 ≤ L.length ∧ L.length ≤ 200 ∧ L.all ptOk = true then hullM (srtU L) else []
theorem hullM_le (U : List Pt) : (hullM U).length ≤ 2 * U.length := by
  unfold hullM
  split
  · omega
  · have h1 : (half U).length ≤ U.length := by have := halfR_le U; unfold half; rw [List.length_reverse]; exact this
    have h2 : (half U.reverse).length ≤ U.length := by have := halfR_le U.reverse; unfold half; rw [List.length_reverse]; rw [List.length_reverse] at this; exact this
    rw [List.length_append, List.length_dropLast, List.length_dropLast]
    omega
theorem hullL_le (L : List Pt) : (hullL L).length ≤ 400 := by
  unfold hullL
  split
  · simp
  · split
    · rename_i h
      have h1 := hullM_le (srtU L)
      have h2 := srtU_len L
      omega
    · simp

set_option maxHeartbeats 4000000 in
set_option maxRecDepth 100000 in
theorem hullP_good (b cap : Nat) (L : List Pt) (w : World) (h1 : 1 ≤ L.length) (h2 : L.length ≤ 200) (hok : L.all ptOk = true) (hb : b < w.heap.size) (hI : IntsAt w b 0 (flat2 L)) (HPR : Hid (Calls Try.prog 33 #[.slice (some ⟨b, 0, none⟩) L.length cap] w fun e w' => e = .returned (.bool true) ∧ Below w.heap.size w w')) :
    Calls Try.prog 9 #[.slice (some ⟨b, 0, none⟩) L.length cap] w fun e w' => ∃ v, e = .returned (.tuple #[v, .int .i64 0]) ∧ Row w' w.heap.size 30 2 v (hullM (srtU L)).length (flat2 (hullM (srtU L))) ∧ Below w.heap.size w w' := by
  obtain ⟨iP, hi1, hy0, hy1, hy2⟩ := info_parts info26
  have d0 : decide ((4096 : Int) < (L.length : Int)) = false := decide_eq_false (by omega)
  have d1 : decide ((1 : Int) ≤ (L.length : Int)) = true := decide_eq_true (by omega)
  have d2 : decide ((L.length : Int) ≤ 200) = true := decide_eq_true (by omega)
  have HI := hide hI
  have HOK : Hid (∀ p ∈ L, ptOk p = true) := hide (List.all_eq_true.1 hok)
  have HNE : Hid (L ≠ []) := hide (fun e => by rw [e] at h1; simp at h1)
  clear hI hok
  go_enter Try.func9, Try.ntmps9
  go_wp2_with fail
  refine (btw_any _ _ _ _).mono ?_
  rintro e w' ⟨rfl, hww⟩
  have hww' := hww.symm
  clear hww
  subst hww'
  rw [d1, d2]
  go_wp2_with fail
  refine (unhide HPR).mono ?_
  rintro e W1 ⟨rfl, hb1⟩
  have HB1 := hide hb1
  have HI1 := hide ((unhide HI).below hb1 hb)
  clear hb1 HPR
  go_wp2_with fail
  refine (cloneP_any b cap L W1 (by omega) (unhide HI1)).mono ?_
  rintro e W2 ⟨g, c, rfl, hr2, hb2⟩
  obtain ⟨_, _, hvg, hg1, hg2, hc1, hc2⟩ := hr2.sm (by simp)
  cases hvg
  have HR2 := hide hr2
  have HB2 := hide hb2
  have hs2 := hb2.size
  clear hr2 hb2
  go_wp2_with fail
  refine (sortF_any W1.heap.size g c L W2 hs2 hg1 (by omega) (unhide HR2)).mono ?_
  rintro e W3 ⟨rfl, M, hMl, hMm, hMs, hr3, hb3⟩
  have HCS := hide (comp_srt hMs hMm)
  have hs3 := hb3.size
  have HR3 : Hid (Row W3 W1.heap.size 30 2 (.slice (some ⟨g, 0, none⟩) M.length c) M.length (flat2 M)) := hide (by rw [hMl]; exact hr3)
  have HB3 : Hid (Below W1.heap.size W1 W3) := hide ((unhide HB2).trans hb3)
  have EML := hide hMl
  clear hMm hMs hr3 hb3 HR2
  have HCO := hide (compact_any W1.heap.size g c M W3 (by omega) hg1 (by omega) (unhide HR3))
  rw [unhide EML, unhide HCS] at HCO
  have hUl := srtU_len L
  have HUN := hide (srtU_ne (unhide HNE))
  have HUO : Hid (∀ p ∈ srtU L, ptOk p = true) := hide (fun p hp => unhide HOK p (((srtU_facts L).2 p).1 hp))
  have HEQ := hide (hull_eq (srtU L) (srtU_ne (unhide HNE)))
  clear hMl
  generalize hU : srtU L = U at *
  have EU := hide hU
  clear hU
  go_wp2_with fail
  refine (unhide HCO).mono ?_
  rintro e W4 ⟨rfl, hr4, hb4⟩
  obtain ⟨_, _, hvg, _, hg4, hc4, hc42⟩ := hr4.sm (by simp)
  cases hvg
  have HR4 := hide hr4
  have HB4 : Hid (Below W1.heap.size W1 W4) := hide ((unhide HB3).trans hb4)
  have hs4 := hb4.size
  clear hr4 hb4 HCO HB3
  go_wp2_with fail
  refine (leftTurns_any g c U W4 (by omega) hg4 (unhide HUO) (unhide HR4).ints).mono ?_
  rintro e W5 ⟨v5, rfl, hr5, hb5⟩
  have HR5 := hide hr5
  have HR5g := hide ((unhide HR4).below hb5)
  have HB5 : Hid (Below W1.heap.size W1 W5) := hide (bc (unhide HB4) hb5)
  have hs5 := hb5.size
  clear hr5 hb5
  go_wp2_with fail
  refine (revP_any W1.heap.size g c U W5 (by omega) hg1 (by omega) (unhide HR5g)).mono ?_
  rintro e W6 ⟨rfl, hr6, hb6, hne6⟩
  have HR6 : Hid (Row W6 W1.heap.size 30 2 (.slice (some ⟨g, 0, none⟩) U.reverse.length c) U.reverse.length (flat2 U.reverse)) := hide (by rw [List.length_reverse]; exact hr6)
  have HR5' : Hid (Row W6 W4.heap.size 30 2 v5 (half U).length (flat2 (half U))) := hide ((unhide HR5).kept' (fun x hx => hne6 x (by have := (World.ownsRow.lt (unhide HR5) x hx).1; omega)))
  have HB6 : Hid (Below W1.heap.size W1 W6) := hide ((unhide HB5).trans hb6)
  have hs6 := hb6.size
  have hg6 : g < W6.heap.size := by omega
  clear hr6 hb6 hne6 HR5 HR5g
  have HLT := hide (leftTurns_any g c U.reverse W6 (by rw [List.length_reverse]; omega) hg6 (fun p hp => unhide HUO p (List.mem_reverse.1 hp)) (unhide HR6).ints)
  rw [List.length_reverse] at HLT
  go_wp2_with fail
  refine (unhide HLT).mono ?_
  rintro e W7 ⟨v7, rfl, hr7, hb7⟩
  have HR7 := hide hr7
  have HRV : Hid (Row W7 w.heap.size 30 2 v5 (half U).length (flat2 (half U))) := hide (((unhide HR5').below hb7).mono (by have := (unhide HB1).size; omega))
  have HBW : Hid (Below w.heap.size w W7) := hide (bc (unhide HB1) (bc (unhide HB6) hb7))
  have hp1 := half_pos U (unhide HUN)
  have hp2 := half_pos U.reverse (by rw [Ne, List.reverse_eq_nil_iff]; exact unhide HUN)
  have l1 : (half U).length ≤ U.length := by have := halfR_le U; unfold half; rw [List.length_reverse]; exact this
  have l2 : (half U.reverse).length ≤ U.length := by have := halfR_le U.reverse; unfold half; rw [List.length_reverse]; rw [List.length_reverse] at this; exact this
  obtain ⟨g7, c7, rfl, hg71, hg72, hi7, hc7, hc72⟩ := hr7.full (by omega)
  have HI7 := hide hi7
  obtain ⟨u5, c5, rfl, _⟩ := (unhide HRV).form
  have hs7 := hb7.size
  clear hr7 hb7 hi7 HLT HR6 HR5' HB6 HB5 HB4
  unfold hullP at HEQ
  generalize half U = X at *
  generalize half U.reverse = Y at *
  obtain ⟨M1, hM1⟩ : ∃ M1 : Nat, M1 = max 1 (Y.length - 1) := ⟨_, rfl⟩
  have wy : IntKind.i64.wrap ((Y.length : Int) - 1) = (Y.length : Int) - 1 := wrap_i (by omega) (by omega)
  have hmx : max (1 : Int) ((Y.length : Int) - 1) = (M1 : Int) := by omega
  have m1 : (1 : Int) ≤ (M1 : Int) := by omega
  have m2 : (M1 : Int) ≤ (c7 : Int) := by omega
  have m3 : (0 : Int) ≤ (M1 : Int) := by omega
  have EM1 := hide hM1
  by_cases hc : c7 = 1
  · have hY1 : Y.length = 1 := by omega
    have hm0 : M1 = 1 := by omega
    clear hM1
    subst hm0
    subst hc
    have HY1 := hide hY1
    have hmx2 : max (1 : Int) ((Y.length : Int) - 1) = 1 := by omega
    clear hY1 hmx m1 m2 m3
    go_wp2_with (at_builtin; refine unhide ?_)
    refine hide ?_
    refine wpList_append_own _ rfl _ _ 23 rfl w.heap.size 30 iP _ 2 16 Try.underlying23 hi1 hy0 hy1 hy2 rfl (by decide) _ _ _ rfl (unhide HRV) ⟨g7, 0, none⟩ 0 0 ((flat2 ((Y.drop 1).take (1 - 1))).map (Value.int .i64)) rfl (by rw [List.length_map, flat2_len, List.length_take, List.length_drop]; have := unhide EM1; omega) (fun j u hj => by simp [flat2] at hj) ints_one (by unfold maxLen; omega) (by omega) (by have := (unhide HBW).size; omega) ?_
    intro v' wz hown' hgrow _
    have R := hide (own_more (wr := W7) (news := flat2 ((Y.drop 1).take (1 - 1))) (Below.refl _ _) (by have := (unhide HBW).size; omega) (unhide HRV) hown' hgrow)
    clear hown' hgrow
    go_wp2_with fail
    have HF : Hid (Row wz w.heap.size 30 2 v' (hullM U).length (flat2 (hullM U))) := hide (by
      have hR := (unhide R).1
      rw [← unhide HEQ, ← unhide EM1, List.length_append, flat2_app]
      have e : ((Y.drop 1).take (1 - 1)).length = 0 := by rw [List.length_take, List.length_drop]; have := unhide EM1; omega
      rw [e]
      exact hR)
    exact bodyPost_ret (v := .tuple #[v', .int .i64 0]) (by simp [results, Try.results9, go_sem]) rfl ⟨_, rfl, by rw [unhide EU]; exact unhide HF, (unhide HBW).trans (unhide R).2⟩
  · clear hM1
    go_wp2_with (at_builtin; refine unhide ?_)
    refine hide ?_
    refine wpList_append_own _ rfl _ _ 23 rfl w.heap.size 30 iP _ 2 16 Try.underlying23 hi1 hy0 hy1 hy2 rfl (by decide) _ _ _ rfl (unhide HRV) ⟨g7, 2, none⟩ (M1 - 1) (c7 - 1) ((flat2 ((Y.drop 1).take (M1 - 1))).map (Value.int .i64)) rfl (by rw [List.length_map, flat2_len, List.length_take, List.length_drop]; have := unhide EM1; omega) (src_cells (unhide HI7) _ 2 (fun j x hj => by rw [← flat2_take, ← flat2_drop] at hj; rw [List.getElem?_take] at hj; split at hj; exact (by rw [List.getElem?_drop] at hj; exact hj); cases hj)) ints_one (by unfold maxLen; omega) (by omega) (by have := (unhide HBW).size; omega) ?_
    intro v' wz hown' hgrow _
    have R := hide (own_more (wr := W7) (news := flat2 ((Y.drop 1).take (M1 - 1))) (Below.refl _ _) (by have := (unhide HBW).size; omega) (unhide HRV) hown' hgrow)
    clear hown' hgrow
    go_wp2_with fail
    have HF : Hid (Row wz w.heap.size 30 2 v' (hullM U).length (flat2 (hullM U))) := hide (by
      have hR := (unhide R).1
      rw [← unhide HEQ, ← unhide EM1, List.length_append, flat2_app]
      have e : ((Y.drop 1).take (M1 - 1)).length = M1 - 1 := by rw [List.length_take, List.length_drop]; have := unhide EM1; omega
      rw [e]
      exact hR)
    exact bodyPost_ret (v := .tuple #[v', .int .i64 0]) (by simp [results, Try.results9, go_sem]) rfl ⟨_, rfl, by rw [unhide EU]; exact unhide HF, (unhide HBW).trans (unhide R).2⟩
end Go.Proofs.Ytdcecfgmfmpeeaa
