/-
  Half a hull as the model makes it.
-/
import Derived.Test.YtdcecfgmfmpeeaaHta
namespace Go.Proofs.Ytdcecfgmfmpeeaa
open Go.ChangeShapes Go.WideShapes Go.ChangeAt Go.RowKit
set_option linter.unusedVariables false
set_option linter.unusedSimpArgs false

def slenV (v : Value) : Nat := match v with | .slice _ l _ => l | _ => 0

set_option maxHeartbeats 4000000 in
set_option maxRecDepth 100000 in
theorem halfM_any (b cap : Nat) (L : List Pt) (w : World) (hn : L.length ≤ 4096) (hne : L ≠ []) (hb : b < w.heap.size) (hok : ∀ p ∈ L, ptOk p = true) (hI : IntsAt w b 0 (flat2 L)) :
    Calls Try.prog 59 #[.slice (some ⟨b, 0, none⟩) L.length cap] w fun e w' => ∃ v, e = .returned v ∧ Row w' w.heap.size 30 2 v (half L).dropLast.length (flat2 (half L).dropLast) ∧ Below w.heap.size w w' := by
  obtain ⟨iP, hi1, hy0, hy1, hy2⟩ := info_parts info26
  have HOK := hide hok
  have HI := hide hI
  have HNE := hide hne
  clear hok hI hne
  go_enter Try.func59, Try.ntmps59
  go_wp2_with fail
  go_loopw [3, 4] (fun v s W => ∃ i : Nat, s = .int .i64 (i : Int) ∧ i ≤ L.length ∧ (∀ q ∈ halfR (L.take i), ptOk q = true) ∧ Row W w.heap.size 30 2 v (halfR (L.take i)).length (flat2 (halfR (L.take i)).reverse) ∧ Below w.heap.size w W) (fun _ s _ => L.length - (intOf s).toNat)
  case atStart => exact ⟨0, rfl, by omega, (fun q hq => by cases hq), row_made _ 30 _ 2 (by simp) _ (by simp), ba (Below.refl _ _) _⟩
  case round =>
    obtain ⟨i, rfl, hi, hmem, hrow, hw⟩ := hrel
    have HM := hide hmem
    have HRW := hide hrow
    have HW := hide hw
    have hszw := hw.size
    clear hmem hrow hw
    by_cases h : i < L.length
    · have iz : decide ((i : Int) < (L.length : Int)) = true := decide_eq_true (by omega)
      have i1 : (i : Int) < (L.length : Int) := by omega
      have i0 : (0 : Int) ≤ (i : Int) := by omega
      obtain ⟨p1, p2, hp⟩ : ∃ p1 p2 : Int, L[i]? = some (p1, p2) := ⟨_, _, List.getElem?_eq_getElem h⟩
      have kp := unhide HOK _ (List.mem_of_getElem? hp)
      have HC : Hid (∀ W, Below w.heap.size w W → W.cell? ⟨b, i * 2, none⟩ = some (.int .i64 p1) ∧ W.cell? ⟨b, i * 2 + 1, none⟩ = some (.int .i64 p2)) := hide (fun W hW => by
        have hIw := (unhide HI).below hW hb
        have c0 := hIw _ _ (flat2_at hp).1
        have c1 := hIw _ _ (flat2_at hp).2
        rw [Nat.zero_add] at c0 c1
        exact ⟨c0, c1⟩)
      have HS := hide (halfR_succ hp)
      have HLE := hide (halfR_le (L.take i))
      have hle : (halfR (L.take i)).length ≤ L.length := by have := unhide HLE; rw [List.length_take] at this; omega
      have HKP := hide kp
      obtain ⟨u, c, rfl, _⟩ := (unhide HRW).form
      have wi : IntKind.i64.wrap ((i : Int) + 1) = (i : Int) + 1 := wrap_i (by omega) (by omega)
      clear hp kp
      generalize halfR (L.take i) = rs0 at *
      go_wp2_with fail
      go_loopw [3] (fun v W => ∃ rs : List Pt, rs.length ≤ rs0.length ∧ popR rs (p1, p2) = popR rs0 (p1, p2) ∧ (∀ q ∈ rs, ptOk q = true) ∧ Row W w.heap.size 30 2 v rs.length (flat2 rs.reverse) ∧ Below w.heap.size w W) (fun v _ => slenV v)
      case atStart => exact ⟨rs0, Nat.le_refl _, rfl, unhide HM, unhide HRW, unhide HW⟩
      case round =>
        obtain ⟨rs, hrl, hpop, hmem2, hrow2, hw2⟩ := hrel
        have HP2 := hide hpop
        have HM2 := hide hmem2
        have HR2 := hide hrow2
        have HW2 := hide hw2
        have hsz2 := hw2.size
        obtain ⟨b0, b1⟩ := unhide HC _ hw2
        have lb := cell_lt b0
        obtain ⟨ku, kc, rfl, _⟩ := hrow2.form
        clear hpop hmem2 hrow2 hw2
        by_cases h2 : 2 ≤ rs.length
        · obtain ⟨b', a', t, rfl⟩ : ∃ b' a' t, rs = b' :: a' :: t := by
            cases rs with
            | nil => simp at h2
            | cons x rs =>
              cases rs with
              | nil => simp at h2
              | cons y rs => exact ⟨x, y, rs, rfl⟩
          obtain ⟨b1', b2'⟩ := b'
          obtain ⟨a1', a2'⟩ := a'
          obtain ⟨gk, kc', hvk, hgk1, hgk2, hik, hkc, hkc2⟩ := (unhide HR2).full (by omega)
          cases hvk
          have tt := top_two (a1', a2') (b1', b2') t
          have fa := flat2_at tt.1
          have fb := flat2_at tt.2.1
          have qa0 := hik _ _ fa.1
          have qa1 := hik _ _ fa.2
          have qb0 := hik _ _ fb.1
          have qb1 := hik _ _ fb.2
          rw [Nat.zero_add] at qa0 qa1 qb0 qb1
          have ka := unhide HM2 _ (List.mem_cons_of_mem _ List.mem_cons_self)
          have kb := unhide HM2 _ List.mem_cons_self
          have HTU := hide (fun W => side_any (a1', a2') (b1', b2') (p1, p2) W ka kb (unhide HKP))
          have HTT := hide tt.2.2
          obtain ⟨M2, hM2⟩ : ∃ M2 : Nat, M2 = t.length := ⟨_, rfl⟩
          obtain ⟨M1, hM1⟩ : ∃ M1 : Nat, M1 = t.length + 1 := ⟨_, rfl⟩
          rw [← hM2] at qa0 qa1
          rw [← hM1] at qb0 qb1
          have hml : ((b1', b2') :: (a1', a2') :: t).length = t.length + 2 := rfl
          generalize hm : ((b1', b2') :: (a1', a2') :: t).length = m at *
          have w2 : IntKind.i64.wrap ((m : Int) - 2) = (M2 : Int) := by rw [show (m : Int) - 2 = (M2 : Int) by omega]; exact wrap_i (by omega) (by omega)
          have w1 : IntKind.i64.wrap ((m : Int) - 1) = (M1 : Int) := by rw [show (m : Int) - 1 = (M1 : Int) by omega]; exact wrap_i (by omega) (by omega)
          have d2 : decide ((2 : Int) ≤ (m : Int)) = true := decide_eq_true (by omega)
          have j1 : (M2 : Int) < (m : Int) := by omega
          have j2 : (0 : Int) ≤ (M2 : Int) := by omega
          have j3 : (M1 : Int) < (m : Int) := by omega
          have j4 : (0 : Int) ≤ (M1 : Int) := by omega
          have j5 : (M1 : Int) ≤ (kc : Int) := by omega
          have EM1 := hide hM1
          have EM2 := hide hM2
          have EML := hide hml
          have EM := hide hm
          clear hik tt fa fb ka kb hM1 hM2 hml hm
          generalize hsd : side (a1', a2') (b1', b2') (p1, p2) = sd at *
          have ESD := hide hsd
          clear hsd
          go_wp2_with fail
          go_region_held3 (fun wx => wx.cell? ⟨gk, M2 * 2, none⟩ = some (.int .i64 a1') ∧ wx.cell? ⟨gk, M2 * 2 + 1, none⟩ = some (.int .i64 a2') ∧ wx.cell? ⟨gk, M1 * 2, none⟩ = some (.int .i64 b1') ∧ wx.cell? ⟨gk, M1 * 2 + 1, none⟩ = some (.int .i64 b2') ∧ wx.cell? ⟨b, i * 2, none⟩ = some (.int .i64 p1) ∧ wx.cell? ⟨b, i * 2 + 1, none⟩ = some (.int .i64 p2))
            (simp (maxDischargeDepth := 12) [go_sem, le1, lt1, *])
            (first
            | (go_at_call 31; refine (unhide HTU _).mono ?_; rintro e W4 ⟨rfl, hb4⟩; have HB4 : Hid (Below wr.heap.size wr W4) := hide (by first | exact hb4 | exact bc (Below.drew (Below.refl _ _)) hb4); have r0 := keep1 (unhide HB4) qa0; have r1 := keep1 (unhide HB4) qa1; have r2 := keep1 (unhide HB4) qb0; have r3 := keep1 (unhide HB4) qb1; have r4 := keep1 (unhide HB4) b0; have r5 := keep1 (unhide HB4) b1; clear hb4))
          by_cases hs : sd ≤ 0
          · have d3 : decide (sd ≤ 0) = true := decide_eq_true hs
            have hs' : side (a1', a2') (b1', b2') (p1, p2) ≤ 0 := by rw [unhide ESD]; exact hs
            have HRN : Hid (Row W4 w.heap.size 30 2 (.slice (some ⟨gk, 0, none⟩) M1 kc) M1 (flat2 ((a1', a2') :: t).reverse)) := hide (by have := ((unhide HR2).below (unhide HB4)).pop (m := M1) (by omega); rw [flat2_take] at this; have e := unhide HTT; rw [← unhide EM1] at e; rw [e] at this; exact this)
            have HPN := hide ((popR_go (t := t) hs').symm.trans (unhide HP2))
            clear hs'
            go_wp2_with fail
            go_roundw
            case rel =>
              have H : ∃ rs : List Pt, rs.length ≤ rs0.length ∧ popR rs (p1, p2) = popR rs0 (p1, p2) ∧ (∀ q ∈ rs, ptOk q = true) ∧ Row W4 w.heap.size 30 2 (.slice (some ⟨gk, 0, none⟩) M1 kc) rs.length (flat2 rs.reverse) ∧ Below w.heap.size w W4 :=
                ⟨(a1', a2') :: t, by have := unhide EML; have := unhide EM1; simp; omega, unhide HPN, fun q hq => unhide HM2 q (List.mem_cons_of_mem _ hq), by have := unhide HRN; rw [show ((a1', a2') :: t).length = M1 from (unhide EM1).symm]; exact this, bc (unhide HW2) (unhide HB4)⟩
              first | exact H | ((repeat apply Exists.intro); refine ⟨?_, rfl⟩; exact H)
            case measure => simp only [slenV]; omega
          · have d3 : decide (sd ≤ 0) = false := decide_eq_false hs
            have hs' : ¬ side (a1', a2') (b1', b2') (p1, p2) ≤ 0 := by rw [unhide ESD]; exact hs
            have d5 : 0 < sd := by omega
            have HRF : Hid (Row W4 w.heap.size 30 2 (.slice (some ⟨gk, 0, none⟩) m kc) m (flat2 ((b1', b2') :: (a1', a2') :: t).reverse)) := hide ((unhide HR2).below (unhide HB4))
            have HPF : Hid ((b1', b2') :: (a1', a2') :: t = popR rs0 (p1, p2)) := hide ((popR_stop hs').symm.trans (unhide HP2))
            have HMF := HM2
            have HBF : Hid (Below w.heap.size w W4) := hide (bc (unhide HW2) (unhide HB4))
            have lb4 := cell_lt r4
            have hsz4 := (unhide HBF).size
            clear r0 r1 r2 r3 qa0 qa1 qb0 qb1 hs'
            generalize (some (⟨gk, 0, none⟩ : Addr)) = kx at *
            go_wp2_with (at_builtin; refine unhide ?_)
            refine hide ?_
            refine wpList_append_own _ rfl _ _ 23 rfl w.heap.size 30 iP _ 2 16 Try.underlying23 hi1 hy0 hy1 hy2 rfl (by decide) _ _ _ rfl ((unhide HRF).alloc _) _ 1 1 ([p1, p2].map (Value.int .i64)) rfl rfl (by first | exact news_cells _ _ rfl | exact news_cells _ _ (by simp) | exact news_drew _ _ (by simp)) ints_one (by unfold maxLen; omega) (by omega) (by simp; omega) ?_
            intro v' wz hown' hgrow _
            have R := hide (own_more (wr := W4) (news := [p1, p2]) (by repeat (first | exact Below.refl _ _ | refine Below.alloc ?_ (by first | omega | (simp; omega)) _ | refine Below.drew ?_)) (by simp; omega) (unhide HRF) hown' hgrow)
            clear hown' hgrow
            go_wp2_with fail
            go_roundw
            case rel =>
              have H : ∃ i' : Nat, Value.int .i64 ((i : Int) + 1) = .int .i64 (i' : Int) ∧ i' ≤ L.length ∧ (∀ q ∈ halfR (L.take i'), ptOk q = true) ∧ Row wz w.heap.size 30 2 v' (halfR (L.take i')).length (flat2 (halfR (L.take i')).reverse) ∧ Below w.heap.size w wz := by
                refine ⟨i + 1, by simp, by omega, ?_, ?_, (unhide HBF).trans (unhide R).2⟩
                · rw [unhide HS, ← unhide HPF]
                  intro q hq
                  rcases List.mem_cons.1 hq with rfl | hq
                  · exact unhide HKP
                  · exact unhide HMF q hq
                · rw [unhide HS, ← unhide HPF, List.reverse_cons, flat2_app, List.length_cons, unhide EM]
                  exact (unhide R).1
              first | exact H | ((repeat apply Exists.intro); refine ⟨?_, rfl⟩; exact H)
            case measure => simp only [intOf]; omega
        · have d2 : decide ((2 : Int) ≤ (rs.length : Int)) = false := decide_eq_false (by omega)
          have HPF : Hid (rs = popR rs0 (p1, p2)) := hide ((popR_short (by omega)).symm.trans (unhide HP2))
          have HMF := HM2
          go_wp2_with fail
          go_quiet (fail)
          have HRF : Hid (Row (wr.drewN nq) w.heap.size 30 2 (.slice ku rs.length kc) rs.length (flat2 rs.reverse)) := hide ((unhide HR2).below ⟨rfl, rfl, rfl, Nat.le_refl _, fun _ _ => rfl⟩)
          have HBF : Hid (Below w.heap.size w (wr.drewN nq)) := hide (bc (unhide HW2) ⟨rfl, rfl, rfl, Nat.le_refl _, fun _ _ => rfl⟩)
          have hszd : w.heap.size ≤ (wr.drewN nq).heap.size := hsz2
          have r4 : (wr.drewN nq).cell? ⟨b, i * 2, none⟩ = some (.int .i64 p1) := keep1 ⟨rfl, rfl, rfl, Nat.le_refl _, fun _ _ => rfl⟩ b0
          have r5 : (wr.drewN nq).cell? ⟨b, i * 2 + 1, none⟩ = some (.int .i64 p2) := keep1 ⟨rfl, rfl, rfl, Nat.le_refl _, fun _ _ => rfl⟩ b1
          have lb4 := cell_lt r4
          generalize wr.drewN nq = W4 at *
          go_wp2_with (at_builtin; refine unhide ?_)
          refine hide ?_
          refine wpList_append_own _ rfl _ _ 23 rfl w.heap.size 30 iP _ 2 16 Try.underlying23 hi1 hy0 hy1 hy2 rfl (by decide) _ _ _ rfl ((unhide HRF).alloc _) _ 1 1 ([p1, p2].map (Value.int .i64)) rfl rfl (by first | exact news_cells _ _ rfl | exact news_cells _ _ (by simp) | exact news_drew _ _ (by simp)) ints_one (by unfold maxLen; omega) (by omega) (by simp; omega) ?_
          intro v' wz hown' hgrow _
          have R := hide (own_more (wr := W4) (news := [p1, p2]) (by repeat (first | exact Below.refl _ _ | refine Below.alloc ?_ (by first | omega | (simp; omega)) _ | refine Below.drew ?_)) (by simp; omega) (unhide HRF) hown' hgrow)
          clear hown' hgrow
          go_wp2_with fail
          go_roundw
          case rel =>
            have H : ∃ i' : Nat, Value.int .i64 ((i : Int) + 1) = .int .i64 (i' : Int) ∧ i' ≤ L.length ∧ (∀ q ∈ halfR (L.take i'), ptOk q = true) ∧ Row wz w.heap.size 30 2 v' (halfR (L.take i')).length (flat2 (halfR (L.take i')).reverse) ∧ Below w.heap.size w wz := by
              refine ⟨i + 1, by simp, by omega, ?_, ?_, (unhide HBF).trans (unhide R).2⟩
              · rw [unhide HS, ← unhide HPF]
                intro q hq
                rcases List.mem_cons.1 hq with rfl | hq
                · exact unhide HKP
                · exact unhide HMF q hq
              · rw [unhide HS, ← unhide HPF, List.reverse_cons, flat2_app, List.length_cons]
                exact (unhide R).1
            first | exact H | ((repeat apply Exists.intro); refine ⟨?_, rfl⟩; exact H)
          case measure => simp only [intOf]; omega
    · have iz : decide ((i : Int) < (L.length : Int)) = false := decide_eq_false (by omega)
      have en : i = L.length := by omega
      subst en
      have HRF : Hid (Row wr w.heap.size 30 2 _ (half L).length (flat2 (half L))) := hide (by have := unhide HRW; rw [List.take_length] at this; unfold half; rw [List.length_reverse]; exact this)
      have hpos := half_pos L (unhide HNE)
      have HLE := hide (halfR_le L)
      have hle : (half L).length ≤ L.length := by have := unhide HLE; unfold half; rw [List.length_reverse]; exact this
      clear HRW
      obtain ⟨gk, kc, hvk, hgk1, hgk2, hik, hkc, hkc2⟩ := (unhide HRF).full (by omega)
      subst hvk
      have HPO : Hid (Row wr w.heap.size 30 2 (.slice (some ⟨gk, 0, none⟩) (half L).dropLast.length kc) (half L).dropLast.length (flat2 (half L).dropLast)) := hide (by
        have := (unhide HRF).pop (m := (half L).length - 1) (by omega)
        rw [flat2_take, ← List.dropLast_eq_take] at this
        rw [List.length_dropLast]
        exact this)
      have hdl : (half L).dropLast.length = (half L).length - 1 := List.length_dropLast
      generalize hD : (half L).dropLast.length = D at *
      have ED := hide hD
      clear hD
      generalize (half L).length = H at *
      have w1 : IntKind.i64.wrap ((H : Int) - 1) = (D : Int) := by rw [show (H : Int) - 1 = (D : Int) by omega]; exact wrap_i (by omega) (by omega)
      have j4 : (0 : Int) ≤ (D : Int) := by omega
      have j5 : (D : Int) ≤ (kc : Int) := by omega
      clear hik hdl
      go_wp2_with fail
      go_ret
      exact ⟨_, rfl, by rw [unhide ED]; exact unhide HPO, unhide HW⟩
end Go.Proofs.Ytdcecfgmfmpeeaa
