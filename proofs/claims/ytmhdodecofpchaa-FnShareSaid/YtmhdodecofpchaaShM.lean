/-
  The model's shares.
-/
import Derived.Test.YtmhdodecofpchaaShMath
import Derived.Test.YtmhdodecofpchaaAppNew
namespace Go.Proofs.Ytmhdodecofpchaa
open Go.ChangeShapes Go.WideShapes Go.ChangeAt Go.RowKit
set_option linter.unusedVariables false
set_option linter.unusedSimpArgs false

theorem Row.same {w w' : World} {B t k n : Nat} {v : Value} {L : List Int} (h : Row w B t k v n L) (hs : Same w w') : Row w' B t k v n L := h.below hs.bel
theorem Row.setb {w : World} {B t k n b a o : Nat} {cap : Nat} {L : List Int} {x : Value} (h : Row w B t k (.slice (some ⟨b, 0, none⟩) n cap) n L) (hb : b ≠ a) : Row (w.setCell ⟨a, o, none⟩ x) B t k (.slice (some ⟨b, 0, none⟩) n cap) n L :=
  h.kept' (fun g hg => by simp only [Value.ownBlock, Option.some.injEq] at hg; subst hg; exact Below.heap_setCell _ _ _ _ hb)
theorem same_dn {w w' : World} (h : Same w w') (n : Nat) : Same w (w'.drewN n) := ⟨h.os, h.tape, h.output, h.heap⟩
theorem sumL_take_succ {L : List Int} {i : Nat} {x : Int} (h : L[i]? = some x) : sumL (L.take (i + 1)) = sumL (L.take i) + x := by
  rw [List.take_add_one, h]
  exact sumL_snoc _ _
theorem take_snoc {L : List Int} {i : Nat} {x : Int} (h : L[i]? = some x) : L.take (i + 1) = L.take i ++ [x] := by rw [List.take_add_one, h]; rfl

set_option maxHeartbeats 4000000 in
set_option maxRecDepth 100000 in
theorem shM_any (p po m cu : Nat) (T : Int) (ws M : List Int) (w : World) (hl : ws.length = m) (hm : m ≤ 80) (hm0 : 1 ≤ m) (hw : ∀ x ∈ ws, 0 ≤ x ∧ x ≤ 100000) (hT : 0 ≤ T ∧ T ≤ 100000) (hs : 0 < sumL ws) (hp : p < w.heap.size) (hI : IntsAt w p po ws) (hM : Ranked (rs T (sumL ws) ws) M) :
    Calls Try.prog 39 #[.slice (some ⟨p, po, none⟩) m cu, .int .i64 T] w fun e w' => (∃ g c, e = .returned (.slice (some ⟨g, 0, none⟩) m c) ∧ Row w' w.heap.size 3 1 (.slice (some ⟨g, 0, none⟩) m c) m (shr T ws M)) ∧ Below w.heap.size w w' := by
  obtain ⟨iP, hi1, hy0, hy1, hy2⟩ := info_parts int_info3
  have hsum : ∀ i, i ≤ m → 0 ≤ sumL (ws.take i) ∧ sumL (ws.take i) ≤ 8000000 := by
    intro i hi
    refine ⟨sumL_ge (fun x hx => (hw x (List.mem_of_mem_take hx)).1), ?_⟩
    have := sumL_le (L := ws.take i) (b := 100000) (fun x hx => (hw x (List.mem_of_mem_take hx)).2)
    rw [List.length_take] at this
    omega
  have hWb := hsum m (Nat.le_refl _)
  rw [List.take_of_length_le (by omega)] at hWb
  have HQ : Hid (∀ i x, ws[i]? = some x → 0 ≤ T * x ∧ T * x ≤ 10000000000 ∧ 0 ≤ T * x / sumL ws ∧ T * x / sumL ws ≤ 10000000000) := hide (fun i x hx => q_bound hT (hw x (List.mem_of_getElem? hx)) hs)
  have HLB := hide (left_bound (T := T) hs)
  have hqsum : ∀ i, i ≤ m → 0 ≤ sumL ((qs T (sumL ws) ws).take i) ∧ sumL ((qs T (sumL ws) ws).take i) ≤ 800000000000 := by
    intro i hi
    have hq : ∀ x ∈ (qs T (sumL ws) ws).take i, 0 ≤ x ∧ x ≤ 10000000000 := by
      intro x hx
      obtain ⟨y, hy, rfl⟩ := List.mem_map.1 (List.mem_of_mem_take hx)
      have := q_bound hT (hw y hy) hs
      exact this.2.2
    refine ⟨sumL_ge (fun x hx => (hq x hx).1), ?_⟩
    have := sumL_le (L := (qs T (sumL ws) ws).take i) (b := 10000000000) (fun x hx => (hq x hx).2)
    rw [List.length_take] at this
    omega
  have HQG : Hid (∀ i, i < m → 0 ≤ gt (qs T (sumL ws) ws) i ∧ gt (qs T (sumL ws) ws) i ≤ 10000000000) := hide (by
    intro i hi
    obtain ⟨y, hy⟩ : ∃ y, ws[i]? = some y := ⟨_, List.getElem?_eq_getElem (by omega)⟩
    have h1 := gtk_some (a := qs T (sumL ws) ws) (i := i) (by rw [qs_len]; omega)
    rw [qs_at hy] at h1
    rw [← Option.some.inj h1]
    exact (q_bound hT (hw y (List.mem_of_getElem? hy)) hs).2.2)
  have HRG : Hid (∀ i, i < m → 0 ≤ gt (rs T (sumL ws) ws) i) := hide (by
    intro i hi
    have h1 := gtk_some (a := rs T (sumL ws) ws) (i := i) (by rw [rs_len]; omega)
    exact (rs_mem hs _ (List.mem_of_getElem? h1)).1)
  have HL := hide hl
  have HI := hide hI
  have HSM := hide hsum
  have HQS := hide hqsum
  have HQL : Hid ((qs T (sumL ws) ws).length = m) := hide (by rw [qs_len]; exact hl)
  have HRL : Hid ((rs T (sumL ws) ws).length = m) := hide (by rw [rs_len]; exact hl)
  have m0 : (0 : Int) ≤ (m : Int) := Int.natCast_nonneg _
  have m1 : (1 : Int) ≤ (m : Int) := by omega
  have hm' : (m : Int) ≤ 80 := by omega
  obtain ⟨hT0, hT1⟩ := hT
  have HSH : Hid (shr T ws M = (M.take (T - sumL (qs T (sumL ws) ws)).toNat).foldl inc (qs T (sumL ws) ws)) := hide rfl
  have HQA : Hid (∀ i x, ws[i]? = some x → (qs T (sumL ws) ws)[i]? = some (T * x / sumL ws) ∧ (rs T (sumL ws) ws)[i]? = some (T * x % sumL ws)) := hide fun i x hx => ⟨qs_at hx, rs_at hx⟩
  have HRK := hide hM
  have HSW : Hid (sumL (ws.take m) = sumL ws) := hide (by rw [List.take_of_length_le (by omega)])
  clear hl hI hw hqsum hsum hM
  generalize qs T (sumL ws) ws = QS at *
  generalize rs T (sumL ws) ws = RS at *
  generalize hSW : sumL ws = SW at *
  clear hSW
  obtain ⟨hW1, hW2⟩ := hWb
  go_enter Try.func39, Try.ntmps39
  go_wp2_with fail
  go_loopw [5, 6] (fun t z W => ∃ i : Nat, t = .int .i64 (sumL (ws.take i)) ∧ z = .int .i64 (i : Int) ∧ i ≤ m ∧ W = w) (fun _ z _ => m - (intOf z).toNat)
  case atStart => exact ⟨0, by simp [sumL], rfl, Nat.zero_le _, rfl⟩
  case round =>
    obtain ⟨i, rfl, rfl, hi, hWe⟩ := hrel
    have hWf := hWe.symm
    subst hWf
    by_cases h : i < m
    · have i1 : (i : Int) < (m : Int) := by omega
      have i0 : (0 : Int) ≤ (i : Int) := Int.natCast_nonneg _
      have iz : decide ((i : Int) < (m : Int)) = true := decide_eq_true i1
      obtain ⟨x, hx⟩ := get_some (unhide HL) h
      have k0 := unhide HI i x hx
      have hs2 := sumL_take_succ hx
      have hb1 := unhide HSM (i + 1) h
      rw [hs2] at hb1
      obtain ⟨b0, b1⟩ := hb1
      have HS := hide hs2
      clear hx hs2
      generalize sumL (ws.take i) = S at *
      go_wp2_with fail
      go_roundw
      case rel => exact ⟨i + 1, by rw [unhide HS], by simp, h, by first | rfl | trivial⟩
      case measure => simp only [intOf]; omega
    · have i1 : ¬ (i : Int) < (m : Int) := by omega
      have iz : decide ((i : Int) < (m : Int)) = false := decide_eq_false i1
      have en : i = m := by omega
      subst en
      rw [unhide HSW]
      go_wp2_with fail
      go_loopw [7, 8, 9, 10] (fun t1 t2 t3 z W => ∃ (j a b c1 c2 : Nat), t1 = .slice (some ⟨a, 0, none⟩) j c1 ∧ t2 = .slice (some ⟨b, 0, none⟩) j c2 ∧ t3 = .int .i64 (T - sumL (QS.take j)) ∧ z = .int .i64 (j : Int) ∧ j ≤ i ∧ a ≠ b ∧ Row W w.heap.size 3 1 (.slice (some ⟨a, 0, none⟩) j c1) j (QS.take j) ∧ Row W w.heap.size 3 1 (.slice (some ⟨b, 0, none⟩) j c2) j (RS.take j) ∧ Below w.heap.size w W) (fun _ _ _ z _ => i - (intOf z).toNat)
      case atStart =>
        refine ⟨0, _, _, _, _, rfl, rfl, by simp [sumL], rfl, Nat.zero_le _, ?_, ?_, ?_, ba (ba (Below.refl _ _) _) _⟩
        · simp
        · exact (row_made w 3 w.heap.size 1 (Nat.le_refl _) _ rfl).below (ba (Below.refl _ _) _)
        · exact row_made _ 3 _ 1 (by simp) _ (by simp)
      case round =>
        obtain ⟨j, a, b, c1, c2, rfl, rfl, rfl, rfl, hj, hab, hr1, hr2, hw⟩ := hrel
        have HR1 := hide hr1
        have HR2 := hide hr2
        have HW := hide hw
        have hszw := hw.size
        obtain ⟨_, _, hv1, hga, hla, hca, hma⟩ := hr1.sm (by simp)
        obtain ⟨_, _, hv2, hgb, hlb, hcb, hmb⟩ := hr2.sm (by simp)
        cases hv1
        cases hv2
        clear hr1 hr2 hw
        by_cases h2 : j < i
        · have j1 : (j : Int) < (i : Int) := by omega
          have j0 : (0 : Int) ≤ (j : Int) := Int.natCast_nonneg _
          have jz : decide ((j : Int) < (i : Int)) = true := decide_eq_true j1
          obtain ⟨x, hx⟩ := get_some (unhide HL) h2
          obtain ⟨hqx, hrx⟩ := unhide HQA j x hx
          obtain ⟨t0, t1, t2, t3⟩ := unhide HQ j x hx
          have cx : wr.cell? ⟨p, po + j, none⟩ = some (.int .i64 x) := ((unhide HI).below (unhide HW) hp) j x hx
          have hq2 := unhide HQS (j + 1) h2
          have hsq := sumL_take_succ hqx
          rw [hsq] at hq2
          have hq3 := unhide HQS j (by omega)
          have HSQ := hide hsq
          have HTQ := hide (take_snoc hqx)
          have HTR := hide (take_snoc hrx)
          have d1 : (SW == 0) = false := by rw [beq_eq_false_iff_ne]; omega
          have d2 : (T * x).tdiv SW = T * x / SW := Int.tdiv_eq_ediv_of_nonneg t0
          have d3 : (T * x).tmod SW = T * x % SW := Int.tmod_eq_emod_of_nonneg t0
          have d4 : IntKind.i64.wrap (T * x) = T * x := wrap_i (by omega) (by omega)
          have d5 : IntKind.i64.wrap (T * x / SW) = T * x / SW := wrap_i (by omega) (by omega)
          have r1 := Int.emod_nonneg (T * x) (b := SW) (by omega)
          have r2 := Int.emod_lt_of_pos (T * x) (b := SW) (by omega)
          have d6 : IntKind.i64.wrap (T * x % SW) = T * x % SW := wrap_i (by omega) (by omega)
          have d7 : SW ≠ 0 := by omega
          have e4 : wrap64 (T * x) = T * x := by unfold wrap64; omega
          have e5 : wrap64 (T * x / SW) = T * x / SW := by unfold wrap64; omega
          have e6 : wrap64 (T * x % SW) = T * x % SW := by unfold wrap64; omega
          obtain ⟨hq4, hq5⟩ := hq2
          obtain ⟨hq6, hq7⟩ := hq3
          have HQX := hide hqx
          clear hqx hrx hx hsq
          generalize T * x / SW = qx at *
          generalize T * x % SW = rx at *
          generalize sumL (QS.take j) = sj at *
          go_wp2_with (at_builtin; refine unhide ?_)
          refine hide ?_
          refine wpList_append_new _ rfl _ _ 32 rfl w.heap.size 3 iP _ 1 8 Try.underlying32 hi1 hy0 hy1 hy2 rfl (by decide) (.slice (some ⟨a, 0, none⟩) j c1) j ((QS.take j).map (Value.int .i64)) rfl ((unhide HR1).alloc _) _ 1 1 ([qx].map (Value.int .i64)) rfl rfl (by first | exact news_cells _ _ rfl | exact news_cells _ _ (by simp) | exact news_drew _ _ (by simp)) ints_one (by unfold maxLen; omega) (by omega) (by simp; omega) ?_
          intro v1 w1 hown' hgrow hvn hnb
          have R1 := own_more (wr := wr) (news := [qx]) (by repeat (first | exact Below.refl _ _ | refine Below.alloc ?_ (by first | omega | (simp; omega)) _ | refine Below.drew ?_)) (by simp; omega) (unhide HR1) hown' hgrow
          obtain ⟨a', c1', rfl, hga', hla', hca', hma'⟩ := R1.1.sm (fun e => by have := (hvn.1 e).1; cases this)
          have hab' : a' ≠ b := by
            rcases hnb a' rfl with h5 | h5
            · simp only [Value.ownBlock, Option.some.injEq] at h5; omega
            · simp at h5; omega
          have hr2' : Row w1 w.heap.size 3 1 (.slice (some ⟨b, 0, none⟩) j c2) j (RS.take j) := (unhide HR2).kept' (fun g hg => by
            simp only [Value.ownBlock, Option.some.injEq] at hg
            subst hg
            exact (hgrow.block b (by simp; omega) (by simp [Value.ownBlock]; omega)).trans (Below.heap_alloc _ _ _ (by omega)))
          have cx1 : w1.cell? ⟨p, po + j, none⟩ = some (.int .i64 x) := (R1.2.cell (p := ⟨p, po + j, none⟩) hp).trans cx
          have hlb1 : b < w1.heap.size := by have := (hr2'.sm (by simp)); obtain ⟨_, _, e1, _, e2, _⟩ := this; cases e1; exact e2
          have HR1' := hide R1.1
          have HR2' := hide hr2'
          have HB1 := hide ((unhide HW).trans R1.2)
          have hsz1 := (unhide HB1).size
          clear hown' hgrow hvn hnb R1 hr2' cx
          go_wp2_with (at_builtin; refine unhide ?_)
          refine hide ?_
          refine wpList_append_new _ rfl _ _ 32 rfl w.heap.size 3 iP _ 1 8 Try.underlying32 hi1 hy0 hy1 hy2 rfl (by decide) (.slice (some ⟨b, 0, none⟩) j c2) j ((RS.take j).map (Value.int .i64)) rfl ((unhide HR2').alloc _) _ 1 1 ([rx].map (Value.int .i64)) rfl rfl (by first | exact news_cells _ _ rfl | exact news_cells _ _ (by simp) | exact news_drew _ _ (by simp)) ints_one (by unfold maxLen; omega) (by omega) (by simp; omega) ?_
          intro v2 w2 hown' hgrow hvn hnb
          have R2 := own_more (wr := w1) (news := [rx]) (by repeat (first | exact Below.refl _ _ | refine Below.alloc ?_ (by first | omega | (simp; omega)) _ | refine Below.drew ?_)) (by simp; omega) (unhide HR2') hown' hgrow
          obtain ⟨b', c2', rfl, hgb', hlb', hcb', hmb'⟩ := R2.1.sm (fun e => by have := (hvn.1 e).1; cases this)
          have hab2 : a' ≠ b' := by
            rcases hnb b' rfl with h5 | h5
            · simp only [Value.ownBlock, Option.some.injEq] at h5; omega
            · simp at h5; omega
          have hr1' : Row w2 w.heap.size 3 1 (.slice (some ⟨a', 0, none⟩) (j + 1) c1') (j + 1) (QS.take j ++ [qx]) := (unhide HR1').kept' (fun g hg => by
            simp only [Value.ownBlock, Option.some.injEq] at hg
            subst hg
            exact (hgrow.block a' (by simp; omega) (by simp [Value.ownBlock]; omega)).trans (Below.heap_alloc _ _ _ (by omega)))
          have cq : w2.cell? ⟨a', j, none⟩ = some (.int .i64 qx) := hr1'.cellAt (by rw [← unhide HTQ, List.getElem?_take, if_pos (by omega)]; exact unhide HQX)
          have HR1f := hide hr1'
          have HR2f := hide R2.1
          have HB2 := hide ((unhide HB1).trans R2.2)
          have HAB := hide hab2
          have es : wrap64 (T - sj - qx) = T - sj - qx := by unfold wrap64; omega
          have es2 : IntKind.i64.wrap (T - sj - qx) = T - sj - qx := wrap_i (by omega) (by omega)
          clear hown' hgrow hvn hnb R2 hr1' cx1
          go_wp2_with fail
          go_roundw
          case rel =>
            have H : ∃ (j' a b c1 c2 : Nat), Value.slice (some ⟨a', 0, none⟩) (j + 1) c1' = .slice (some ⟨a, 0, none⟩) j' c1 ∧ Value.slice (some ⟨b', 0, none⟩) (j + 1) c2' = .slice (some ⟨b, 0, none⟩) j' c2 ∧ Value.int .i64 (T - sj - qx) = .int .i64 (T - sumL (QS.take j')) ∧ Value.int .i64 ((j : Int) + 1) = .int .i64 (j' : Int) ∧ j' ≤ i ∧ a ≠ b ∧ Row w2 w.heap.size 3 1 (.slice (some ⟨a, 0, none⟩) j' c1) j' (QS.take j') ∧ Row w2 w.heap.size 3 1 (.slice (some ⟨b, 0, none⟩) j' c2) j' (RS.take j') ∧ Below w.heap.size w w2 := by
              refine ⟨j + 1, a', b', c1', c2', rfl, rfl, ?_, by simp, h2, unhide HAB, ?_, ?_, unhide HB2⟩
              · rw [unhide HSQ]; simp only [Value.int.injEq, true_and]; omega
              · rw [unhide HTQ]; exact unhide HR1f
              · rw [unhide HTR]; exact unhide HR2f
            first | exact H | ((repeat apply Exists.intro); refine ⟨?_, rfl⟩; exact H)
          case measure => simp only [intOf]; omega
        · have j1 : ¬ (j : Int) < (i : Int) := by omega
          have jz : decide ((j : Int) < (i : Int)) = false := decide_eq_false j1
          have en : j = i := by omega
          subst en
          have eq1 : QS.take j = QS := List.take_of_length_le (by rw [unhide HQL]; omega)
          have eq2 : RS.take j = RS := List.take_of_length_le (by rw [unhide HRL]; omega)
          have HR1 := hide (show Row wr w.heap.size 3 1 (.slice (some ⟨a, 0, none⟩) j c1) j QS by have := unhide HR1; rwa [eq1] at this)
          have HR2 := hide (show Row wr w.heap.size 3 1 (.slice (some ⟨b, 0, none⟩) j c2) j RS by have := unhide HR2; rwa [eq2] at this)
          rw [eq1]
          obtain ⟨lb0, lb1⟩ := unhide HLB
          have hqb := unhide HQS j (Nat.le_refl _)
          rw [eq1] at hqb
          obtain ⟨hq0, hq1⟩ := hqb
          have HSH2 := HSH
          clear eq1 eq2
          generalize sumL QS = sq at *
          obtain ⟨lf, hlf⟩ : ∃ lf : Nat, T - sq = (lf : Int) := ⟨(T - sq).toNat, by omega⟩
          have hlfi : lf ≤ j := by have := unhide HL; omega
          have HSH3 : Hid (shr T ws M = (M.take lf).foldl inc QS) := hide (by have := unhide HSH2; rw [hlf, Int.toNat_natCast] at this; exact this)
          rw [hlf]
          clear HSH HSH2 hlf
          go_wp2_with fail
          go_loopw [9] (fun z W => ∃ k : Nat, z = .int .i64 ((lf : Int) - (k : Int)) ∧ k ≤ lf ∧ Row W w.heap.size 3 1 (.slice (some ⟨a, 0, none⟩) j c1) j ((M.take k).foldl inc QS) ∧ Row W w.heap.size 3 1 (.slice (some ⟨b, 0, none⟩) j c2) j ((M.take k).foldl clr RS) ∧ Below w.heap.size w W) (fun z _ => (intOf z).toNat)
          case atStart => exact ⟨0, by simp, Nat.zero_le _, unhide HR1, unhide HR2, unhide HW⟩
          case round =>
            obtain ⟨k, rfl, hk, hr1, hr2, hw⟩ := hrel
            have HA := hide hr1
            have HB := hide hr2
            have HWk := hide hw
            clear hr1 hr2 hw
            by_cases h3 : k < lf
            · have kz : decide ((0 : Int) < (lf : Int) - (k : Int)) = true := decide_eq_true (by omega)
              have kl : (lf : Int) - (k : Int) ≤ 80 := by omega
              have kg : (0 : Int) < (lf : Int) - (k : Int) := by omega
              obtain ⟨x, hx⟩ : ∃ x, M[k]? = some x := ⟨_, List.getElem?_eq_getElem (by rw [(unhide HRK).len, unhide HRL]; omega)⟩
              have hfst := (unhide HRK).next (by rw [unhide HRL]; exact unhide HRG) hx
              rw [unhide HRL] at hfst
              have HIN : Hid ((M.take (k + 1)).foldl inc QS = ((M.take k).foldl inc QS).set x.toNat (gt ((M.take k).foldl inc QS) x.toNat + 1)) := hide (by rw [take_succ_foldl _ _ _ _ _ hx]; rfl)
              have HCL : Hid ((M.take (k + 1)).foldl clr RS = ((M.take k).foldl clr RS).set x.toNat (-1)) := hide (by rw [take_succ_foldl _ _ _ _ _ hx]; rfl)
              have hbd := incs_bound (B := 10000000000) (M.take k) QS j (unhide HQL) (fun y hy => by have := (unhide HRK).mem.1 (List.mem_of_mem_take hy); rw [unhide HRL] at this; exact this) (unhide HQG)
              rw [List.length_take] at hbd
              have HBD := hide hbd
              have HF := hide hfst
              have HOL : Hid (((M.take k).foldl inc QS).length = j) := hide (by rw [incs_len]; exact unhide HQL)
              have HCLen : Hid (((M.take k).foldl clr RS).length = j) := hide (by rw [clrs_len]; exact unhide HRL)
              generalize x.toNat = xn at *
              clear hx hfst hbd
              generalize (M.take k).foldl inc QS = O at *
              generalize (M.take k).foldl clr RS = C at *
              go_wp2_with fail
              go_loopw [11, 12] (fun y z W => ∃ (bs s : Nat), y = .int .i64 (bs : Int) ∧ z = .int .i64 (s : Int) ∧ bs < s ∧ s ≤ j ∧ (∀ q, q < s → gt C q ≤ gt C bs) ∧ (∀ q, q < bs → gt C q < gt C bs) ∧ Same wr W) (fun _ z _ => j - (intOf z).toNat)
              case atStart => exact ⟨0, 1, rfl, rfl, by omega, by omega, fun q hq => by rw [show q = 0 by omega]; omega, fun q hq => by omega, Same.refl _⟩
              case round =>
                obtain ⟨bs, s, rfl, rfl, hbs, hsj, hle, hlt, hsm⟩ := hrel
                have HLE := hide hle
                have HLT := hide hlt
                have HSMe := hide hsm
                have HA2 := hide ((unhide HA).same hsm)
                have HB2 := hide ((unhide HB).same hsm)
                clear hle hlt hsm
                have cb := (unhide HB2).cellAt (gtk_some (a := C) (i := bs) (by rw [unhide HCLen]; omega))
                by_cases h4 : s < j
                · have sz : decide ((s : Int) < (j : Int)) = true := decide_eq_true (by omega)
                  have s0 : (0 : Int) ≤ (s : Int) := Int.natCast_nonneg _
                  have s1 : (s : Int) < (j : Int) := by omega
                  have b0 : (0 : Int) ≤ (bs : Int) := Int.natCast_nonneg _
                  have b1 : (bs : Int) < (j : Int) := by omega
                  have cs := (unhide HB2).cellAt (gtk_some (a := C) (i := s) (by rw [unhide HCLen]; omega))
                  by_cases h5 : gt C bs < gt C s
                  · have d5 : decide (gt C bs < gt C s) = true := decide_eq_true h5
                    have HN : Hid ((∀ q, q < s + 1 → gt C q ≤ gt C s) ∧ (∀ q, q < s → gt C q < gt C s)) := hide (by
                      constructor
                      · intro q hq
                        by_cases e : q = s
                        · rw [e]; omega
                        · have := unhide HLE q (by omega); omega
                      · intro q hq
                        have := unhide HLE q hq; omega)
                    generalize gt C bs = vb at cb h5 d5
                    generalize gt C s = vs at cs h5 d5
                    go_wp2_with fail
                    go_quiet (fail)
                    go_wp2_with fail
                    go_roundw
                    case rel => exact ⟨s, s + 1, rfl, by simp, by omega, h4, (unhide HN).1, (unhide HN).2, same_dn (unhide HSMe) _⟩
                    case measure => simp only [intOf]; omega
                  · have d5 : decide (gt C bs < gt C s) = false := decide_eq_false h5
                    have HN : Hid (∀ q, q < s + 1 → gt C q ≤ gt C bs) := hide (by
                      intro q hq
                      by_cases e : q = s
                      · rw [e]; omega
                      · exact unhide HLE q (by omega))
                    generalize gt C bs = vb at cb h5 d5
                    generalize gt C s = vs at cs h5 d5
                    go_wp2_with fail
                    go_quiet (fail)
                    go_wp2_with fail
                    go_roundw
                    case rel => exact ⟨bs, s + 1, rfl, by simp, by omega, h4, unhide HN, unhide HLT, same_dn (unhide HSMe) _⟩
                    case measure => simp only [intOf]; omega
                · have sz : decide ((s : Int) < (j : Int)) = false := decide_eq_false (by omega)
                  have s1 : ¬ (s : Int) < (j : Int) := by omega
                  have es : s = j := by omega
                  subst es
                  have ebs : bs = xn := First.one (R := C) (m := s) ⟨hbs, unhide HLE, unhide HLT⟩ (unhide HF)
                  subst ebs
                  have co := (unhide HA2).cellAt (gtk_some (a := O) (i := bs) (by rw [unhide HOL]; omega))
                  have fa : ∀ o, wr.frozen? ⟨a, o, none⟩ = false := (unhide HA2).frz
                  have fb : ∀ o, wr.frozen? ⟨b, o, none⟩ = false := (unhide HB2).frz
                  obtain ⟨o1, o2⟩ := unhide HBD bs hbs
                  have o3 : gt O bs ≤ 10000000080 := by omega
                  have b0 : (0 : Int) ≤ (bs : Int) := Int.natCast_nonneg _
                  have b1 : (bs : Int) < (s : Int) := by omega
                  have hba : b ≠ a := fun e => hab e.symm
                  have HX := hide (((unhide HA2).set bs (by omega) (gt O bs + 1)))
                  have HWn := hide (bc (unhide HWk) (unhide HSMe).bel)
                  generalize gt O bs = vo at *
                  generalize gt C bs = vb at *
                  clear o2
                  go_wp2_with fail
                  go_roundw
                  case rel =>
                    refine ⟨k + 1, ?_, h3, ?_, ?_, ?_⟩
                    · simp only [Value.int.injEq, true_and]; omega
                    · rw [unhide HIN]; exact (unhide HX).setb hab
                    · rw [unhide HCL]; exact (((unhide HB2).setb hba).set bs (by omega) (-1))
                    · exact Below.setCell (p := ⟨b, bs, none⟩) (Below.setCell (p := ⟨a, bs, none⟩) (unhide HWn) hga _) hgb _
                  case measure => simp only [intOf]; omega
            · have kz : decide ((0 : Int) < (lf : Int) - (k : Int)) = false := decide_eq_false (by omega)
              have ek : k = lf := by omega
              subst ek
              go_wp2_with fail
              go_ret
              refine ⟨⟨a, c1, rfl, ?_⟩, unhide HWk⟩
              rw [unhide HSH3]
              exact unhide HA
end Go.Proofs.Ytmhdodecofpchaa
