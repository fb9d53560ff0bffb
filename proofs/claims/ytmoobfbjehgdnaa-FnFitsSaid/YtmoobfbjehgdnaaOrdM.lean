/-
  The model's order of sizes.
-/
import Derived.Test.YtmoobfbjehgdnaaOrMath
import Derived.Test.YtmoobfbjehgdnaaItRows
import Derived.Deep.RegionLaw
namespace Go.Proofs.Ytmoobfbjehgdnaa
open Go.ChangeShapes Go.WideShapes Go.ChangeAt Go.RowKit
set_option linter.unusedVariables false
set_option linter.unusedSimpArgs false

theorem tail_ad1 (q ck k n : Nat) (L : List Int) (hl : L.length = n) (hk : k ≤ n) (hc : n ≤ ck) : ∃ ad : Addr, (if ck = k then some (⟨q, 0, none⟩ : Addr) else some ⟨q, k, none⟩) = some ad ∧
    ∀ W, IntsAt W q 0 L → ∀ (j : Nat) (u : Value), ((L.drop k).map (Value.int .i64))[j]? = some u → W.cell? (ad.add j) = some u := by
  by_cases h : ck = k
  · refine ⟨⟨q, 0, none⟩, if_pos h, fun W hW j u hj => ?_⟩
    rw [List.drop_eq_nil_of_le (by omega)] at hj
    cases hj
  · exact ⟨⟨q, k, none⟩, if_neg h, fun W hW => src_cells hW _ k (drop_part _ _)⟩

set_option maxHeartbeats 8000000 in
set_option maxRecDepth 100000 in
theorem ordM_any (u : Option Addr) (p po n cu : Nat) (S : List Int) (w : World) (hl : S.length = n) (hn : n ≤ 200) (hu : Its w u p po S) :
    Calls Try.prog 23 #[.slice u n cu] w fun e w' => (∃ g c, e = .returned (.slice (some ⟨g, 0, none⟩) n c) ∧ Row w' w.heap.size 3 1 (.slice (some ⟨g, 0, none⟩) n c) n (ordL S n)) ∧ Below w.heap.size w w' := by
  obtain ⟨iP, hi1, hy0, hy1, hy2⟩ := info_parts int_info3
  have HU := hide hu
  have HL := hide hl
  clear hu hl
  go_enter Try.func23, Try.ntmps23
  go_wp2_with fail
  go_loopw [3, 4] (fun v s W => ∃ (i g c : Nat), s = .int .i64 (i : Int) ∧ i ≤ n ∧ v = .slice (some ⟨g, 0, none⟩) i c ∧ Row W w.heap.size 3 1 (.slice (some ⟨g, 0, none⟩) i c) i (ordL S i) ∧ Below w.heap.size w W) (fun _ s _ => n - (intOf s).toNat)
  case atStart => exact ⟨0, _, _, rfl, by omega, rfl, row_made _ 3 _ 1 (by simp) _ (by simp), ba (Below.refl _ _) _⟩
  case round =>
    obtain ⟨i, g, c, rfl, hi, rfl, hrow, hw⟩ := hrel
    have HRW := hide hrow
    have HW := hide hw
    have hszw := hw.size
    obtain ⟨_, _, hvg, hg1, hg2, hc1, hc2⟩ := hrow.sm (by simp)
    cases hvg
    clear hrow hw
    by_cases h : i < n
    · have iz : decide ((i : Int) < (n : Int)) = true := decide_eq_true (by omega)
      have i1 : (i : Int) < (n : Int) := by omega
      have i0 : (0 : Int) ≤ (i : Int) := by omega
      have hx := gtk_some (a := S) (i := i) (by rw [unhide HL]; exact h)
      obtain ⟨rfl, hp, _⟩ := (unhide HU).at hx
      have HP := hide hp
      have HC : Hid (∀ W, Below w.heap.size w W → ∀ j, j < n → W.cell? ⟨p, po + j, none⟩ = some (.int .i64 (gt S j))) := hide (fun W hW j hj => ((unhide HU).bel hW).at (gtk_some (a := S) (i := j) (by rw [unhide HL]; exact hj)) |>.2.2)
      have wi : IntKind.i64.wrap ((i : Int) + 1) = (i : Int) + 1 := wrap_i (by omega) (by omega)
      have HST := hide (fun k (hk : k ≤ i) => ordL_step (S := S) hk)
      have HAL := hide (ordL_len S i)
      have HAM := hide (fun x (hx : x ∈ ordL S i) => ordL_mem hx)
      clear hx hp
      generalize ordL S i = A at *
      obtain ⟨A2, hA2⟩ : ∃ A2, ordL S (i + 1) = A2 := ⟨_, rfl⟩
      have HA2 := hide hA2
      rw [hA2] at HST
      clear hA2
      go_wp2_with fail
      go_loopw [5] (fun s W => ∃ k : Nat, s = .int .i64 (k : Int) ∧ k ≤ i ∧ (∀ t ∈ A.drop k, gt S i < gt S t.toNat) ∧ Below wr.heap.size wr W) (fun s _ => (intOf s).toNat)
      case atStart => exact ⟨i, rfl, by omega, by rw [List.drop_eq_nil_of_le (by rw [unhide HAL]; omega)]; simp, Below.refl _ _⟩
      case round =>
        obtain ⟨k, rfl, hk, hd, hw2⟩ := hrel
        have HD := hide hd
        have HW2 := hide hw2
        have HWW : Hid (Below w.heap.size w wr) := hide (bc (unhide HW) hw2)
        have HR2 := hide ((unhide HRW).below hw2)
        have hsz2 := hw2.size
        have b0 := unhide HC _ (unhide HWW) i h
        clear hw2 hd
        have fin : ∀ V : World, True := fun _ => trivial
        by_cases hgo : 0 < k ∧ ∃ t, A[k - 1]? = some t ∧ gt S i < gt S t.toNat
        · obtain ⟨hk0, t, ht, hlt⟩ := hgo
          obtain ⟨t0, t1⟩ := unhide HAM t (List.mem_of_getElem? ht)
          obtain ⟨tn, rfl⟩ := Int.eq_ofNat_of_zero_le t0
          rw [Int.toNat_natCast] at hlt
          have b1 := unhide HC _ (unhide HWW) tn (by omega)
          have a0 := (unhide HR2).cellAt ht
          have d1 : decide ((0 : Int) < (k : Int)) = true := decide_eq_true (by omega)
          have d2 : (0 : Int) < (k : Int) := by omega
          have d3 : decide (gt S i < gt S tn) = true := decide_eq_true hlt
          obtain ⟨kn, rfl⟩ : ∃ kn, k = kn + 1 := ⟨k - 1, by omega⟩
          simp only [Nat.add_sub_cancel] at ht a0
          have ek : (((kn + 1 : Nat)) : Int) = (kn : Int) + 1 := by omega
          rw [ek] at d1 d2 ⊢
          have e1 : IntKind.i64.wrap ((kn : Int) + 1 - 1) = (kn : Int) := by rw [show (kn : Int) + 1 - 1 = (kn : Int) by omega]; exact wrap_i (by omega) (by omega)
          have e2 : (kn : Int) + 1 - 1 = (kn : Int) := by omega
          have e3 : (kn : Int) < (i : Int) := by omega
          have e4 : (0 : Int) ≤ (kn : Int) := by omega
          have e5 : (tn : Int) < (n : Int) := by omega
          have HT := hide ht
          have HLT := hide hlt
          generalize gt S i = xi at *
          generalize hxt : gt S tn = xt at *
          have HXT := hide hxt
          clear ht hlt hxt
          go_wp2_with fail
          go_quiet (fail)
          go_wp2_with fail
          go_roundw
          case rel =>
            refine ⟨kn, by simp, by omega, ?_, ?_⟩
            · intro t ht2
              have hkn : kn < A.length := by rw [unhide HAL]; omega
              rw [List.drop_eq_getElem_cons hkn] at ht2
              rcases List.mem_cons.1 ht2 with h5 | h5
              · have h6 := unhide HT
                rw [List.getElem?_eq_getElem hkn] at h6
                rw [h5, Option.some.inj h6, Int.toNat_natCast, unhide HXT]
                exact unhide HLT
              · exact unhide HD t h5
            · exact bc (unhide HW2) ⟨rfl, rfl, rfl, Nat.le_refl _, fun _ _ => rfl⟩
          case measure => simp only [intOf]; omega
        · have hstop : k = 0 ∨ ∃ t, A[k - 1]? = some t ∧ ¬ gt S i < gt S t.toNat := by
            by_cases hk0 : k = 0
            · exact .inl hk0
            · obtain ⟨t, ht⟩ : ∃ t, A[k - 1]? = some t := ⟨_, List.getElem?_eq_getElem (by rw [unhide HAL]; omega)⟩
              exact .inr ⟨t, ht, fun hc => hgo ⟨by omega, t, ht, hc⟩⟩
          have HE2 := hide (unhide HST k hk (unhide HD) (by rcases hstop with h5 | ⟨t, ht, h6⟩; exact .inl h5; exact .inr ⟨t, ht, by omega⟩))
          have HWT : Hid (k = 0 ∨ ∃ tn : Nat, 0 < k ∧ A[k - 1]? = some (tn : Int) ∧ tn < n ∧ ¬ gt S i < gt S tn) := hide (by
            rcases hstop with h5 | ⟨t, ht, hn5⟩
            · exact .inl h5
            · by_cases hk0 : k = 0
              · exact .inl hk0
              · obtain ⟨t0, t1⟩ := unhide HAM t (List.mem_of_getElem? ht)
                obtain ⟨tn, rfl⟩ := Int.eq_ofNat_of_zero_le t0
                exact .inr ⟨tn, by omega, ht, by omega, by rwa [Int.toNat_natCast] at hn5⟩)
          clear hgo hstop
          rcases unhide HWT with hk0 | ⟨tn, hk0, ht, htn, hnl⟩
          · have HK0 := hide hk0
            have d1 : decide ((0 : Int) < (k : Int)) = false := decide_eq_false (by omega)
            have d2 : ¬ (0 : Int) < (k : Int) := by omega
            have d4 : ¬ 0 < k := by omega
            clear hk0
            go_wp2_with fail
            go_quiet (fail)
            have HDN : Hid (Below wr.heap.size wr (wr.drewN nq)) := hide ⟨rfl, rfl, rfl, Nat.le_refl _, fun _ _ => rfl⟩
            have HRV : Hid (Row (wr.drewN nq) w.heap.size 3 1 (.slice (some ⟨g, 0, none⟩) i c) i A) := hide ((unhide HR2).below (unhide HDN))
            have HWV : Hid (Below w.heap.size w (wr.drewN nq)) := hide (bc (unhide HWW) (unhide HDN))
            have hgV : g < (wr.drewN nq).heap.size := by have := hsz2; show g < wr.heap.size; omega
            have hszV : w.heap.size ≤ (wr.drewN nq).heap.size := (unhide HWV).size
            generalize wr.drewN nq = V at *
            obtain ⟨ad, had, hsrc⟩ := tail_ad1 g c k i A (unhide HAL) hk hc1
            have HSRC := hide hsrc
            have kk2 : (k : Int) ≤ (i : Int) := by omega
            have kk3 : (k : Int) ≤ (c : Int) := by omega
            have kk4 : (i : Int) ≤ (c : Int) := by omega
            clear hsrc b0
            go_wp2_with (at_builtin; refine unhide ?_)
            refine hide ?_
            refine wpList_append_own _ rfl _ _ 23 rfl V.heap.size 3 iP _ 1 8 Try.underlying23 hi1 hy0 hy1 hy2 rfl (by decide) _ 0 (([] : List Int).map (Value.int .i64)) rfl (row_made _ 3 _ 1 (Nat.le_refl _) _ rfl) ad (i - k) (c - k) ((A.drop k).map (Value.int .i64)) rfl (by rw [List.length_map, List.length_drop, unhide HAL]; omega) (unhide HSRC _ (fun j x hj => ka (((unhide HRV).ints) j x hj))) ints_one (by unfold maxLen; omega) (by omega) (by simp) ?_
            intro vr wz hown' hgrow hvn
            have R := own_first (wr := V) (news := A.drop k) (ba (Below.refl _ _) _) (by simp) (Nat.le_refl _) hown' hgrow
            obtain ⟨gr, cr, rfl, hgr1, hgr2, hcr1, hcr2⟩ := R.1.sm (fun e => by have := (hvn.1 e).1; cases this)
            have HRR := hide R.1
            have HBz := hide R.2
            have HRz := hide ((unhide HRV).below R.2)
            have hgz : g < wz.heap.size := Nat.lt_of_lt_of_le hgV R.2.size
            have hszz := R.2.size
            have hgrg : gr ≠ g := by omega
            have HPO := hide ((unhide HRz).pop (m := k) hk)
            have HIR := hide ((unhide HRR).ints)
            clear hown' hgrow hvn R
            go_wp2_with (at_builtin; refine unhide ?_)
            refine hide ?_
            refine wpList_append_own _ rfl _ _ 23 rfl w.heap.size 3 iP _ 1 8 Try.underlying23 hi1 hy0 hy1 hy2 rfl (by decide) (.slice (some ⟨g, 0, none⟩) (k) c) (k) ((A.take ((k) * 1)).map (Value.int .i64)) rfl ((unhide HPO).alloc _) _ 1 1 ([(i : Int)].map (Value.int .i64)) rfl rfl (by first | exact news_cells _ _ rfl | exact news_cells _ _ (by simp) | exact news_drew _ _ (by simp)) ints_one (by unfold maxLen; omega) (by omega) (by simp; omega) ?_
            intro v1 w1 hown' hgrow hvn1
            have R1 := hide (own_more (wr := wz) (news := [(i : Int)]) (by repeat (first | exact Below.refl _ _ | refine Below.alloc ?_ (by first | omega | (simp; omega)) _ | refine Below.drew ?_)) (by simp; omega) (unhide HPO) hown' hgrow)
            have HIR1 : Hid (IntsAt w1 gr 0 (A.drop k)) := hide ((unhide HIR).blk ((hgrow.block gr (by simp; omega) (by first | (simp [Value.ownBlock]; omega) | (simp [Value.ownBlock]; exact fun e => hgrg e.symm) | (simp [Value.ownBlock]; intro e; exact hgrg (by omega)))).trans (by first | exact Below.heap_alloc _ _ _ (by simp; omega) | exact Below.heap_alloc _ _ _ (by omega))))
            have hs1 := (unhide R1).2.size
            have HN1 : Hid (v1 ≠ .slice none 0 0) := hide (fun e => by have := (hvn1.1 e).1; cases this)
            clear hown' hgrow hvn1
            go_wp2_with (at_builtin; refine unhide ?_)
            refine hide ?_
            refine wpList_append_own _ rfl _ _ 23 rfl w.heap.size 3 iP _ 1 8 Try.underlying23 hi1 hy0 hy1 hy2 rfl (by decide) v1 (k + 1) ((A.take ((k) * 1) ++ [(i : Int)]).map (Value.int .i64)) rfl (unhide R1).1 ⟨gr, 0, none⟩ (i - k) cr ((A.drop k).map (Value.int .i64)) rfl (by rw [List.length_map, List.length_drop, unhide HAL]; omega) (src_cells (unhide HIR1) _ 0 (fun j x h => by rw [Nat.zero_add]; exact h)) ints_one (by unfold maxLen; omega) (by omega) (by omega) ?_
            intro v2 w2 hown' hgrow hvn2
            have R2 := hide (own_more (wr := w1) (L := A.take ((k) * 1) ++ [(i : Int)]) (news := A.drop k) (Below.refl _ _) (by omega) (unhide R1).1 hown' hgrow)
            have HN2 : Hid (v2 ≠ .slice none 0 0) := hide (fun e => unhide HN1 (hvn2.1 e).1)
            clear hown' hgrow hvn2
            obtain ⟨g2, c2, rfl, hg21, hg22, hc21, hc22⟩ := (unhide R2).1.sm (unhide HN2)
            go_wp2_with fail
            go_roundw
            case rel =>
              have el : k + 1 + (i - (k)) = i + 1 := by omega
              have H : ∃ (i' g' c' : Nat), Value.int .i64 ((i : Int) + 1) = .int .i64 (i' : Int) ∧ i' ≤ n ∧ Value.slice (some ⟨g2, 0, none⟩) (k + 1 + (i - (k))) c2 = .slice (some ⟨g', 0, none⟩) i' c' ∧ Row w2 w.heap.size 3 1 (.slice (some ⟨g', 0, none⟩) i' c') i' (ordL S i') ∧ Below w.heap.size w w2 := by
                refine ⟨i + 1, g2, c2, by simp, by omega, by rw [el], ?_, ?_⟩
                · have hR := (unhide R2).1
                  rw [el, Nat.mul_one] at hR
                  rw [unhide HA2, unhide HE2]
                  simpa [List.append_assoc] using hR
                · exact ((bc (unhide HWV) (unhide HBz)).trans (unhide R1).2).trans (unhide R2).2
              first | exact H | ((repeat apply Exists.intro); refine ⟨?_, rfl⟩; exact H)
            case measure => simp only [intOf]; omega
          · have b1 := unhide HC _ (unhide HWW) tn htn
            have a0 := (unhide HR2).cellAt ht
            have d3 : decide (gt S i < gt S tn) = false := decide_eq_false hnl
            obtain ⟨kn, rfl⟩ : ∃ kn, k = kn + 1 := ⟨k - 1, by omega⟩
            simp only [Nat.add_sub_cancel] at a0
            have ek : (((kn + 1 : Nat)) : Int) = (kn : Int) + 1 := by omega
            rw [ek]
            have d1 : decide ((0 : Int) < (kn : Int) + 1) = true := decide_eq_true (by omega)
            have d2 : (0 : Int) < (kn : Int) + 1 := by omega
            have e1 : IntKind.i64.wrap ((kn : Int) + 1 - 1) = (kn : Int) := by rw [show (kn : Int) + 1 - 1 = (kn : Int) by omega]; exact wrap_i (by omega) (by omega)
            have e2 : (kn : Int) + 1 - 1 = (kn : Int) := by omega
            have e3 : (kn : Int) < (i : Int) := by omega
            have e4 : (0 : Int) ≤ (kn : Int) := by omega
            have e5 : (tn : Int) < (n : Int) := by omega
            generalize gt S i = xi at *
            generalize gt S tn = xt at *
            clear ht hnl
            go_wp2_with fail
            go_quiet (fail)
            have HDN : Hid (Below wr.heap.size wr (wr.drewN nq)) := hide ⟨rfl, rfl, rfl, Nat.le_refl _, fun _ _ => rfl⟩
            have HRV : Hid (Row (wr.drewN nq) w.heap.size 3 1 (.slice (some ⟨g, 0, none⟩) i c) i A) := hide ((unhide HR2).below (unhide HDN))
            have HWV : Hid (Below w.heap.size w (wr.drewN nq)) := hide (bc (unhide HWW) (unhide HDN))
            have hgV : g < (wr.drewN nq).heap.size := by have := hsz2; show g < wr.heap.size; omega
            have hszV : w.heap.size ≤ (wr.drewN nq).heap.size := (unhide HWV).size
            generalize wr.drewN nq = V at *
            obtain ⟨ad, had, hsrc⟩ := tail_ad1 g c (kn + 1) i A (unhide HAL) hk hc1
            have HSRC := hide hsrc
            have kk2 : (kn : Int) + 1 ≤ (i : Int) := by omega
            have kk3 : (kn : Int) + 1 ≤ (c : Int) := by omega
            have kk4 : (i : Int) ≤ (c : Int) := by omega
            clear hsrc b0 b1 a0
            go_wp2_with (at_builtin; refine unhide ?_)
            refine hide ?_
            refine wpList_append_own _ rfl _ _ 23 rfl V.heap.size 3 iP _ 1 8 Try.underlying23 hi1 hy0 hy1 hy2 rfl (by decide) _ 0 (([] : List Int).map (Value.int .i64)) rfl (row_made _ 3 _ 1 (Nat.le_refl _) _ rfl) ad (i - (kn + 1)) (c - (kn + 1)) ((A.drop (kn + 1)).map (Value.int .i64)) rfl (by rw [List.length_map, List.length_drop, unhide HAL]; omega) (unhide HSRC _ (fun j x hj => ka (((unhide HRV).ints) j x hj))) ints_one (by unfold maxLen; omega) (by omega) (by simp) ?_
            intro vr wz hown' hgrow hvn
            have R := own_first (wr := V) (news := A.drop (kn + 1)) (ba (Below.refl _ _) _) (by simp) (Nat.le_refl _) hown' hgrow
            obtain ⟨gr, cr, rfl, hgr1, hgr2, hcr1, hcr2⟩ := R.1.sm (fun e => by have := (hvn.1 e).1; cases this)
            have HRR := hide R.1
            have HBz := hide R.2
            have HRz := hide ((unhide HRV).below R.2)
            have hgz : g < wz.heap.size := Nat.lt_of_lt_of_le hgV R.2.size
            have hszz := R.2.size
            have hgrg : gr ≠ g := by omega
            have HPO := hide ((unhide HRz).pop (m := (kn + 1)) hk)
            have HIR := hide ((unhide HRR).ints)
            clear hown' hgrow hvn R
            go_wp2_with (at_builtin; refine unhide ?_)
            refine hide ?_
            refine wpList_append_own _ rfl _ _ 23 rfl w.heap.size 3 iP _ 1 8 Try.underlying23 hi1 hy0 hy1 hy2 rfl (by decide) (.slice (some ⟨g, 0, none⟩) ((kn + 1)) c) ((kn + 1)) ((A.take (((kn + 1)) * 1)).map (Value.int .i64)) rfl ((unhide HPO).alloc _) _ 1 1 ([(i : Int)].map (Value.int .i64)) rfl rfl (by first | exact news_cells _ _ rfl | exact news_cells _ _ (by simp) | exact news_drew _ _ (by simp)) ints_one (by unfold maxLen; omega) (by omega) (by simp; omega) ?_
            intro v1 w1 hown' hgrow hvn1
            have R1 := hide (own_more (wr := wz) (news := [(i : Int)]) (by repeat (first | exact Below.refl _ _ | refine Below.alloc ?_ (by first | omega | (simp; omega)) _ | refine Below.drew ?_)) (by simp; omega) (unhide HPO) hown' hgrow)
            have HIR1 : Hid (IntsAt w1 gr 0 (A.drop (kn + 1))) := hide ((unhide HIR).blk ((hgrow.block gr (by simp; omega) (by first | (simp [Value.ownBlock]; omega) | (simp [Value.ownBlock]; exact fun e => hgrg e.symm) | (simp [Value.ownBlock]; intro e; exact hgrg (by omega)))).trans (by first | exact Below.heap_alloc _ _ _ (by simp; omega) | exact Below.heap_alloc _ _ _ (by omega))))
            have hs1 := (unhide R1).2.size
            have HN1 : Hid (v1 ≠ .slice none 0 0) := hide (fun e => by have := (hvn1.1 e).1; cases this)
            clear hown' hgrow hvn1
            go_wp2_with (at_builtin; refine unhide ?_)
            refine hide ?_
            refine wpList_append_own _ rfl _ _ 23 rfl w.heap.size 3 iP _ 1 8 Try.underlying23 hi1 hy0 hy1 hy2 rfl (by decide) v1 ((kn + 1) + 1) ((A.take (((kn + 1)) * 1) ++ [(i : Int)]).map (Value.int .i64)) rfl (unhide R1).1 ⟨gr, 0, none⟩ (i - (kn + 1)) cr ((A.drop (kn + 1)).map (Value.int .i64)) rfl (by rw [List.length_map, List.length_drop, unhide HAL]; omega) (src_cells (unhide HIR1) _ 0 (fun j x h => by rw [Nat.zero_add]; exact h)) ints_one (by unfold maxLen; omega) (by omega) (by omega) ?_
            intro v2 w2 hown' hgrow hvn2
            have R2 := hide (own_more (wr := w1) (L := A.take (((kn + 1)) * 1) ++ [(i : Int)]) (news := A.drop (kn + 1)) (Below.refl _ _) (by omega) (unhide R1).1 hown' hgrow)
            have HN2 : Hid (v2 ≠ .slice none 0 0) := hide (fun e => unhide HN1 (hvn2.1 e).1)
            clear hown' hgrow hvn2
            obtain ⟨g2, c2, rfl, hg21, hg22, hc21, hc22⟩ := (unhide R2).1.sm (unhide HN2)
            go_wp2_with fail
            go_roundw
            case rel =>
              have el : (kn + 1) + 1 + (i - ((kn + 1))) = i + 1 := by omega
              have H : ∃ (i' g' c' : Nat), Value.int .i64 ((i : Int) + 1) = .int .i64 (i' : Int) ∧ i' ≤ n ∧ Value.slice (some ⟨g2, 0, none⟩) ((kn + 1) + 1 + (i - ((kn + 1)))) c2 = .slice (some ⟨g', 0, none⟩) i' c' ∧ Row w2 w.heap.size 3 1 (.slice (some ⟨g', 0, none⟩) i' c') i' (ordL S i') ∧ Below w.heap.size w w2 := by
                refine ⟨i + 1, g2, c2, by simp, by omega, by rw [el], ?_, ?_⟩
                · have hR := (unhide R2).1
                  rw [el, Nat.mul_one] at hR
                  rw [unhide HA2, unhide HE2]
                  simpa [List.append_assoc] using hR
                · exact ((bc (unhide HWV) (unhide HBz)).trans (unhide R1).2).trans (unhide R2).2
              first | exact H | ((repeat apply Exists.intro); refine ⟨?_, rfl⟩; exact H)
            case measure => simp only [intOf]; omega
    · have iz : decide ((i : Int) < (n : Int)) = false := decide_eq_false (by omega)
      have en : i = n := by omega
      subst en
      go_wp2_with fail
      go_ret
      exact ⟨⟨g, c, rfl, unhide HRW⟩, unhide HW⟩
end Go.Proofs.Ytmoobfbjehgdnaa
