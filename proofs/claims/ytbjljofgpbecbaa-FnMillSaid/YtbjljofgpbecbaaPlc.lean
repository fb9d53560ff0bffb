/-
  The model's place of a milling.
-/
import Derived.Test.YtbjljofgpbecbaaPlcK
namespace Go.Proofs.Ytbjljofgpbecbaa
open Go.ChangeShapes Go.WideShapes Go.ChangeAt Go.RowKit
set_option linter.unusedVariables false
set_option linter.unusedSimpArgs false

set_option maxHeartbeats 8000000 in
set_option maxRecDepth 100000 in
theorem plM_any (W H r x y : Nat) (z : Int) (fast : Bool) (B M g po n c q cap : Nat) (P : List Int) (f : Bool) (ax ay az : Int) (s : Ml) (w : World)
    (hW1 : 1 ≤ W) (hW : W ≤ 24) (hH : H ≤ 24) (hr : r ≤ 3) (hx : x < W) (hy : y < H) (hn : n = W * H) (hz : 0 ≤ z ∧ z ≤ 24) (hP : P.length = n) (hPt : ∀ i, 0 ≤ tp P i ∧ tp P i ≤ 24) (hO : MOk n s) (hA : 0 ≤ s.air ∧ s.air ≤ 1000000)
    (hMq : M ≠ q) (hMg : g ≠ M) (hqg : g ≠ q) (hR : Rn w B M W H g po n c P r f ax ay az q cap s) :
    Calls Try.prog 76 #[.pointer (some ⟨M, 0, none⟩), .int .i64 (x : Int), .int .i64 (y : Int), .int .i64 z, .bool fast] w fun e w' => e = .returned (.int .i64 (placeC P (cols W H r x y) z fast s).1) ∧ Rn w' B M W H g po n c P r f ax ay az q cap (placeC P (cols W H r x y) z fast s).2 ∧ Mq M q w w' := by
  have hnb : n ≤ 576 := by rw [hn]; exact Nat.mul_le_mul hW hH
  have HC := hide (fun (X : World) => colM_any W H r x y (some ⟨q, 0, none⟩) n cap X hW hH hr hx hy)
  have HCL := hide (fun (i : Nat) (hi : i ∈ cols W H r x y) => (show i < n by rw [hn]; exact cols_lt (W := W) (H := H) hr (by omega) hi))
  have HPC : Hid (∀ cs, cs = cols W H r x y → placeC P (cols W H r x y) z fast s = placeC P cs z fast s) := hide (fun cs h => by rw [h])
  obtain ⟨cs, hcs⟩ : ∃ cs, cols W H r x y = cs := ⟨_, rfl⟩
  rw [hcs] at HC HCL ⊢
  have HP := hide hP
  have HPT := hide hPt
  have HO := hide hO
  have HRN := hide hR
  have k3 := hR.v.cell (m := 3) rfl
  have k8 := hR.v.cell (m := 8) rfl
  have k9 := hR.v.cell (m := 9) rfl
  have k10 := hR.v.cell (m := 10) rfl
  obtain ⟨hz0, hz1⟩ := hz
  obtain ⟨ha0, ha1⟩ := hA
  unfold fldV at HC
  clear hP hPt hO hR hcs HPC hn
  go_enter Try.func76, Try.ntmps76
  go_upto_region 1 with fail
  go_cut [11] (fun s11 wx => ∃ ql cl, s11 = .slice (some ⟨ql, 0, none⟩) cs.length cl ∧ cs.length ≤ 9223372036854775807 ∧ w.heap.size ≤ ql ∧ ql < wx.heap.size ∧ IntsAt wx ql 0 (nI cs) ∧ Below w.heap.size w wx)
  case first =>
    go_region_held3 (fun wx => wx.cell? ⟨M, 3, none⟩ = some (.int .i64 (r : Int)) ∧ wx.cell? ⟨M, 8, none⟩ = some (.int .i64 (W : Int)) ∧ wx.cell? ⟨M, 9, none⟩ = some (.int .i64 (H : Int)) ∧ wx.cell? ⟨M, 10, none⟩ = some (.slice (some ⟨q, 0, none⟩) n cap))
      (simp (maxDischargeDepth := 12) [go_sem, le1, lt1, *])
      (first
      | (go_at_call 52; refine (unhide HC _).mono ?_; rintro e w' ⟨⟨lv, rfl, hlv, hlr⟩, hb⟩; obtain ⟨ql, cl, rfl, hql1, hql2, hcl1, hcl2⟩ := hlr.sm hlv; have HLI := hide hlr.ints; have HBx := hide (show Below w.heap.size w w' from bc (by repeat (first | exact Below.refl _ _ | refine Below.drew ?_)) hb); have HLG := hide (show cs.length ≤ 9223372036854775807 by unfold maxLen at hcl2; omega); have HQ1 := hide (show w.heap.size ≤ ql by exact hql1); have HQ2 := hide hql2; have y0 := keep1 hb (b := M) (o := 3) (v := .int .i64 (r : Int)) (by simp (maxDischargeDepth := 12) [go_sem, le1, lt1, *]); have y1 := keep1 hb (b := M) (o := 8) (v := .int .i64 (W : Int)) (by simp (maxDischargeDepth := 12) [go_sem, le1, lt1, *]); have y2 := keep1 hb (b := M) (o := 9) (v := .int .i64 (H : Int)) (by simp (maxDischargeDepth := 12) [go_sem, le1, lt1, *]); have y3 := keep1 hb (b := M) (o := 10) (v := .slice (some ⟨q, 0, none⟩) n cap) (by simp (maxDischargeDepth := 12) [go_sem, le1, lt1, *]); clear hb hlr hlv hql1 hql2 hcl1 hcl2))
    all_goals
      go_wp2_with fail
      go_meet
      case rel => exact ⟨ql, cl, rfl, unhide HLG, unhide HQ1, unhide HQ2, unhide HLI, by repeat (first | exact unhide HBx | refine Below.drew ?_)⟩
  case rest =>
    obtain ⟨ql, cl, rfl, hml, hql, hql2, hli, hw⟩ := hcut
    have HLI := hide hli
    have HR1 := hide ((unhide HRN).bel hw)
    have HQM := hide (unhide HR1).v.lt
    have HM1 : Hid (M < w.heap.size) := hide (unhide HRN).v.lt
    have HQ1 : Hid (q < w.heap.size) := hide (World.ownsRow.lt (unhide HRN).row q rfl).2
    have HMQ : Hid (Mq M q w wc) := hide (Mq.of_bel hw)
    obtain ⟨m, hm⟩ : ∃ m, cs.length = m := ⟨_, rfl⟩
    rw [hm] at hml ⊢
    have HM := hide hm
    clear hli hw hm k3 k8 k9 k10
    go_wp2_with fail
    generalize hWc : wc = Wc at *
    clear hWc
    go_loopw [12, 13] (fun z12 zz X => ∃ i : Nat, zz = .int .i64 (i : Int) ∧ i ≤ m ∧ z12 = .bool (decide (z < hi s.T (cs.take i))) ∧ hi P (cs.take i) ≤ z ∧ Same Wc X) (fun _ zz _ => m - (intOf zz).toNat)
    case atStart => exact ⟨0, rfl, Nat.zero_le _, by show _ = Value.bool (decide (z < 0)); rw [decide_eq_false (by omega)], by show (0 : Int) ≤ z; exact hz0, Same.refl _⟩
    case round =>
      obtain ⟨i, rfl, hii, rfl, hpi, hs⟩ := hrel
      have HS := hide hs
      have HPI := hide hpi
      have HR2 := hide ((unhide HR1).same hs)
      clear hpi
      by_cases h : i < m
      · have l1 : (i : Int) < (m : Int) := by omega
        have l0 : (0 : Int) ≤ (i : Int) := Int.natCast_nonneg _
        have lz : decide ((i : Int) < (m : Int)) = true := decide_eq_true l1
        obtain ⟨ci, hci⟩ := get_some (unhide HM) h
        have hcn := (unhide HCL) ci (List.mem_of_getElem? hci)
        have c1 := (unhide HLI) i _ (nI_at hci)
        rw [Nat.zero_add, ← hs.cell] at c1
        have c2 := iat (unhide HR2).part (i := ci) (by rw [unhide HP]; exact hcn)
        have c3 := (unhide HR2).row.cellAt (tp_at (T := s.T) (i := ci) (by rw [(unhide HO).len]; exact hcn))
        have k2 := (unhide HR2).v.cell (m := 2) rfl
        have k10 := (unhide HR2).v.cell (m := 10) rfl
        have q1 : (ci : Int) < (n : Int) := by omega
        have q0 : (0 : Int) ≤ (ci : Int) := Int.natCast_nonneg _
        have HHT := hide (hi_lt_take (T := s.T) (z := z) hci)
        have HHP := hide (hi_take P hci)
        have HMEM := hide (List.mem_of_getElem? hci)
        have HPM : Hid (tp P ci ≤ hi P cs) := hide (hi_mem (List.mem_of_getElem? hci))
        generalize tp P ci = pc at *
        generalize tp s.T ci = tc at *
        clear hs hci
        by_cases hg : z < pc
        · have tg := decide_eq_true hg
          have HE : Hid (placeC P cs z fast s = (16, s)) := hide (by unfold placeC; rw [if_pos (by have := unhide HPM; omega)])
          go_wp2_with fail
          go_quiet (fail)
          go_wp2_with fail
          go_ret
          exact ⟨by rw [unhide HE]; first | done | rfl, by rw [unhide HE]; repeat (first | exact unhide HR2 | refine Rn.dn ?_ _ | refine Rn.drew ?_), by repeat (first | exact (unhide HMQ).trans (Mq.of_bel (unhide HS).bel) | refine Mq.dn ?_ _ | refine Mq.drew ?_)⟩
        · have tg := decide_eq_false hg
          by_cases ht : z < hi s.T (cs.take i)
          · have tt := decide_eq_true ht
            have HT2 : Hid (decide (z < hi s.T (cs.take (i + 1))) = true) := hide (decide_eq_true ((unhide HHT).2 (.inl ht)))
            rw [tt]
            clear tt ht
            go_wp2_with fail
            go_quiet (fail)
            go_wp2_with fail
            go_quiet (fail)
            go_wp2_with fail
            go_roundw
            case rel => exact ⟨i + 1, by simp, h, by rw [unhide HT2], by rw [unhide HHP]; have := unhide HPI; omega, by repeat (first | exact unhide HS | refine Same.dn ?_ _ | refine Same.drew ?_)⟩
            case measure => simp only [intOf]; omega
          · have tt := decide_eq_false ht
            rw [tt]
            by_cases hc : z < tc
            · have tc1 := decide_eq_true hc
              have HT2 : Hid (decide (z < hi s.T (cs.take (i + 1))) = true) := hide (decide_eq_true ((unhide HHT).2 (.inr hc)))
              clear tt ht
              go_wp2_with fail
              go_quiet (fail)
              go_wp2_with fail
              go_quiet (fail)
              go_wp2_with fail
              go_roundw
              case rel => exact ⟨i + 1, by simp, h, by rw [unhide HT2], by rw [unhide HHP]; have := unhide HPI; omega, by repeat (first | exact unhide HS | refine Same.dn ?_ _ | refine Same.drew ?_)⟩
              case measure => simp only [intOf]; omega
            · have tc1 := decide_eq_false hc
              have HT2 : Hid (decide (z < hi s.T (cs.take (i + 1))) = false) := hide (decide_eq_false (fun hh => by rcases (unhide HHT).1 hh with h1 | h1 <;> contradiction))
              clear tt ht
              go_wp2_with fail
              go_quiet (fail)
              go_wp2_with fail
              go_quiet (fail)
              go_wp2_with fail
              go_roundw
              case rel => exact ⟨i + 1, by simp, h, by rw [unhide HT2], by rw [unhide HHP]; have := unhide HPI; omega, by repeat (first | exact unhide HS | refine Same.dn ?_ _ | refine Same.drew ?_)⟩
              case measure => simp only [intOf]; omega
      · have lz : decide ((i : Int) < (m : Int)) = false := decide_eq_false (by omega)
        have HTK : Hid (cs.take i = cs) := hide (List.take_of_length_le (by rw [unhide HM]; omega))
        have HMQ2 : Hid (Mq M q w wr) := hide ((unhide HMQ).trans (Mq.of_bel hs.bel))
        have HLI2 : Hid (IntsAt wr ql 0 (nI cs)) := hide (fun j v hj => (hs.cell _).trans ((unhide HLI) j v hj))
        have HNG : Hid (¬ z < hi P cs) := hide (by have := unhide HPI; rw [unhide HTK] at this; omega)
        rw [unhide HTK]
        obtain ⟨tk, htk⟩ : ∃ tk, decide (z < hi s.T cs) = tk := ⟨_, rfl⟩
        rw [htk]
        have HTKE := hide htk
        clear hs htk hii
        by_cases hft : fast = true ∧ tk = true
        · obtain ⟨rfl, rfl⟩ := hft
          have HE : Hid (placeC P cs z true s = (17, s)) := hide (by unfold placeC; rw [if_neg (unhide HNG), if_pos (of_decide_eq_true (unhide HTKE)), if_pos rfl])
          go_wp2_with fail
          go_ret
          exact ⟨by rw [unhide HE]; first | done | rfl, by rw [unhide HE]; exact unhide HR2, unhide HMQ2⟩
        · have HTO := hide (fun i => (takeC_ok (z := z) hz0 (cs.take i) s (unhide HO) (fun j hj => (unhide HCL) j (List.mem_of_mem_take hj))))
          have HTN : Hid (tk = false → takeC z s cs = s) := hide (fun e => takeC_none z s cs (fun j hj => by
            have h1 := of_decide_eq_false ((unhide HTKE).trans e)
            have := hi_mem (T := s.T) hj
            omega))
          have HPE : Hid (placeC P cs z fast s = (0, if fast = false ∧ tk = false then ⟨(takeC z s cs).T, (takeC z s cs).cut, (takeC z s cs).air + 1, (takeC z s cs).dep⟩ else takeC z s cs)) := hide (by
            unfold placeC
            rw [if_neg (unhide HNG)]
            cases tk with
            | true =>
              have : fast = false := by cases fast <;> simp at hft ⊢
              subst this
              rw [if_pos (of_decide_eq_true (unhide HTKE))]
              simp
            | false =>
              rw [if_neg (of_decide_eq_false (unhide HTKE)), (unhide HTN) rfl]
              cases fast <;> simp)
          have hft' : fast = false ∨ tk = false := by cases fast <;> cases tk <;> simp at hft ⊢
          have HR0 : Hid (Rn wr B M W H g po n c P r f ax ay az q cap (takeC z s (cs.take 0))) := hide (unhide HR2)
          clear hft
          generalize hWl : wr = Wl at *
          clear hWl HR2 HTKE HTN
          rcases hft' with rfl | rfl
          all_goals (try cases tk)
          all_goals (try cases fast)
          all_goals
            go_wp2_with fail
            go_loopw [14] (fun zz X => ∃ i : Nat, zz = .int .i64 (i : Int) ∧ i ≤ m ∧ Rn X B M W H g po n c P r f ax ay az q cap (takeC z s (cs.take i)) ∧ IntsAt X ql 0 (nI cs) ∧ Mq M q w X) (fun zz _ => m - (intOf zz).toNat)
            case atStart => exact ⟨0, rfl, Nat.zero_le _, unhide HR0, unhide HLI2, unhide HMQ2⟩
            case round =>
              obtain ⟨k, rfl, hk, hrn, hli, hmq⟩ := hrel
              have HRk := hide hrn
              have HLk := hide hli
              have HMk := hide hmq
              by_cases h7 : k < m
              · have l1 : (k : Int) < (m : Int) := by omega
                have l0 : (0 : Int) ≤ (k : Int) := Int.natCast_nonneg _
                have lz : decide ((k : Int) < (m : Int)) = true := decide_eq_true l1
                obtain ⟨ci, hci⟩ := get_some (unhide HM) h7
                have hcn := (unhide HCL) ci (List.mem_of_getElem? hci)
                have c1 := hli k _ (nI_at hci)
                rw [Nat.zero_add] at c1
                have HTT := hide (takeC_take z s hci)
                obtain ⟨hok, hair⟩ := (unhide HTO) k
                have hok1 := hok.tops ci
                have hok2 := hok.cut
                have hok3 := hok.cut_le
                have hok4 := hok.dep
                have hlen := hok.len
                generalize takeC z s (cs.take k) = sk at *
                have c3 := hrn.row.cellAt (tp_at (T := sk.T) (i := ci) (by rw [hlen]; exact hcn))
                have k10 := hrn.v.cell (m := 10) rfl
                have k11 := hrn.v.cell (m := 11) rfl
                have k13 := hrn.v.cell (m := 13) rfl
                have fzM := hrn.v.frozen
                have fzq := hrn.row.frz
                have q1 : (ci : Int) < (n : Int) := by omega
                have q0 : (0 : Int) ≤ (ci : Int) := Int.natCast_nonneg _
                have hne2 : ql ≠ M := by have := unhide HM1; omega
                have hne3 : ql ≠ q := by have := unhide HQ1; omega
                have HT1 : Hid (take1 z sk ci = if tp sk.T ci > z then ⟨sk.T.set ci z, sk.cut + (tp sk.T ci - z), sk.air, max sk.dep (tp sk.T ci - z)⟩ else sk) := hide rfl
                obtain ⟨tc, htc⟩ : ∃ tc, tp sk.T ci = tc := ⟨_, rfl⟩
                rw [htc] at c3 hok1 HT1
                obtain ⟨cu, hcu⟩ : ∃ cu, sk.cut = cu := ⟨_, rfl⟩
                obtain ⟨de, hde⟩ : ∃ de, sk.dep = de := ⟨_, rfl⟩
                rw [hcu] at k11 hok2 hok3 HT1
                rw [hde] at k13 hok4 HT1
                have w1 : IntKind.i64.wrap (tc - z) = tc - z := Go.IntWalk.i64_in _ ⟨by omega, by omega⟩
                have w2 : IntKind.i64.wrap (cu + (tc - z)) = cu + (tc - z) := Go.IntWalk.i64_in _ ⟨by omega, by omega⟩
                clear hrn hli hmq hci hok hair hlen htc hcu hde
                by_cases hd : 0 < tc - z
                · have td := decide_eq_true hd
                  have HT2 : Hid (take1 z sk ci = ⟨sk.T.set ci z, cu + (tc - z), sk.air, max de (tc - z)⟩) := hide (by rw [unhide HT1, if_pos (by omega)])
                  go_wp2_with fail
                  go_quiet (fail)
                  go_wp2_with fail
                  go_region
                  go_wp2_with fail
                  go_roundw
                  case rel =>
                    refine ⟨k + 1, by simp, h7, ?_, ?_, ?_⟩
                    · rw [unhide HTT, unhide HT2]
                      have h1 := (((unhide HRk).setCut hMq hMg (cu + (tc - z))).setDep hMq hMg (max de (tc - z))).setTop hMq hqg ci hcn z
                      exact ⟨h1.v, h1.row, h1.lt, h1.part⟩
                    · exact ints_ne (ints_ne (ints_ne (unhide HLk) M _ hne2) M _ hne2) q _ hne3
                    · have h1 := (((unhide HMk).setA 11 (.int .i64 (cu + (tc - z)))).setA 13 (.int .i64 (max de (tc - z)))).setB ci (.int .i64 z)
                      exact ⟨h1.os, h1.tape, h1.output, h1.size, h1.block⟩
                  case measure => simp only [intOf]; omega
                · have td := decide_eq_false hd
                  have HT2 : Hid (take1 z sk ci = sk) := hide (by rw [unhide HT1, if_neg (by omega)])
                  go_wp2_with fail
                  go_quiet (fail)
                  go_wp2_with fail
                  go_roundw
                  case rel => exact ⟨k + 1, by simp, h7, by rw [unhide HTT, unhide HT2]; repeat (first | exact unhide HRk | refine Rn.dn ?_ _ | refine Rn.drew ?_), unhide HLk, by repeat (first | exact unhide HMk | refine Mq.dn ?_ _ | refine Mq.drew ?_)⟩
                  case measure => simp only [intOf]; omega
              · have lz : decide ((k : Int) < (m : Int)) = false := decide_eq_false (by omega)
                have HTK2 : Hid (cs.take k = cs) := hide (List.take_of_length_le (by rw [unhide HM]; omega))
                have hairk := ((unhide HTO) k).2
                have k12 := hrn.v.cell (m := 12) rfl
                have fzM := hrn.v.frozen
                rw [hairk] at k12
                have HAIR := hide hairk
                have w1 : IntKind.i64.wrap (s.air + 1) = s.air + 1 := Go.IntWalk.i64_in _ ⟨by omega, by omega⟩
                clear hrn hli hmq hairk
                go_wp2_with fail
                go_ret
                refine ⟨by rw [unhide HPE]; first | done | rfl, ?_, ?_⟩
                · rw [unhide HPE]
                  have h1 := unhide HRk
                  rw [unhide HTK2] at h1
                  have h2 := unhide HAIR
                  rw [unhide HTK2] at h2
                  dsimp only
                  first
                  | (rw [if_neg (by simp)]; exact h1)
                  | (rw [if_pos (by simp), h2]; exact h1.setAir hMq hMg (s.air + 1))
                · first | exact unhide HMk | exact (unhide HMk).setA 12 _
end Go.Proofs.Ytbjljofgpbecbaa
