/-
  FnSketch's walk.
-/
import Derived.Test.YtchdmigeopmacaaTigh
import Derived.Test.YtchdmigeopmacaaSkiL
import Derived.Deep.RegionLaw
import Derived.Deep.Cut
import Derived.Deep.CutRange
namespace Go.Proofs.Ytchdmigeopmacaa
open Go.ChangeShapes Go.WideShapes Go.ChangeAt Go.RowKit
set_option linter.unusedVariables false
set_option linter.unusedSimpArgs false

theorem outP_len2 (n : Int) (rs : List Ru) : (outP n rs).length = outN n rs * 2 := by
  unfold outP outN
  split
  · split
    · exact ptsP_len _ _
    · rfl
  · rfl
theorem out_ok2 {N : Nat} {rs : List Ru} (hok : skOk (N : Int) rs = true) (hk : keptP N rs = true) : outC (N : Int) rs = 0 ∧ outN (N : Int) rs = N ∧ outP (N : Int) rs = ptsP (goP N rs).1 N ∧ outK (N : Int) rs = [] := by
  unfold outC outN outP outK
  rw [Int.toNat_natCast, if_pos hok, if_pos hk, if_pos hok, if_pos hk, if_pos hok, if_pos hk, if_pos hok, if_pos hk]
  exact ⟨rfl, rfl, rfl, rfl⟩
theorem tail_ad4 (q ck k n : Nat) (L : List Int) (hl : L.length = n * 4) (hk : k < n) (hc : n ≤ ck) : ∃ ad : Addr, (if ck = k + 1 then some (⟨q, 0, none⟩ : Addr) else some ⟨q, (k + 1) * 4, none⟩) = some ad ∧
    ∀ W, IntsAt W q 0 L → ∀ (j : Nat) (u : Value), ((L.drop ((k + 1) * 4)).map (Value.int .i64))[j]? = some u → W.cell? (ad.add j) = some u := by
  by_cases h : ck = k + 1
  · refine ⟨⟨q, 0, none⟩, if_pos h, fun W hW j u hj => ?_⟩
    rw [List.drop_eq_nil_of_le (by omega)] at hj
    cases hj
  · exact ⟨⟨q, (k + 1) * 4, none⟩, if_neg h, fun W hW => src_cells hW _ ((k + 1) * 4) (drop_part _ _)⟩

set_option maxHeartbeats 4000000 in
set_option maxRecDepth 100000 in
theorem fnSketch_core (a : Option Addr) (len cap : Nat) (w : World) (hl : len ≤ 1048576)
    (HOF : Hid (∀ W, Below w.heap.size w W → Calls Try.prog 6 #[.slice a len cap] W fun e w' => ∃ (v : Value) (n : Int) (rs : List Ru), e = .returned v ∧ SkAt w' v n rs ∧ Below W.heap.size W w')) :
    Calls Try.prog 3 #[.slice a len cap] w fun e w' => e = .returned (.bool true) ∧ Below w.heap.size w w' := by
  obtain ⟨iR, hi1, hy0, hy1, hy2⟩ := info_parts info35s
  have hl1 : decide ((1048576 : Int) < (len : Int)) = false := decide_eq_false (by omega)
  go_enter Try.func3, Try.ntmps3
  go_wp2_with fail
  refine (unhide HOF _ (Below.refl _ _)).mono ?_
  rintro e W1 ⟨v, n, rs, rfl, ⟨hok, u, c, p, rfl, hcap, hcm, hx⟩, hb1⟩
  obtain ⟨n1, n2, l1, hr⟩ := ok_parts hok
  obtain ⟨N, rfl⟩ : ∃ N : Nat, n = (N : Int) := ⟨n.toNat, by omega⟩
  have hX : ∀ W, Below W1.heap.size W1 W → rs.length ≠ 0 → u = some ⟨p, 0, none⟩ ∧ p < W.heap.size ∧ RusAt W p 0 rs := fun W hW h0 => ⟨(hx h0).1, Nat.lt_of_lt_of_le (hx h0).2.1 hW.size, (hx h0).2.2.bel hW (hx h0).2.1⟩
  have HSP := hide (fun W (hW : Below W1.heap.size W1 W) => solveP_any (N : Int) u p 0 rs.length c rs W rfl (by omega) (hX W hW))
  have HSM := hide (fun W (hW : Below W1.heap.size W1 W) => solveM_any (N : Int) u p 0 rs.length c rs W rfl (by omega) (hX W hW))
  have HX := hide hX
  have HOK := hide hok
  have HR := hide hr
  have HB1 := hide hb1
  clear hX hx hb1 hok hr
  go_wp2_with fail
  refine (unhide HSP _ (ba (Below.refl _ _) _)).mono ?_
  rintro e W2 ⟨v1, v2, rfl, hr1, hr2, _, hb2⟩
  have a0 : W2.cell? ⟨W1.heap.size, 0, none⟩ = some (.int .i64 (N : Int)) := keep1 hb2 (by simp [go_sem])
  have a1 : W2.cell? ⟨W1.heap.size, 1, none⟩ = some (.slice u rs.length c) := keep1 hb2 (by simp [go_sem])
  have HB2 : Hid (Below W1.heap.size W1 W2) := hide (bc (ba (Below.refl _ _) _) hb2)
  obtain ⟨up, gp, cp, rfl, hatp⟩ := hr1.sl.at
  obtain ⟨uk, gk, ck, rfl, hatk⟩ := hr2.sl.at
  have HAP := hide hatp
  have HAK := hide hatk
  have lt2 := cell_lt a0
  clear hb2 hr1 hr2 hatp hatk HSP
  go_wp2_with fail
  refine (unhide HSM _ (unhide HB2)).mono ?_
  rintro e W3 ⟨v3, v4, rfl, hs3, hs4, hb3⟩
  have b0 := keep1 hb3 a0
  have b1 := keep1 hb3 a1
  obtain ⟨u3, g3, c3, rfl, hat3⟩ := hs3.at
  obtain ⟨u4, g4, c4, rfl, hat4⟩ := hs4.at
  have HB3 : Hid (Below W1.heap.size W1 W3) := hide (bc (unhide HB2) hb3)
  have HAP3 : Hid (At W3 up gp (outN (N : Int) rs) (outP (N : Int) rs)) := hide (fun h0 => ⟨(unhide HAP h0).1, Nat.lt_of_lt_of_le (unhide HAP h0).2.1 hb3.size, (unhide HAP h0).2.2.below hb3 (unhide HAP h0).2.1⟩)
  have HAK3 : Hid (At W3 uk gk (outK (N : Int) rs).length (nats (outK (N : Int) rs))) := hide (fun h0 => ⟨(unhide HAK h0).1, Nat.lt_of_lt_of_le (unhide HAK h0).2.1 hb3.size, (unhide HAK h0).2.2.below hb3 (unhide HAK h0).2.1⟩)
  have hoN : outN (N : Int) rs ≤ 24 := by
    unfold outN
    split
    · split <;> omega
    · omega
  have hoK : (outK (N : Int) rs).length ≤ 60 := by
    unfold outK
    split
    · split
      · exact Nat.zero_le _
      · have := coreGo_len (badK (N : Int).toNat rs) rs.length (List.range rs.length)
        rw [List.length_range] at this
        omega
    · exact Nat.zero_le _
  have HSP := hide (pts_same_any up u3 gp 0 g3 0 (outN (N : Int) rs) cp c3 (outP (N : Int) rs) W3 (outP_len2 _ _) (by omega) (unhide HAP3) hat3)
  have HSI := hide (fun W (hW : Below W3.heap.size W3 W) => ints_same uk u4 gk 0 g4 0 (outK (N : Int) rs).length ck c4 (nats (outK (N : Int) rs)) W (by simp [nats]) (by omega) (fun h0 => ⟨(unhide HAK3 h0).1, Nat.lt_of_lt_of_le (unhide HAK3 h0).2.1 hW.size, (unhide HAK3 h0).2.2.below hW (unhide HAK3 h0).2.1⟩) (fun h0 => ⟨(hat4 h0).1, Nat.lt_of_lt_of_le (hat4 h0).2.1 hW.size, (hat4 h0).2.2.below hW (hat4 h0).2.1⟩))
  have hne1 : (outC (N : Int) rs != outC (N : Int) rs) = false := by simp
  clear hb3 a0 a1 hs3 hs4 hat3 hat4 HAP HAK HSM HB2
  go_wp2_with fail
  refine (unhide HSP).mono ?_
  rintro e W4 ⟨rfl, hb4⟩
  have HB34 := hide hb4
  have d0 := keep1 hb4 b0
  have d1 := keep1 hb4 b1
  clear hb4 b0 b1 HSP
  go_wp2_with fail
  refine (unhide HSI _ (unhide HB34)).mono ?_
  rintro e W5 ⟨rfl, hb5⟩
  have e0 := keep1 hb5 d0
  have e1 := keep1 hb5 d1
  have HB35 : Hid (Below W3.heap.size W3 W5) := hide (bc (unhide HB34) hb5)
  have HB5 : Hid (Below W1.heap.size W1 W5) := hide (bc (unhide HB3) (unhide HB35))
  have lt5 := cell_lt e0
  clear hb5 d0 d1 HSI
  cases hkp : keptP N rs with
  | true =>
    obtain ⟨oC, oN, oP, oK⟩ := out_ok2 (unhide HOK) hkp
    rw [oN, oP] at HAP3
    rw [oN, oC]
    obtain ⟨hup, hgp, hip⟩ := unhide HAP3 (by omega)
    subst hup
    have HKA := hide (keepsAll_any gp N cp _ u p rs.length c rs W5 (ptsP_len _ _) (unhide HR) (by omega) (by omega) rfl (by omega) (fun j hj => by have := pts_bd (unhide HR) hkp hj; omega) (Nat.lt_of_lt_of_le hgp (unhide HB35).size) (hip.below (unhide HB35) hgp) (unhide HX W5 (unhide HB5)))
    rw [kept_all (unhide HR) hkp] at HKA
    have HTI := hide (fun W (hW : Below W5.heap.size W5 W) => tight_core gp N cp _ u p rs.length c rs W (by omega) (by omega) rfl (by omega) (hide (ptsP_len (goP N rs).1 N)) (hide fun j hj => pts_bd (unhide HR) hkp hj) (by have := (unhide HB35).size; have := hW.size; omega) (hide (hip.below (bc (unhide HB35) hW) hgp)) (hide (unhide HX W (bc (unhide HB5) hW))) HR (hide (kept_all (unhide HR) hkp)) (hide fun Q j0 h h0 => h.not (unhide HR) hkp h0))
    clear hip HAP3
    go_wp2_with fail
    refine (unhide HKA).mono ?_
    rintro e W6 ⟨rfl, hb6⟩
    have f0 := keep1 hb6 e0
    have f1 := keep1 hb6 e1
    have HB6 := hide hb6
    clear hb6
    go_wp2_with fail
    refine (unhide HTI _ (unhide HB6)).mono ?_
    rintro e W7 ⟨rfl, hb7⟩
    have HB7 := hide (bc (bc (unhide HB1) (unhide HB5)) (bc (unhide HB6) hb7))
    clear hb7
    go_wp2_with fail
    go_ret
    exact ⟨rfl, unhide HB7⟩
  | false =>
    obtain ⟨oC, oK⟩ := out_core (unhide HOK) hkp
    obtain ⟨cf1, cf2, cf3⟩ := core_facts (unhide HR) hkp
    rw [oC]
    rw [oK] at HAK3 hoK
    rw [oK]
    generalize coreGo (badK N rs) rs.length (List.range rs.length) = C at *
    have hCne : C.length ≠ 0 := by
      intro h0
      rw [List.length_eq_zero_iff.1 h0] at cf1
      have := kept_nil N
      rw [show pick rs [] = [] from rfl, this] at cf1
      cases cf1
    have hpl : (pick rs C).length = C.length := pick_len2 rs C
    have HCF1 := hide cf1
    have HCF2 := hide cf2
    have HCF3 := hide cf3
    obtain ⟨huk, hgk, hik⟩ := unhide HAK3 hCne
    subst huk
    have HIK := hide (hik.below (unhide HB35) hgk)
    have hgk5 : gk < W5.heap.size := Nat.lt_of_lt_of_le hgk (unhide HB35).size
    clear cf1 cf2 cf3 hik HAK3 HAP3 oC oK
    go_wp2_with fail
    go_loopw [10, 11] (fun v s W => ∃ i : Nat, s = .int .i64 (i : Int) ∧ i ≤ C.length ∧ Row W W5.heap.size 35 4 v i (flat4 ((pick rs C).take i)) ∧ Below W5.heap.size W5 W) (fun _ s _ => C.length - (intOf s).toNat)
    case atStart => exact ⟨0, rfl, by omega, row_made _ 35 _ 4 (by simp) _ (by simp), ba (Below.refl _ _) _⟩
    case round =>
      obtain ⟨i, rfl, hi, hrow, hw⟩ := hrel
      have HRW := hide hrow
      have HW := hide hw
      have x0 := keep1 hw e0
      have x1 := keep1 hw e1
      have hszw := hw.size
      have ltw := cell_lt x0
      obtain ⟨ur, cr, rfl, hform⟩ := hrow.form
      have HFO := hide hform
      clear hrow hw hform
      by_cases h : i < C.length
      · have iz : decide ((i : Int) < (C.length : Int)) = true := decide_eq_true (by omega)
        have i1 : (i : Int) < (C.length : Int) := by omega
        have i0 : (0 : Int) ≤ (i : Int) := by omega
        obtain ⟨j, hj⟩ : ∃ j, C[i]? = some j := ⟨_, List.getElem?_eq_getElem h⟩
        have hjr := unhide HCF2 j (List.mem_of_getElem? hj)
        have cj : wr.cell? ⟨gk, i, none⟩ = some (.int .i64 (j : Int)) := by have := (unhide HIK).below (unhide HW) hgk5 _ _ (nats_at hj); rwa [Nat.zero_add] at this
        obtain ⟨K, A, B, M, hrj⟩ : ∃ K A B M : Int, rs[j]? = some (K, A, B, M) := ⟨_, _, _, _, List.getElem?_eq_getElem hjr⟩
        obtain ⟨hu, hp5, hRA⟩ := unhide HX wr (bc (unhide HB5) (unhide HW)) (by omega)
        obtain ⟨k0, k1, k2, k3⟩ := hRA j _ hrj
        simp only [Nat.zero_add] at k0 k1 k2 k3
        have j1 : (j : Int) < (rs.length : Int) := by omega
        have j0 : (0 : Int) ≤ (j : Int) := by omega
        have hfl := take_flat (pick rs C) (pick_at hj hrj)
        have HFL := hide hfl
        subst hu
        clear hRA hj hrj hfl
        go_wp2_with fail
        go_region_law
          (refine step_own (by rfl) (.tmp 71) (.tmp 80) _ (by rfl) W5.heap.size 35 iR _ 4 32 Try.underlying23 hi1 hy0 hy1 hy2 rfl (by omega) (.slice ur i cr) i ((flat4 ((pick rs C).take i)).map (Value.int .i64)) (by rfl) (by first | exact (unhide HRW).alloc _ | exact ((unhide HRW).alloc _).drew | exact ((unhide HRW).drew.alloc _))
            ⟨_, 0, none⟩ 1 1 ([K, A, B, M].map (Value.int .i64)) (by rfl) (by rfl) (by first | exact news_cells _ _ rfl | exact news_cells _ _ (by simp) | exact news_drew _ _ (by simp)) ints_one (by unfold maxLen; omega) (by omega) (by simp; omega) ?_; intro v' wz hown' hgrow hvn; have R := hide (own_more (wr := wr) (news := [K, A, B, M]) (by repeat (first | exact Below.refl _ _ | refine Below.alloc ?_ (by first | omega | (simp; omega)) _ | refine Below.drew ?_)) (by simp; omega) (unhide HRW) hown' hgrow); clear hown' hgrow hvn)
        all_goals
          go_wp2_with fail
          go_roundw
          case rel => first | exact ⟨i + 1, by simp, by omega, by rw [unhide HFL]; exact (unhide R).1, (unhide HW).trans (unhide R).2⟩ | ((repeat apply Exists.intro); refine ⟨?_, rfl⟩; exact ⟨i + 1, by simp, by omega, by rw [unhide HFL]; exact (unhide R).1, (unhide HW).trans (unhide R).2⟩)
          case measure => simp only [intOf]; omega
      · have iz : decide ((i : Int) < (C.length : Int)) = false := decide_eq_false (by omega)
        have en : i = C.length := by omega
        subst en
        have HRR : Hid (Row wr W5.heap.size 35 4 (.slice ur C.length cr) C.length (flat4 (pick rs C))) := hide (by have := unhide HRW; rw [← hpl, List.take_length, hpl] at this; exact this)
        obtain ⟨gr, cr', hvr, hgr1, hgr2, hir, hcr1, hcr2⟩ := (unhide HRR).full hCne
        cases hvr
        have HIR := hide hir
        have pok : ∀ r ∈ pick rs C, ruOk (N : Int) r = true := pick_ok (unhide HR) (unhide HCF2)
        have HPOK := hide pok
        have HSP1 := hide (solveP_any (N : Int) (some ⟨gr, 0, none⟩) gr 0 C.length cr (pick rs C) wr hpl (by omega) (fun _ => ⟨rfl, hgr2, rusAt_ints4 hir⟩))
        rw [(out_core (sk_of (by omega) (by omega) (by omega) pok) (unhide HCF1)).1] at HSP1
        have hz0 : ((C.length : Int) == 0) = false := by rw [beq_eq_false_iff_ne]; omega
        clear hir pok HRW HFO
        go_wp2_with fail
        refine (unhide HSP1).mono ?_
        rintro e W6 ⟨q1, q2, rfl, _, _, _, hb6⟩
        have f0 := keep1 hb6 x0
        have f1 := keep1 hb6 x1
        have HB6 := hide hb6
        have HB6w : Hid (Below W5.heap.size W5 W6) := hide (bc (unhide HW) hb6)
        have HIR6 := hide ((unhide HIR).below hb6 hgr2)
        have hgr6 : gr < W6.heap.size := Nat.lt_of_lt_of_le hgr2 hb6.size
        have lt6 := cell_lt f0
        clear hb6 x0 x1 HSP1
        go_wp2_with fail
        go_loopw [15] (fun s W => ∃ i : Nat, s = .int .i64 (i : Int) ∧ i ≤ C.length ∧ Below W6.heap.size W6 W) (fun s _ => C.length - (intOf s).toNat)
        case atStart => exact ⟨0, rfl, by omega, Below.refl _ _⟩
        case round =>
          obtain ⟨k, rfl, hk, hw⟩ := hrel
          have HW7 := hide hw
          have x0 := keep1 hw f0
          have x1 := keep1 hw f1
          have hszw := hw.size
          have ltw := cell_lt x0
          have HIRk := hide ((unhide HIR6).below hw hgr6)
          have hgrk : gr < wr.heap.size := by omega
          clear hw
          by_cases h : k < C.length
          · have kz : decide ((k : Int) < (C.length : Int)) = true := decide_eq_true (by omega)
            have kk1 : (k : Int) < (C.length : Int) := by omega
            have kk0 : (0 : Int) ≤ (k : Int) := by omega
            have kk5 : (0 : Int) ≤ (k : Int) + 1 := by omega
            have hfl : (flat4 (pick rs C)).length = C.length * 4 := by rw [flat4_len, hpl]
            obtain ⟨ad, had, hsrc⟩ := tail_ad4 gr cr k C.length (flat4 (pick rs C)) hfl h hcr1
            have HSRC := hide hsrc
            have HFR := hide (row_made wr 35 wr.heap.size 4 (Nat.le_refl _) wr.heap.size rfl)
            have kk2 : (k : Int) ≤ (cr : Int) := by omega
            have kk3 : (k : Int) + 1 ≤ (C.length : Int) := by omega
            have kk4 : (C.length : Int) ≤ (cr : Int) := by omega
            have wk : IntKind.i64.wrap ((k : Int) + 1) = (k : Int) + 1 := wrap_i (by omega) (by omega)
            have HFLL := hide hfl
            clear hsrc hfl
            generalize hFF : flat4 (pick rs C) = FF at *
            go_wp2_with fail
            go_region_law
              (first
              | (refine step_own (by rfl) (.tmp 104) (.tmp 107) _ (by rfl) wr.heap.size 35 iR _ 4 32 Try.underlying23 hi1 hy0 hy1 hy2 rfl (by omega) (.slice (some ⟨wr.heap.size, 0, none⟩) 0 0) 0 (([] : List Int).map (Value.int .i64)) (by rfl) (by first | exact unhide HFR | exact (unhide HFR).drew)
                  ⟨gr, 0, none⟩ k cr ((FF.take (k * 4)).map (Value.int .i64)) (by rfl) (by simp [unhide HFLL]; omega) (src_cells (by first | exact ((unhide HIRk).alloc hgrk _) | exact ((unhide HIRk).alloc hgrk _).drew) _ 0 (take_part _ _)) ints_one
                  (by unfold maxLen; omega) (by omega) (by simp) ?_; intro v1 w1 hown' hgrow hvn; have R := hide (own_first (wr := wr) (news := FF.take (k * 4)) (by repeat (first | exact Below.refl _ _ | refine Below.alloc ?_ (by first | omega | (simp; omega)) _ | refine Below.drew ?_)) (by simp) (Nat.le_refl _) hown' hgrow); clear hown' hgrow hvn)
              | (refine step_own (by rfl) (.tmp 108) (.tmp 112) _ (by rfl) wr.heap.size 35 iR _ 4 32 Try.underlying23 hi1 hy0 hy1 hy2 rfl (by omega) v1 k ((FF.take (k * 4)).map (Value.int .i64)) (by rfl) (unhide R).1
                  ad (C.length - (k + 1)) (cr - (k + 1)) ((FF.drop ((k + 1) * 4)).map (Value.int .i64)) (by rfl) (by simp [unhide HFLL]; omega) (unhide HSRC _ ((unhide HIRk).below (unhide R).2 hgrk)) ints_one
                  (by unfold maxLen; omega) (by omega) (unhide R).2.size ?_; intro v2 w2 hown' hgrow hvn; have R2 := hide (own_more (wr := w1) (L := FF.take (k * 4)) (news := FF.drop ((k + 1) * 4)) (Below.refl _ _) (unhide R).2.size (unhide R).1 hown' hgrow); clear hown' hgrow hvn))
            all_goals
              have e2 : k + (C.length - (k + 1)) = C.length - 1 := by omega
              have hLess : FF.take (k * 4) ++ FF.drop ((k + 1) * 4) = flat4 (pick rs (C.eraseIdx k)) := by rw [← hFF, flat4_take, flat4_drop, ← flat4_append, ← pick_erase]
              have HR3 : Hid (Row w2 wr.heap.size 35 4 v2 (C.length - 1) (flat4 (pick rs (C.eraseIdx k)))) := hide (by have := (unhide R2).1; rw [e2, hLess] at this; exact this)
              have HB8 : Hid (Below wr.heap.size wr w2) := hide ((unhide R).2.trans (unhide R2).2)
              have y0 := keep1 (unhide HB8) x0
              have y1 := keep1 (unhide HB8) x1
              have lt8 := cell_lt y0
              obtain ⟨ul, gl, cl, rfl, hatl⟩ := (unhide HR3).sl.at
              have hlen : (pick rs (C.eraseIdx k)).length = C.length - 1 := by rw [pick_len2, List.length_eraseIdx_of_lt h]
              have lok : ∀ r ∈ pick rs (C.eraseIdx k), ruOk (N : Int) r = true := pick_ok (unhide HR) (fun j hj => unhide HCF2 j (List.mem_of_mem_eraseIdx hj))
              have lkp := unhide HCF3 k h
              have lrus : ∀ W, Below w2.heap.size w2 W → C.length - 1 ≠ 0 → ul = some ⟨gl, 0, none⟩ ∧ gl < W.heap.size ∧ RusAt W gl 0 (pick rs (C.eraseIdx k)) := fun W hW h0 => ⟨(hatl h0).1, Nat.lt_of_lt_of_le (hatl h0).2.1 hW.size, rusAt_ints4 ((hatl h0).2.2.below hW (hatl h0).2.1)⟩
              obtain ⟨oC, oN, oP, _⟩ := out_ok2 (sk_of (by omega) (by omega) (by omega) lok) lkp
              have HSP2 := hide (solveP_any (N : Int) ul gl 0 (C.length - 1) cl (pick rs (C.eraseIdx k)) w2 hlen (by omega) (lrus w2 (Below.refl _ _)))
              rw [oC, oN, oP] at HSP2
              have HKA2 := hide (fun (g8 c8 : Nat) (W : World) (hW : Below w2.heap.size w2 W) (hg8 : g8 < W.heap.size) (hI8 : IntsAt W g8 0 (ptsP (goP N (pick rs (C.eraseIdx k))).1 N)) => keepsAll_any g8 N c8 (ptsP (goP N (pick rs (C.eraseIdx k))).1 N) ul gl (C.length - 1) cl (pick rs (C.eraseIdx k)) W (ptsP_len _ _) lok (by omega) (by omega) hlen (by omega) (fun j hj => by have := pts_bd lok lkp hj; omega) hg8 hI8 (lrus W hW))
              rw [kept_all lok lkp] at HKA2
              clear hatl lok lkp lrus oC oN oP hlen hLess e2 R R2 HR3
              generalize ptsP (goP N (pick rs (C.eraseIdx k))).1 N = P2 at *
              go_wp2_with fail
              refine (unhide HSP2).mono ?_
              rintro e W8 ⟨z1, z2, rfl, hz1, _, _, hb8⟩
              obtain ⟨g8, c8, rfl, _, hg8, hi8, _, _⟩ := hz1.full (by omega)
              have HKA3 := hide (unhide HKA2 g8 c8 W8 hb8 hg8 hi8)
              have HB9 := hide (bc (unhide HB8) hb8)
              clear hz1 hi8 hb8 HKA2 HSP2
              go_wp2_with fail
              refine (unhide HKA3).mono ?_
              rintro e W9 ⟨rfl, hb9⟩
              have HB10 := hide (bc (unhide HW7) (bc (unhide HB9) hb9))
              clear hb9
              go_wp2_with fail
              go_roundw
              case rel => first | exact ⟨k + 1, by simp, by omega, unhide HB10⟩ | ((repeat apply Exists.intro); refine ⟨?_, rfl⟩; exact ⟨k + 1, by simp, by omega, unhide HB10⟩)
              case measure => simp only [intOf]; omega
          · have kz : decide ((k : Int) < (C.length : Int)) = false := decide_eq_false (by omega)
            go_wp2_with fail
            go_ret
            exact ⟨rfl, bc (unhide HB1) (bc (unhide HB5) (bc (unhide HB6w) (unhide HW7)))⟩
end Go.Proofs.Ytchdmigeopmacaa
