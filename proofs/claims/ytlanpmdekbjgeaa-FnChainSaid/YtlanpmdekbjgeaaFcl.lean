/-
  FnChain's walk: drawn links, their corners, bounds that are safe and likely.
-/
import Derived.Test.YtlanpmdekbjgeaaLinksD
import Derived.Deep.RegionWith
import Derived.Test.YtlanpmdekbjgeaaAtS
import Derived.Test.YtlanpmdekbjgeaaFcMath
import Derived.Test.YtlanpmdekbjgeaaChOfM
import Derived.Test.YtlanpmdekbjgeaaLikM
import Derived.Test.YtlanpmdekbjgeaaLikP
import Derived.Test.YtlanpmdekbjgeaaSafeP
import Derived.Test.YtlanpmdekbjgeaaItRows
namespace Go.Proofs.Ytlanpmdekbjgeaa
open Go.ChangeShapes Go.WideShapes Go.ChangeAt Go.RowKit
set_option linter.unusedVariables false
set_option linter.unusedSimpArgs false

theorem neqC (a b c d : Int) (W : World) : (binOp .neq 26 (.agg #[.int .i64 a, .int .i64 b, .int .i64 c, .int .i64 d]) (.agg #[.int .i64 a, .int .i64 b, .int .i64 c, .int .i64 d])).run Try.prog W = .ok (.bool false) W := by
  have e1 : (a == a) = true := by simp
  have e2 : (b == b) = true := by simp
  have e3 : (c == c) = true := by simp
  have e4 : (d == d) = true := by simp
  go_simp

set_option maxHeartbeats 1000000 in
theorem linksOf_any (a : Option Addr) (len cap : Nat) (zs : List Int) (w : World) (hc : Code w.heap.size w a len cap zs) (hl : len ≤ 1048576) :
    Calls Try.prog 9 #[.slice a len cap] w fun e w' => ∃ u q c ls, e = .returned (.slice u ls.length c) ∧ Lks w' u q 0 ls ∧ w.heap.size ≤ q ∧ Right ls ∧ Below w.heap.size w w' := by
  have HS := hide (source_any a len cap zs w hc (by omega))
  clear hc
  go_enter Try.func9, Try.ntmps9
  go_wp2_with fail
  refine (unhide HS).mono ?_
  rintro e W1 ⟨rfl, hb, hso⟩
  have HD := hide (linksD_any w.heap.size w.heap.size 0 W1 hso (by omega))
  have HB := hide hb
  clear hb hso
  go_wp2_with fail
  refine (unhide HD).mono ?_
  rintro e W2 ⟨u, q, c, ls, rfl, h1, h2, h3, h4⟩
  have H1 := hide h1
  have H2 := hide (Nat.le_trans (unhide HB).size h2)
  have H3 := hide h3
  have H4 := hide (Mv.bel (unhide HB) h4 (Nat.le_refl _) (unhide HB).size)
  clear h1 h2 h3 h4
  go_wp2_with fail
  go_ret
  exact ⟨u, q, c, ls, rfl, unhide H1, unhide H2, unhide H3, unhide H4⟩
theorem list_get {l : List Value} {q : Nat} {x : Int} (h : l[q]? = some (.int .i64 x)) : ∀ hq : q < l.length, l[q]'hq = .int .i64 x := by
  intro hq
  rw [List.getElem?_eq_getElem hq] at h
  simpa using h
theorem cell_sm {w w' : World} (h : Same w w') {a : Addr} {v : Value} (hc : w.cell? a = some v) : w'.cell? a = some v := (h.cell a).trans hc
theorem cell_dr {w : World} {a : Addr} {v : Value} (hc : w.cell? a = some v) : w.drew.cell? a = some v := hc
theorem Lks.al {w : World} {u : Option Addr} {p po : Nat} {ls : List Lk} (h : Lks w u p po ls) (o : Obj) : Lks (w.alloc o) u p po ls := h.bel (ba (Below.refl _ _) o)
theorem Lks.sm {w w' : World} {u : Option Addr} {p po : Nat} {ls : List Lk} (h : Lks w u p po ls) (hs : Same w w') : Lks w' u p po ls := h.bel hs.bel
theorem Lks.dr {w : World} {u : Option Addr} {p po : Nat} {ls : List Lk} (h : Lks w u p po ls) : Lks w.drew u p po ls := h.bel (Below.drew (Below.refl _ _))

/-- the three sizes of a link, with their least and greatest -/
theorem three_at (s : ByteArray) (a b c d : Int) (h : a = 1 ∨ a = -1) (g2 : -100000 ≤ b) (g3 : b ≤ 100000) (g4 : 0 ≤ c) (g5 : c ≤ 100000) (g6 : 0 ≤ d) (g7 : d ≤ 100000) :
    ∃ U D M vl vh : Int, a * (b + c) = U ∧ a * (b - d) = D ∧ a * b = M ∧ (if D < U then D else U) = vl ∧ (if U < D then D else U) = vh ∧ -200000 ≤ vl ∧ vl ≤ U ∧ vl ≤ D ∧ vl ≤ M ∧ U ≤ vh ∧ D ≤ vh ∧ M ≤ vh ∧ vh ≤ 200000 ∧ -200000 ≤ vh ∧ vl ≤ 200000 ∧ vl = lo ⟨s, a, b, c, d⟩ ∧ vh = hi ⟨s, a, b, c, d⟩ := by
  refine ⟨_, _, _, _, _, rfl, rfl, rfl, rfl, rfl, ?_⟩
  rcases h with rfl | rfl
  · simp only [lo, hi, Int.one_mul, Int.neg_mul]
    refine ⟨?_, ?_, ?_, ?_, ?_, ?_, ?_, ?_, ?_, ?_, ?_, ?_⟩
    all_goals first | omega | (split <;> omega) | (simp; omega) | (simp; split <;> omega)
  · simp only [lo, hi, Int.one_mul, Int.neg_mul]
    refine ⟨?_, ?_, ?_, ?_, ?_, ?_, ?_, ?_, ?_, ?_, ?_, ?_⟩
    all_goals first | omega | (split <;> omega) | (simp; omega) | (simp; split <;> omega)

set_option maxHeartbeats 8000000 in
set_option maxRecDepth 100000 in
theorem fnChain_core (a1 : Option Addr) (len1 cap1 : Nat) (a2 : Option Addr) (len2 cap2 : Nat) (w : World) (hl1 : len1 ≤ 1048576) (hl2 : len2 ≤ 1048576)
    (HLK : Hid (Calls Try.prog 9 #[.slice a1 len1 cap1] w fun e w' => ∃ u q c ls, e = .returned (.slice u ls.length c) ∧ Lks w' u q 0 ls ∧ w.heap.size ≤ q ∧ Right ls ∧ Below w.heap.size w w'))
    (HAT : Hid (∀ i n : Int, (0 ≤ i ∧ i ≤ 100) → (1 < n ∧ n ≤ 1000) → ∃ r : Int, 0 ≤ r ∧ r < n ∧ ∀ W, Below w.heap.size w W → Calls Try.prog 12 #[.slice a2 len2 cap2, .int .i64 i, .int .i64 n] W fun e w' => e = .returned (.int .i64 r) ∧ Same W w')) :
    Calls Try.prog 3 #[.slice a1 len1 cap1, .slice a2 len2 cap2] w fun e w' => e = .returned (.bool true) ∧ Below w.heap.size w w' := by
  have z1 : decide ((1048576 : Int) < (len1 : Int)) = false := decide_eq_false (by omega)
  have z2 : decide ((1048576 : Int) < (len2 : Int)) = false := decide_eq_false (by omega)
  obtain ⟨p20, p20a, p20b, h20⟩ := unhide HAT 20 7 (by omega) (by omega)
  obtain ⟨p21, p21a, p21b, h21⟩ := unhide HAT 21 7 (by omega) (by omega)
  have H20 := hide h20
  have H21 := hide h21
  clear h20 h21
  have hneq := neqC
  go_enter Try.func3, Try.ntmps3
  go_wp2_with fail
  refine (unhide HLK).mono ?_
  rintro e W1 ⟨u, q, c, ls, rfl, hlk, hq, hr, hb1⟩
  have HB1 := hide hb1
  have HL1 := hide hlk
  have HRT := hide hr
  have hn1 := hr.1
  have hn2 := hr.2.1
  have hrB := rightB_true hr
  have HSZ := hide (nm_size hr)
  have hcode : lkCode ls = 0 := by simp [lkCode, hrB]; omega
  have eL : chL ls = sumBy lo ls := by simp [chL, hrB]
  have eM : chM ls = sumBy hi ls := by simp [chM, hrB]
  have eQ : chQ ls = sumBy sq ls := by simp [chQ, hrB]
  have HP := hide (chOfP_any u q 0 ls.length c ls W1 rfl (by omega) (nm_size hr) hlk)
  rw [hcode, eL, eM, eQ] at HP
  have HM := hide (fun (W : World) (hW : Below W1.heap.size W1 W) => chOfM_any u q 0 ls.length c ls W rfl (by omega) (nm_size hr) (hlk.bel hW))
  rw [hcode, eL, eM, eQ] at HM
  obtain ⟨s0, s1, s2, s3, s4, s5⟩ := sum_small hr ls.length (Nat.le_refl _)
  rw [List.take_length] at s0 s1 s2 s3 s4 s5
  have HsL : Hid (∀ i, i ≤ ls.length → -8000000 ≤ sumBy lo (ls.take i) ∧ sumBy lo (ls.take i) ≤ 4000000 ∧ -4000000 ≤ sumBy hi (ls.take i) ∧ sumBy hi (ls.take i) ≤ 8000000) := hide (fun i hi => by have := sum_small hr i hi; omega)
  have hcodeH := hide hcode
  have hrH := hide hrB
  have eLH := hide eL
  have eMH := hide eM
  have eQH := hide eQ
  clear hlk hb1 hr hrB hcode eL eM eQ
  generalize hvL : sumBy lo ls = vL at *
  generalize hvM : sumBy hi ls = vM at *
  generalize hvQ : sumBy sq ls = vQ at *
  have HvL := hide hvL
  have HvM := hide hvM
  have HvQ := hide hvQ
  clear hvL hvM hvQ
  generalize hnn : ls.length = n at *
  have HNN := hide hnn
  clear hnn
  go_wp2_with fail
  refine (unhide HP).mono ?_
  rintro e W2 ⟨rfl, hb2⟩
  have HB2 := hide (bc (unhide HB1) hb2)
  have HL2 := hide ((unhide HL1).bel hb2)
  have HM2 := hide (unhide HM _ (ba hb2 (.cells #[.int .i64 vL, .int .i64 vM, .int .i64 (vL + vM), .int .i64 vQ] 26)))
  clear hb2 HP HM
  go_wp2_with fail
  refine (unhide HM2).mono ?_
  rintro e W3 ⟨rfl, hb3⟩
  have r0 := keep1 hb3 (b := W2.heap.size) (o := 0) (v := .int .i64 vL) (by simp [go_sem])
  have r1 := keep1 hb3 (b := W2.heap.size) (o := 1) (v := .int .i64 vM) (by simp [go_sem])
  have r2 := keep1 hb3 (b := W2.heap.size) (o := 2) (v := .int .i64 (vL + vM)) (by simp [go_sem])
  have r3 := keep1 hb3 (b := W2.heap.size) (o := 3) (v := .int .i64 vQ) (by simp [go_sem])
  have rlt := cell_lt r0
  have HB3 := hide (bc (ba (unhide HB2) _) hb3)
  have HL3 := hide (((unhide HL2).al _).bel hb3)
  clear hb3
  generalize hAA : W2.heap.size = A at *
  clear hAA
  have x1 : (vL + vM != vL + vM) = false := by simp
  have R0 := hide (ka (o := .cells #[.int .i64 vL, .int .i64 vM, .int .i64 (vL + vM), .int .i64 vQ] 26) r0)
  have R1 := hide (ka (o := .cells #[.int .i64 vL, .int .i64 vM, .int .i64 (vL + vM), .int .i64 vQ] 26) r1)
  have HL4 := hide ((unhide HL3).al (.cells #[.int .i64 vL, .int .i64 vM, .int .i64 (vL + vM), .int .i64 vQ] 26))
  have HB4 := hide (ba (unhide HB3) (.cells #[.int .i64 vL, .int .i64 vM, .int .i64 (vL + vM), .int .i64 vQ] 26))
  go_wp2_with fail
  go_loopw [10, 11, 12, 13] (fun sa sb sc sz W => ∃ (i : Nat) (md : Int), sa = .int .i64 (sumBy lo (ls.take i)) ∧ sb = .int .i64 (sumBy hi (ls.take i)) ∧ sc = .int .i64 md ∧ sz = .int .i64 (i : Int) ∧ i ≤ n ∧ sumBy lo (ls.take i) ≤ md ∧ md ≤ sumBy hi (ls.take i) ∧ W.cell? ⟨A, 0, none⟩ = some (.int .i64 vL) ∧ W.cell? ⟨A, 1, none⟩ = some (.int .i64 vM) ∧ Lks W u q 0 ls ∧ Below w.heap.size w W) (fun _ _ _ sz _ => n - (intOf sz).toNat)
  case atStart => exact ⟨0, 0, by simp [sumBy, sumL], by simp [sumBy, sumL], rfl, rfl, Nat.zero_le _, by simp [sumBy, sumL], by simp [sumBy, sumL], unhide R0, unhide R1, unhide HL4, unhide HB4⟩
  case round =>
    obtain ⟨i, md, rfl, rfl, rfl, rfl, hi, hmd0, hmd1, a0, a1', hlk, hw⟩ := hrel
    have HW := hide hw
    have HLk := hide hlk
    have HA0 := hide a0
    have HA1 := hide a1'
    clear hw hlk r0 r1 r2 r3 rlt
    obtain ⟨t0, t1, t2, t3⟩ := unhide HsL i (by have := unhide HNN; omega)
    by_cases h : i < n
    · have i1 : (i : Int) < (n : Int) := by omega
      have i0 : (0 : Int) ≤ (i : Int) := Int.natCast_nonneg _
      have iz : decide ((i : Int) < (n : Int)) = true := decide_eq_true i1
      obtain ⟨⟨s, a, b, cc, d⟩, hx⟩ := get_some (unhide HNN) h
      obtain ⟨rfl, pw, k0, k1, k2, k3, k4⟩ := (unhide HLk).at hx
      simp only [Nat.zero_add] at k0 k1 k2 k3 k4
      have hok := (unhide HRT).2.2.1 _ (List.mem_of_getElem? hx)
      have hlo := hide (sumBy_succ (f := lo) hx)
      have hhi := hide (sumBy_succ (f := Go.Proofs.Ytlanpmdekbjgeaa.hi) hx)
      obtain ⟨p, pa, pb, hp⟩ := unhide HAT (i : Int) 3 (by omega) (by omega)
      have HPC := hide hp
      clear hp hx pw
      generalize sumBy lo (ls.take i) = SL at *
      generalize sumBy Go.Proofs.Ytlanpmdekbjgeaa.hi (ls.take i) = SM at *
      obtain ⟨_, g1, g2, g3, g4, g5, g6, g7⟩ := hok
      simp only at g1 g2 g3 g4 g5 g6 g7
      have HG1 := hide g1
      clear g1
      have hb3 : p = 0 ∨ p = 1 ∨ p = 2 := by omega
      have HP3 := hide hb3
      clear hb3
      obtain ⟨U, D, M, vl, vh, hU, hD, hM, m1, m2, b1, b2, b3, b4, b5, b6, b7, b8, b9, b10, hvl, hvh⟩ := three_at s a b cc d (unhide HG1) g2 g3 g4 g5 g6 g7
      rw [← hvl] at hlo
      rw [← hvh] at hhi
      have wU : IntKind.i64.wrap (a * (b + cc)) = U := by rw [hU]; exact wrap_i (by omega) (by omega)
      have wD : IntKind.i64.wrap (a * (b - d)) = D := by rw [hD]; exact wrap_i (by omega) (by omega)
      have wM : IntKind.i64.wrap (a * b) = M := by rw [hM]; exact wrap_i (by omega) (by omega)
      have n1 : wrap64 (b + cc) = b + cc := by unfold wrap64; omega
      have n2 : wrap64 (b - d) = b - d := by unfold wrap64; omega
      have n3 : IntKind.i64.wrap (b + cc) = b + cc := wrap_i (by omega) (by omega)
      have n4 : IntKind.i64.wrap (b - d) = b - d := wrap_i (by omega) (by omega)
      have vU : wrap64 (a * (b + cc)) = U := by rw [hU]; unfold wrap64; omega
      have vD : wrap64 (a * (b - d)) = D := by rw [hD]; unfold wrap64; omega
      have vM : wrap64 (a * b) = M := by rw [hM]; unfold wrap64; omega
      clear hvl hvh hU hD hM g2 g3 g4 g5 g6 g7 HG1
      obtain ⟨pN, rfl⟩ : ∃ pN : Nat, p = (pN : Int) := ⟨p.toNat, by omega⟩
      obtain ⟨X, hX, hX0, hX1⟩ : ∃ X : Int, ([.int .i64 U, .int .i64 D, .int .i64 M] : List Value)[pN]? = some (.int .i64 X) ∧ vl ≤ X ∧ X ≤ vh := by
        rcases (by omega : pN = 0 ∨ pN = 1 ∨ pN = 2) with e | e | e <;> subst e
        · exact ⟨U, rfl, b2, b5⟩
        · exact ⟨D, rfl, b3, b6⟩
        · exact ⟨M, rfl, b4, b7⟩
      have hget := list_get hX
      have hp3 : pN < 3 := by omega
      have hp0 : (0 : Int) ≤ (pN : Int) := Int.natCast_nonneg _
      have qX : IntKind.i64.wrap (md + X) = md + X := wrap_i (by omega) (by omega)
      have HX := hide hX
      clear hX HP3
      go_wp2_with fail
      go_region_with (first
          | (go_at_call 12; refine (unhide HPC _ (by repeat (first | exact unhide HW | refine ba ?_ _ | refine Below.drew ?_))).mono ?_; rintro e w' ⟨rfl, hs⟩; have hsc := hs.cell; have hsh : w'.heap.size = _ := congrArg Array.size hs.heap; have HSM := hide hs; clear hs))
      all_goals
        go_wp2_with fail
        go_roundw
        case rel =>
          refine ⟨i + 1, md + X, by rw [unhide hlo], by rw [unhide hhi], rfl, by simp, h, by rw [unhide hlo]; omega, by rw [unhide hhi]; omega, ?_, ?_, ?_, ?_⟩
          · repeat (first | exact unhide HA0 | refine ka ?_ | refine cell_sm (unhide HSM) ?_ | refine cell_dr ?_)
          · repeat (first | exact unhide HA1 | refine ka ?_ | refine cell_sm (unhide HSM) ?_ | refine cell_dr ?_)
          · repeat (first | exact unhide HLk | refine Lks.al ?_ _ | refine Lks.sm ?_ (unhide HSM) | refine Lks.dr ?_)
          · repeat (first | exact unhide HW | refine ba ?_ _ | refine bc ?_ (unhide HSM).bel | refine Below.drew ?_)
        case measure => simp only [intOf]; omega
    · have i1 : ¬ (i : Int) < (n : Int) := by omega
      have iz : decide ((i : Int) < (n : Int)) = false := decide_eq_false i1
      have et : ls.take i = ls := List.take_of_length_le (by have := unhide HNN; omega)
      rw [et] at t0 t1 t2 t3 hmd0 hmd1 ⊢
      rw [unhide HvL] at t0 t1 hmd0 ⊢
      rw [unhide HvM] at t2 t3 hmd1 ⊢
      clear et
      have y1 : (vL != vL) = false := by simp
      have y2 : (vM != vM) = false := by simp
      have y3 : decide (md < vL) = false := decide_eq_false (by omega)
      have y4 : decide (vM < md) = false := decide_eq_false (by omega)
      have hAlt := cell_lt a0
      have hLM : vL ≤ vM := by omega
      obtain ⟨fr, hfr⟩ : ∃ fr, fr = vL + p20 - 3 := ⟨_, rfl⟩
      obtain ⟨tt, htt⟩ : ∃ tt, tt = vM + p21 - 3 := ⟨_, rfl⟩
      have f1 : IntKind.i64.wrap (vL + p20) = vL + p20 := wrap_i (by omega) (by omega)
      have f2 : IntKind.i64.wrap (vL + p20 - 3) = fr := by rw [hfr]; exact wrap_i (by omega) (by omega)
      have f3 : IntKind.i64.wrap (vM + p21) = vM + p21 := wrap_i (by omega) (by omega)
      have f4 : IntKind.i64.wrap (vM + p21 - 3) = tt := by rw [htt]; exact wrap_i (by omega) (by omega)
      have HFR := hide hfr
      have HTT := hide htt
      clear hfr htt
      go_wp2_with fail
      go_region_held3 (fun wx => wx.cell? ⟨A, 0, none⟩ = some (.int .i64 vL) ∧ wx.cell? ⟨A, 1, none⟩ = some (.int .i64 vM))
        (simp (maxDischargeDepth := 12) [go_sem, le1, lt1, *])
        (first
        | (go_at_call 12; refine (unhide H20 _ (by repeat (first | exact unhide HW | refine ba ?_ _ | refine Below.drew ?_))).mono ?_; rintro e wa ⟨rfl, hs⟩; have hsc := hs.cell; have hsh : wa.heap.size = _ := congrArg Array.size hs.heap; have HSA := hide hs; clear hs))
      have HWa : Hid (Below w.heap.size w wa) := hide (by repeat (first | exact unhide HW | refine bc ?_ (unhide HSA).bel | refine Below.drew ?_))
      have HLa : Hid (Lks wa u q 0 ls) := hide (by repeat (first | exact unhide HLk | refine Lks.sm ?_ (unhide HSA) | refine Lks.dr ?_))
      have c0 : wa.cell? ⟨A, 0, none⟩ = some (.int .i64 vL) := by repeat (first | exact unhide HA0 | refine cell_sm (unhide HSA) ?_ | refine cell_dr ?_)
      have c1 : wa.cell? ⟨A, 1, none⟩ = some (.int .i64 vM) := by repeat (first | exact unhide HA1 | refine cell_sm (unhide HSA) ?_ | refine cell_dr ?_)
      have C0 := hide c0
      have C1 := hide c1
      clear hsc hsh HW a0 a1'
      go_wp2_with fail
      go_region_held3 (fun wx => wx.cell? ⟨A, 0, none⟩ = some (.int .i64 vL) ∧ wx.cell? ⟨A, 1, none⟩ = some (.int .i64 vM))
        (simp (maxDischargeDepth := 12) [go_sem, le1, lt1, *])
        (first
        | (go_at_call 12; refine (unhide H21 _ (by repeat (first | exact unhide HWa | refine ba ?_ _ | refine Below.drew ?_))).mono ?_; rintro e wb ⟨rfl, hs⟩; have hsc := hs.cell; have hsh : wb.heap.size = _ := congrArg Array.size hs.heap; have HSB := hide hs; clear hs))
      have HWb : Hid (Below w.heap.size w wb) := hide (by repeat (first | exact unhide HWa | refine bc ?_ (unhide HSB).bel | refine Below.drew ?_))
      have HLb : Hid (Lks wb u q 0 ls) := hide (by repeat (first | exact unhide HLa | refine Lks.sm ?_ (unhide HSB) | refine Lks.dr ?_))
      have b0 : wb.cell? ⟨A, 0, none⟩ = some (.int .i64 vL) := by repeat (first | exact unhide C0 | refine cell_sm (unhide HSB) ?_ | refine cell_dr ?_)
      have b1 : wb.cell? ⟨A, 1, none⟩ = some (.int .i64 vM) := by repeat (first | exact unhide C1 | refine cell_sm (unhide HSB) ?_ | refine cell_dr ?_)
      have B0 := hide b0
      have B1 := hide b1
      clear hsc hsh c0 c1 hAlt
      have hSf : safB ls fr tt = decide (fr ≤ vL ∧ vM ≤ tt) := by rw [safB, unhide hrH, unhide eLH, unhide eMH]; rfl
      have hOu : outS ls fr tt = if fr ≤ vL ∧ vM ≤ tt then [] else ls.map (sd (if vL < fr then -1 else 1)) := by rw [outS, if_pos (unhide hrH), unhide eLH, unhide eMH]
      have hLi : likB ls fr tt = lkl (vL + vM) vQ fr tt := by rw [likB, unhide hrH, unhide eLH, unhide eMH, unhide eQH]; rfl
      have HSAFE := hide (safeP_any u q 0 ls.length c fr tt ls wb rfl (by have := unhide HNN; omega) (unhide HSZ) (unhide HLb))
      have HLP := hide (fun (W : World) (hW : Below wb.heap.size wb W) => likP_any u q 0 ls.length c fr tt ls W rfl (by have := unhide HNN; omega) (unhide HSZ) ((unhide HLb).bel hW))
      have HLM := hide (fun (W : World) (hW : Below wb.heap.size wb W) => likM_any u q 0 ls.length c fr tt ls W rfl (by have := unhide HNN; omega) (unhide HSZ) ((unhide HLb).bel hW))
      rw [hSf, hOu, unhide hcodeH, unhide HNN] at HSAFE
      rw [hLi, unhide hcodeH, unhide HNN] at HLP HLM
      have HLY : Hid (fr ≤ vL → vM ≤ tt → lkl (vL + vM) vQ fr tt = true) := hide (fun g1 g2 => by
        have := safe_likely (low := fr) (high := tt) (unhide HRT) (by rw [unhide HvL]; exact g1) (by rw [unhide HvM]; exact g2)
        rwa [unhide HvL, unhide HvM, unhide HvQ] at this)
      clear hSf hOu hLi
      generalize lkl (vL + vM) vQ fr tt = LY at *
      have ly : (LY == LY) = true := by simp
      by_cases hf : fr ≤ vL
      · have k1 : decide (fr ≤ vL) = true := decide_eq_true hf
        by_cases ht : vM ≤ tt
        · have k2 : decide (vM ≤ tt) = true := decide_eq_true ht
          have hly := unhide HLY hf ht
          subst hly
          rw [if_pos ⟨hf, ht⟩, decide_eq_true (show fr ≤ vL ∧ vM ≤ tt from ⟨hf, ht⟩)] at HSAFE
          go_wp2_with fail
          refine (unhide HSAFE).mono ?_
          rintro e Wc ⟨⟨v, q2, kk, rfl, _⟩, hbc⟩
          have d0 := keep1 hbc (b := A) (o := 0) (v := .int .i64 vL) b0
          have d1 := keep1 hbc (b := A) (o := 1) (v := .int .i64 vM) b1
          have HWc := hide (bc (unhide HWb) hbc)
          have HBC := hide hbc
          clear hbc b0 b1
          go_wp2_with fail
          refine (unhide HLP _ (unhide HBC)).mono ?_
          rintro e Wd ⟨rfl, hbd⟩
          have HWd := hide (bc (unhide HWc) hbd)
          have HBD := hide (bc (unhide HBC) hbd)
          clear hbd d0 d1
          go_wp2_with fail
          refine (unhide HLM _ (unhide HBD)).mono ?_
          rintro e We ⟨rfl, hbe⟩
          have HWe := hide (bc (unhide HWd) hbe)
          clear hbe
          go_wp2_with fail
          go_ret
          exact ⟨rfl, unhide HWe⟩
        · have k2 : decide (vM ≤ tt) = false := decide_eq_false ht
          have k3 : decide (fr ≤ vM) = true := decide_eq_true (by omega)
          rw [if_neg (show ¬ (fr ≤ vL ∧ vM ≤ tt) from fun h => ht h.2), if_neg (show ¬ vL < fr by omega), decide_eq_false (show ¬ (fr ≤ vL ∧ vM ≤ tt) from fun h => ht h.2), List.length_map, unhide HNN] at HSAFE
          go_wp2_with fail
          refine (unhide HSAFE).mono ?_
          rintro e Wc ⟨⟨v, q2, kk, rfl, hit⟩, hbc⟩
          have d0 := keep1 hbc (b := A) (o := 0) (v := .int .i64 vL) b0
          have d1 := keep1 hbc (b := A) (o := 1) (v := .int .i64 vM) b1
          have HWc := hide (bc (unhide HWb) hbc)
          have HBC := hide hbc
          have HLc := hide ((unhide HLb).bel hbc)
          have HIT : Hid (Its Wc v q2 0 (ls.map (sd (1)))) := hide (fun _ => ⟨(hit (by omega)).1, (hit (by omega)).2.2.lt, (hit (by omega)).2.2.ints⟩)
          have hnn : ((n : Int) != (n : Int)) = false := by simp
          clear hbc b0 b1 hit
          go_wp2_with fail
          go_loopw [22, 23] (fun sa sz W => ∃ (i : Nat), sa = .int .i64 (sumBy Go.Proofs.Ytlanpmdekbjgeaa.hi (ls.take i)) ∧ sz = .int .i64 (i : Int) ∧ i ≤ n ∧ Lks W u q 0 ls ∧ Its W v q2 0 (ls.map (sd (1))) ∧ Below wb.heap.size wb W ∧ Below w.heap.size w W) (fun _ sz _ => n - (intOf sz).toNat)
          case atStart => exact ⟨0, by simp [sumBy, sumL], rfl, Nat.zero_le _, unhide HLc, unhide HIT, unhide HBC, unhide HWc⟩
          case round =>
            obtain ⟨j, rfl, rfl, hj, hlk, hit, hwb, hw⟩ := hrel
            have HXb := hide hwb
            have HXw := hide hw
            have HXl := hide hlk
            have HXi := hide hit
            clear hwb hw hlk hit d0 d1
            by_cases h : j < n
            · have j1 : (j : Int) < (n : Int) := by omega
              have j0 : (0 : Int) ≤ (j : Int) := Int.natCast_nonneg _
              have jz : decide ((j : Int) < (n : Int)) = true := decide_eq_true j1
              obtain ⟨⟨s, a, b, cc, d⟩, hx⟩ := get_some (unhide HNN) h
              obtain ⟨rfl, pw, k0', k1', k2', k3', k4'⟩ := (unhide HXl).at hx
              obtain ⟨rfl, pw2, l0⟩ := (unhide HXi).at (show (ls.map (sd (1)))[j]? = some (sd (1) ⟨s, a, b, cc, d⟩) by rw [List.getElem?_map, hx]; rfl)
              simp only [Nat.zero_add] at k0' k1' k2' k3' k4' l0
              have hok := (unhide HRT).2.2.1 _ (List.mem_of_getElem? hx)
              have hco := corner_hi hok
              have hsu := sumBy_succ (f := Go.Proofs.Ytlanpmdekbjgeaa.hi) hx
              have hbs := unhide HsL (j + 1) (by have := unhide HNN; omega)
              have hbs0 := unhide HsL j (by have := unhide HNN; omega)
              rw [hsu] at hbs
              have HSU := hide hsu
              obtain ⟨_, g1, g2, g3, g4, g5, g6, g7⟩ := hok
              simp only at g1 g2 g3 g4 g5 g6 g7
              have hcv : sd (1) ⟨s, a, b, cc, d⟩ = 1 ∨ sd (1) ⟨s, a, b, cc, d⟩ = -1 ∨ (sd (1) ⟨s, a, b, cc, d⟩ = 0 ∧ cc = 0 ∧ d = 0) := by
                unfold sd
                simp only
                by_cases hz : cc = 0 ∧ d = 0
                · rw [if_pos hz]; exact .inr (.inr ⟨rfl, hz.1, hz.2⟩)
                · rw [if_neg hz]; omega
              generalize sumBy Go.Proofs.Ytlanpmdekbjgeaa.hi (ls.take j) = S at *
              generalize Go.Proofs.Ytlanpmdekbjgeaa.hi ⟨s, a, b, cc, d⟩ = y at *
              generalize sd (1) ⟨s, a, b, cc, d⟩ = cv at *
              clear hx hsu pw g1
              have n1 : wrap64 (b + cc) = b + cc := by unfold wrap64; omega
              have n2 : wrap64 (b - d) = b - d := by unfold wrap64; omega
              have n3 : IntKind.i64.wrap (b + cc) = b + cc := wrap_i (by omega) (by omega)
              have n4 : IntKind.i64.wrap (b - d) = b - d := wrap_i (by omega) (by omega)
              have HCV := hide hcv
              clear hcv
              rcases unhide HCV with e1 | e1 | ⟨e1, e2, e3⟩
              · subst e1
                have hy : a * (b + cc) = y := hco
                clear hco
                have w1 : wrap64 (a * (b + cc)) = y := by rw [hy]; unfold wrap64; omega
                have w2 : IntKind.i64.wrap (a * (b + cc)) = y := by rw [hy]; exact wrap_i (by omega) (by omega)
                have w3 : IntKind.i64.wrap (S + y) = S + y := wrap_i (by omega) (by omega)
                have w4 : wrap64 (S + y) = S + y := by unfold wrap64; omega
                clear hy
                go_wp2_with fail
                go_roundw
                case rel => exact ⟨j + 1, by rw [unhide HSU], by simp, h, by repeat (first | exact unhide HXl | refine Lks.al ?_ _), (unhide HXi).bel (ba (Below.refl _ _) _), by repeat (first | exact unhide HXb | refine ba ?_ _), by repeat (first | exact unhide HXw | refine ba ?_ _)⟩
                case measure => simp only [intOf]; omega
              · subst e1
                have hy : a * (b - d) = y := hco
                clear hco
                have w1 : wrap64 (a * (b - d)) = y := by rw [hy]; unfold wrap64; omega
                have w2 : IntKind.i64.wrap (a * (b - d)) = y := by rw [hy]; exact wrap_i (by omega) (by omega)
                have w3 : IntKind.i64.wrap (S + y) = S + y := wrap_i (by omega) (by omega)
                have w4 : wrap64 (S + y) = S + y := by unfold wrap64; omega
                clear hy
                go_wp2_with fail
                go_roundw
                case rel => exact ⟨j + 1, by rw [unhide HSU], by simp, h, by repeat (first | exact unhide HXl | refine Lks.al ?_ _), (unhide HXi).bel (ba (Below.refl _ _) _), by repeat (first | exact unhide HXb | refine ba ?_ _), by repeat (first | exact unhide HXw | refine ba ?_ _)⟩
                case measure => simp only [intOf]; omega
              · subst e1 e2 e3
                have hy : a * b = y := hco
                clear hco
                have w1 : wrap64 (a * (b)) = y := by rw [hy]; unfold wrap64; omega
                have w2 : IntKind.i64.wrap (a * (b)) = y := by rw [hy]; exact wrap_i (by omega) (by omega)
                have w3 : IntKind.i64.wrap (S + y) = S + y := wrap_i (by omega) (by omega)
                have w4 : wrap64 (S + y) = S + y := by unfold wrap64; omega
                clear hy
                go_wp2_with fail
                go_roundw
                case rel => exact ⟨j + 1, by rw [unhide HSU], by simp, h, by repeat (first | exact unhide HXl | refine Lks.al ?_ _), (unhide HXi).bel (ba (Below.refl _ _) _), by repeat (first | exact unhide HXb | refine ba ?_ _), by repeat (first | exact unhide HXw | refine ba ?_ _)⟩
                case measure => simp only [intOf]; omega
            · have j1 : ¬ (j : Int) < (n : Int) := by omega
              have jz : decide ((j : Int) < (n : Int)) = false := decide_eq_false j1
              have et : ls.take j = ls := List.take_of_length_le (by have := unhide HNN; omega)
              rw [et, unhide HvM]
              clear et
              go_wp2_with fail
              refine (unhide HLP _ (unhide HXb)).mono ?_
              rintro e Wd ⟨rfl, hbd⟩
              have HWd := hide (bc (unhide HXw) hbd)
              have HBD := hide (bc (unhide HXb) hbd)
              clear hbd
              go_wp2_with fail
              refine (unhide HLM _ (unhide HBD)).mono ?_
              rintro e We ⟨rfl, hbe⟩
              have HWe := hide (bc (unhide HWd) hbe)
              clear hbe
              go_wp2_with fail
              go_ret
              exact ⟨rfl, unhide HWe⟩
      · have k1 : decide (fr ≤ vL) = false := decide_eq_false hf
        rw [if_neg (show ¬ (fr ≤ vL ∧ vM ≤ tt) from fun h => hf h.1), if_pos (show vL < fr by omega), decide_eq_false (show ¬ (fr ≤ vL ∧ vM ≤ tt) from fun h => hf h.1), List.length_map, unhide HNN] at HSAFE
        go_wp2_with fail
        refine (unhide HSAFE).mono ?_
        rintro e Wc ⟨⟨v, q2, kk, rfl, hit⟩, hbc⟩
        have d0 := keep1 hbc (b := A) (o := 0) (v := .int .i64 vL) b0
        have d1 := keep1 hbc (b := A) (o := 1) (v := .int .i64 vM) b1
        have HWc := hide (bc (unhide HWb) hbc)
        have HBC := hide hbc
        have HLc := hide ((unhide HLb).bel hbc)
        have HIT : Hid (Its Wc v q2 0 (ls.map (sd (-1)))) := hide (fun _ => ⟨(hit (by omega)).1, (hit (by omega)).2.2.lt, (hit (by omega)).2.2.ints⟩)
        have hnn : ((n : Int) != (n : Int)) = false := by simp
        clear hbc b0 b1 hit
        go_wp2_with fail
        go_loopw [22, 23] (fun sa sz W => ∃ (i : Nat), sa = .int .i64 (sumBy lo (ls.take i)) ∧ sz = .int .i64 (i : Int) ∧ i ≤ n ∧ Lks W u q 0 ls ∧ Its W v q2 0 (ls.map (sd (-1))) ∧ Below wb.heap.size wb W ∧ Below w.heap.size w W) (fun _ sz _ => n - (intOf sz).toNat)
        case atStart => exact ⟨0, by simp [sumBy, sumL], rfl, Nat.zero_le _, unhide HLc, unhide HIT, unhide HBC, unhide HWc⟩
        case round =>
          obtain ⟨j, rfl, rfl, hj, hlk, hit, hwb, hw⟩ := hrel
          have HXb := hide hwb
          have HXw := hide hw
          have HXl := hide hlk
          have HXi := hide hit
          clear hwb hw hlk hit d0 d1
          by_cases h : j < n
          · have j1 : (j : Int) < (n : Int) := by omega
            have j0 : (0 : Int) ≤ (j : Int) := Int.natCast_nonneg _
            have jz : decide ((j : Int) < (n : Int)) = true := decide_eq_true j1
            obtain ⟨⟨s, a, b, cc, d⟩, hx⟩ := get_some (unhide HNN) h
            obtain ⟨rfl, pw, k0', k1', k2', k3', k4'⟩ := (unhide HXl).at hx
            obtain ⟨rfl, pw2, l0⟩ := (unhide HXi).at (show (ls.map (sd (-1)))[j]? = some (sd (-1) ⟨s, a, b, cc, d⟩) by rw [List.getElem?_map, hx]; rfl)
            simp only [Nat.zero_add] at k0' k1' k2' k3' k4' l0
            have hok := (unhide HRT).2.2.1 _ (List.mem_of_getElem? hx)
            have hco := corner_lo hok
            have hsu := sumBy_succ (f := lo) hx
            have hbs := unhide HsL (j + 1) (by have := unhide HNN; omega)
            have hbs0 := unhide HsL j (by have := unhide HNN; omega)
            rw [hsu] at hbs
            have HSU := hide hsu
            obtain ⟨_, g1, g2, g3, g4, g5, g6, g7⟩ := hok
            simp only at g1 g2 g3 g4 g5 g6 g7
            have hcv : sd (-1) ⟨s, a, b, cc, d⟩ = 1 ∨ sd (-1) ⟨s, a, b, cc, d⟩ = -1 ∨ (sd (-1) ⟨s, a, b, cc, d⟩ = 0 ∧ cc = 0 ∧ d = 0) := by
              unfold sd
              simp only
              by_cases hz : cc = 0 ∧ d = 0
              · rw [if_pos hz]; exact .inr (.inr ⟨rfl, hz.1, hz.2⟩)
              · rw [if_neg hz]; omega
            generalize sumBy lo (ls.take j) = S at *
            generalize lo ⟨s, a, b, cc, d⟩ = y at *
            generalize sd (-1) ⟨s, a, b, cc, d⟩ = cv at *
            clear hx hsu pw g1
            have n1 : wrap64 (b + cc) = b + cc := by unfold wrap64; omega
            have n2 : wrap64 (b - d) = b - d := by unfold wrap64; omega
            have n3 : IntKind.i64.wrap (b + cc) = b + cc := wrap_i (by omega) (by omega)
            have n4 : IntKind.i64.wrap (b - d) = b - d := wrap_i (by omega) (by omega)
            have HCV := hide hcv
            clear hcv
            rcases unhide HCV with e1 | e1 | ⟨e1, e2, e3⟩
            · subst e1
              have hy : a * (b + cc) = y := hco
              clear hco
              have w1 : wrap64 (a * (b + cc)) = y := by rw [hy]; unfold wrap64; omega
              have w2 : IntKind.i64.wrap (a * (b + cc)) = y := by rw [hy]; exact wrap_i (by omega) (by omega)
              have w3 : IntKind.i64.wrap (S + y) = S + y := wrap_i (by omega) (by omega)
              have w4 : wrap64 (S + y) = S + y := by unfold wrap64; omega
              clear hy
              go_wp2_with fail
              go_roundw
              case rel => exact ⟨j + 1, by rw [unhide HSU], by simp, h, by repeat (first | exact unhide HXl | refine Lks.al ?_ _), (unhide HXi).bel (ba (Below.refl _ _) _), by repeat (first | exact unhide HXb | refine ba ?_ _), by repeat (first | exact unhide HXw | refine ba ?_ _)⟩
              case measure => simp only [intOf]; omega
            · subst e1
              have hy : a * (b - d) = y := hco
              clear hco
              have w1 : wrap64 (a * (b - d)) = y := by rw [hy]; unfold wrap64; omega
              have w2 : IntKind.i64.wrap (a * (b - d)) = y := by rw [hy]; exact wrap_i (by omega) (by omega)
              have w3 : IntKind.i64.wrap (S + y) = S + y := wrap_i (by omega) (by omega)
              have w4 : wrap64 (S + y) = S + y := by unfold wrap64; omega
              clear hy
              go_wp2_with fail
              go_roundw
              case rel => exact ⟨j + 1, by rw [unhide HSU], by simp, h, by repeat (first | exact unhide HXl | refine Lks.al ?_ _), (unhide HXi).bel (ba (Below.refl _ _) _), by repeat (first | exact unhide HXb | refine ba ?_ _), by repeat (first | exact unhide HXw | refine ba ?_ _)⟩
              case measure => simp only [intOf]; omega
            · subst e1 e2 e3
              have hy : a * b = y := hco
              clear hco
              have w1 : wrap64 (a * (b)) = y := by rw [hy]; unfold wrap64; omega
              have w2 : IntKind.i64.wrap (a * (b)) = y := by rw [hy]; exact wrap_i (by omega) (by omega)
              have w3 : IntKind.i64.wrap (S + y) = S + y := wrap_i (by omega) (by omega)
              have w4 : wrap64 (S + y) = S + y := by unfold wrap64; omega
              clear hy
              go_wp2_with fail
              go_roundw
              case rel => exact ⟨j + 1, by rw [unhide HSU], by simp, h, by repeat (first | exact unhide HXl | refine Lks.al ?_ _), (unhide HXi).bel (ba (Below.refl _ _) _), by repeat (first | exact unhide HXb | refine ba ?_ _), by repeat (first | exact unhide HXw | refine ba ?_ _)⟩
              case measure => simp only [intOf]; omega
          · have j1 : ¬ (j : Int) < (n : Int) := by omega
            have jz : decide ((j : Int) < (n : Int)) = false := decide_eq_false j1
            have et : ls.take j = ls := List.take_of_length_le (by have := unhide HNN; omega)
            rw [et, unhide HvL]
            clear et
            go_wp2_with fail
            refine (unhide HLP _ (unhide HXb)).mono ?_
            rintro e Wd ⟨rfl, hbd⟩
            have HWd := hide (bc (unhide HXw) hbd)
            have HBD := hide (bc (unhide HXb) hbd)
            clear hbd
            go_wp2_with fail
            refine (unhide HLM _ (unhide HBD)).mono ?_
            rintro e We ⟨rfl, hbe⟩
            have HWe := hide (bc (unhide HWd) hbe)
            clear hbe
            go_wp2_with fail
            go_ret
            exact ⟨rfl, unhide HWe⟩
end Go.Proofs.Ytlanpmdekbjgeaa
