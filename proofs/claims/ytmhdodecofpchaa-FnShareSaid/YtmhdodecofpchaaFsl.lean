/-
  FnShare: the walk.
-/
import Derived.Test.YtmhdodecofpchaaFsMath
import Derived.Test.YtmhdodecofpchaaLinksD
import Derived.Test.YtmhdodecofpchaaAtS
namespace Go.Proofs.Ytmhdodecofpchaa
open Go.ChangeShapes Go.WideShapes Go.ChangeAt Go.RowKit
set_option linter.unusedVariables false
set_option linter.unusedSimpArgs false

set_option maxHeartbeats 1000000 in
theorem linksOf_any (a : Option Addr) (len cap : Nat) (zs : List Int) (w : World) (hc : Code w.heap.size w a len cap zs) (hl : len ≤ 1048576) :
    Calls Try.prog 8 #[.slice a len cap] w fun e w' => ∃ u q c ls, e = .returned (.slice u ls.length c) ∧ Lks w' u q 0 ls ∧ w.heap.size ≤ q ∧ Right ls ∧ Below w.heap.size w w' := by
  have HS := hide (source_any a len cap zs w hc (by omega))
  clear hc
  go_enter Try.func8, Try.ntmps8
  go_wp2_with fail
  refine (unhide HS).mono ?_
  rintro e W1 ⟨rfl, hb, hso⟩
  have HD := hide (linksD_any w.heap.size w.heap.size 0 W1 hso (by omega))
  have HB := hide hb
  clear hb hso
  go_wp2_with fail
  refine (unhide HD).mono ?_
  rintro e W2 ⟨u, q, c, ls, rfl, h1, h2, h3, h4⟩
  have H1 := hide h1
  have H2 := hide (Nat.le_trans (unhide HB).size h2)
  have H3 := hide h3
  have H4 := hide (Mv.bel (unhide HB) h4 (Nat.le_refl _) (unhide HB).size)
  clear h1 h2 h3 h4
  go_wp2_with fail
  go_ret
  exact ⟨u, q, c, ls, rfl, unhide H1, unhide H2, unhide H3, unhide H4⟩

set_option maxHeartbeats 1000000 in
/-- a part in the proportion -/
theorem near_any (x y T W : Int) (w : World) (h1 : y * W - T * x < W) (h2 : -W < y * W - T * x) (h3 : x = 0 → y = 0) (hx : 0 ≤ x ∧ x ≤ 100000) (hT : 0 ≤ T ∧ T ≤ 90) (hW : 0 < W ∧ W ≤ 8000000) :
    Calls Try.prog 12 #[.int .i64 x, .int .i64 y, .int .i64 T, .int .i64 W] w fun e w' => e = .returned (.bool true) ∧ w' = w := by
  have t0 : 0 ≤ T * x := Int.mul_nonneg hT.1 hx.1
  have t1 : T * x ≤ 9000000 := by
    have a := Int.mul_le_mul_of_nonneg_right hT.2 hx.1
    have b := Int.mul_le_mul_of_nonneg_left hx.2 (show (0 : Int) ≤ 90 by omega)
    omega
  have e1 : wrap64 (y * W) = y * W := by unfold wrap64; omega
  have e2 : wrap64 (T * x) = T * x := by unfold wrap64; omega
  have e3 : wrap64 (y * W - T * x) = y * W - T * x := by unfold wrap64; omega
  have e4 : IntKind.i64.wrap (y * W) = y * W := by rw [IntKind.wrap_i64]; omega
  have e5 : IntKind.i64.wrap (T * x) = T * x := by rw [IntKind.wrap_i64]; omega
  have e6 : IntKind.i64.wrap (y * W - T * x) = y * W - T * x := by rw [IntKind.wrap_i64]; omega
  have d1 : decide (y * W - T * x < W) = true := decide_eq_true h1
  have d2 : decide (-W < y * W - T * x) = true := decide_eq_true h2
  obtain ⟨hW0, hW1⟩ := hW
  by_cases hx0 : 0 < x
  · have d3 : decide (0 < x) = true := decide_eq_true hx0
    go_enter Try.func12, Try.ntmps12
    go_wp2
    go_ret
    exact ⟨rfl, rfl⟩
  · have d3 : decide (0 < x) = false := decide_eq_false hx0
    have hy := h3 (by omega)
    have d4 : (y == 0) = true := by rw [beq_iff_eq]; exact hy
    clear h3 hy
    go_enter Try.func12, Try.ntmps12
    go_wp2
    go_ret
    exact ⟨rfl, rfl⟩

set_option maxHeartbeats 4000000 in
set_option maxRecDepth 100000 in
theorem fnShare_core (a1 : Option Addr) (len1 cap1 : Nat) (a2 : Option Addr) (len2 cap2 : Nat) (w : World) (hl1 : len1 ≤ 1048576) (hl2 : len2 ≤ 1048576)
    (HLK : Hid (Calls Try.prog 8 #[.slice a1 len1 cap1] w fun e w' => ∃ u q c ls, e = .returned (.slice u ls.length c) ∧ Lks w' u q 0 ls ∧ w.heap.size ≤ q ∧ Right ls ∧ Below w.heap.size w w'))
    (HAT : Hid (∀ i n : Int, (0 ≤ i ∧ i ≤ 100) → (1 < n ∧ n ≤ 1000) → ∃ r : Int, 0 ≤ r ∧ r < n ∧ ∀ W, Below w.heap.size w W → Calls Try.prog 9 #[.slice a2 len2 cap2, .int .i64 i, .int .i64 n] W fun e w' => e = .returned (.int .i64 r) ∧ Same W w')) :
    Calls Try.prog 3 #[.slice a1 len1 cap1, .slice a2 len2 cap2] w fun e w' => e = .returned (.bool true) ∧ Below w.heap.size w w' := by
  obtain ⟨T, hT0, hT1, hat⟩ := unhide HAT 0 90 (by omega) (by omega)
  have HT := hide hat
  clear hat HAT
  go_enter Try.func3, Try.ntmps3
  go_wp2_with fail
  refine (unhide HLK).mono ?_
  rintro e W1 ⟨u, q, c, ls, rfl, hlk, hq, hr, hb1⟩
  have hn0 := hr.1
  have hn1 := hr.2.1
  obtain ⟨rfl, hqw, hla⟩ := hlk (fun e => by rw [e] at hn0; simp at hn0)
  have hrb := rightB_true hr
  have hcode : lkCode ls = 0 := by simp [lkCode, hrb]; omega
  have HP := hide (fun (W : World) (hW : Below W1.heap.size W1 W) => soP_any (some ⟨q, 0, none⟩) q 0 ls.length c T ls W rfl (by omega) (nm_size hr) (hlk.bel hW))
  have HM := hide (fun (W : World) (hW : Below W1.heap.size W1 W) => soM_any (some ⟨q, 0, none⟩) q 0 ls.length c T ls W rfl (by omega) (nm_size hr) (hlk.bel hW))
  have hW0 : 0 ≤ sumL (wts ls) := sumL_ge (fun x hx => (wts_mem hr.2.2.1 x hx).1)
  have hWm : sumL (wts ls) ≤ 8000000 := by
    have := sumL_le (L := wts ls) (b := 100000) (fun x hx => (wts_mem hr.2.2.1 x hx).2)
    rw [wts_len] at this
    omega
  have HC : Hid (soC T ls = if sumL (wts ls) = 0 then 11 else 0) := hide (by unfold soC; rw [if_neg (by rw [hcode]; simp), if_neg (by simp; omega)])
  have HSD : Hid (sumL (wts ls) ≠ 0 → soL T ls = putTo ls (soSh T ls) ls.length ∧ Shd T (sumL (wts ls)) ls (putTo ls (soSh T ls) ls.length)) := hide (fun h => ⟨by unfold soL; rw [unhide HC, if_neg h, if_pos rfl], so_shd hr hT0 (by omega)⟩)
  have HS0 : Hid (sumL (wts ls) = 0 → soL T ls = []) := hide (fun h => by unfold soL; rw [unhide HC, if_pos h, if_neg (by omega)])
  have HLK := hide hla
  have HRT := hide hr.2.2.1
  have HB1 := hide hb1
  have HRM := hide (wts_mem hr.2.2.1)
  clear hlk hla hr hrb hb1 hcode
  go_wp2_with fail
  refine (unhide HT _ (unhide HB1)).mono ?_
  rintro e W2 ⟨rfl, hs2⟩
  have HC2 := hide (Same.bel (B := W1.heap.size) hs2)
  have HB2 := hide (bc (unhide HB1) hs2.bel)
  clear hs2
  go_wp2_with fail
  refine (unhide HP _ (unhide HC2)).mono ?_
  rintro e W3 ⟨⟨v2, rfl, ho2⟩, hb3⟩
  have HC3 := hide (bc (unhide HC2) hb3)
  have HB3 := hide (bc (unhide HB2) hb3)
  have HO := hide ho2
  clear hb3 ho2
  go_wp2_with fail
  refine (unhide HM _ (unhide HC3)).mono ?_
  rintro e W4 ⟨⟨v1, rfl, _⟩, hb4⟩
  have HC4 := hide (bc (unhide HC3) hb4)
  have HB4 := hide (bc (unhide HB3) hb4)
  obtain ⟨u2, c2, rfl, hx2⟩ := unhide HO
  by_cases hs : sumL (wts ls) = 0
  · have e1 : soC T ls = 11 := by rw [unhide HC, if_pos hs]
    have e2 : soL T ls = [] := unhide HS0 hs
    rw [e1, e2]
    clear hx2 hb4 HP HM
    go_wp2_with fail
    go_ret
    exact ⟨rfl, unhide HB4⟩
  · have e1 : soC T ls = 0 := by rw [unhide HC, if_neg hs]
    obtain ⟨e2, hsd⟩ := unhide HSD hs
    have hFl : (soL T ls).length = ls.length := by rw [e2, putTo_len]
    rw [← e2] at hsd
    obtain ⟨g, rfl, hlr⟩ := hx2 (fun e => by rw [e] at hFl; simp at hFl; omega)
    have hlr4 := hlr.bel hb4
    rw [hFl] at hlr4 ⊢
    rw [e1]
    have HSH := hide hsd
    have HLR := hide hlr4
    have hWp : 0 < sumL (wts ls) := by omega
    have HFL := hide hFl
    clear hx2 hlr hlr4 hb4 HP HM HC HSD HS0 HO e1 e2 hsd hs hFl
    generalize soL T ls = F at *
    obtain ⟨n, hnl⟩ : ∃ n, ls.length = n := ⟨_, rfl⟩
    have HNL := hide hnl
    rw [hnl] at hn0 hn1 HFL HLR ⊢
    clear hnl
    have HWT : Hid (∀ i, 0 ≤ sumL (wts (ls.take i)) ∧ sumL (wts (ls.take i)) ≤ sumL (wts ls)) := hide (fun i => wts_take_le (fun x hx => (unhide HRM x hx).1) i)
    have HFT : Hid (∀ i, 0 ≤ sumL (wts (F.take i)) ∧ sumL (wts (F.take i)) ≤ T) := hide (fun i => by have := wts_take_le (unhide HSH).nn i; rw [(unhide HSH).sum] at this; exact this)
    go_wp2_with fail
    go_loopw [11, 12, 13] (fun s t z W => ∃ i : Nat, s = .int .i64 (sumL (wts (F.take i))) ∧ t = .int .i64 (sumL (wts (ls.take i))) ∧ z = .int .i64 (i : Int) ∧ i ≤ n ∧ Same W4 W) (fun _ _ z _ => n - (intOf z).toNat)
    case atStart => exact ⟨0, by simp [wts, sumL], by simp [wts, sumL], rfl, Nat.zero_le _, Same.refl _⟩
    case round =>
      obtain ⟨i, rfl, rfl, rfl, hi, hsm⟩ := hrel
      have HSM := hide hsm
      clear hsm
      by_cases h : i < n
      · have i1 : (i : Int) < (n : Int) := by omega
        have i0 : (0 : Int) ≤ (i : Int) := Int.natCast_nonneg _
        have iz : decide ((i : Int) < (n : Int)) = true := decide_eq_true i1
        obtain ⟨⟨nm, a, b, x, y⟩, hx⟩ := get_some (unhide HNL) h
        obtain ⟨py, pz, hF, _, _⟩ := (unhide HSH).each i _ hx
        obtain ⟨l0, l1, l2, l3, l4⟩ := (unhide HLK) i _ hx
        have m3 := (keep1 (unhide HC4) l3)
        have m4 := (keep1 (unhide HC4) l4)
        obtain ⟨f0, f1, f2, f3, f4⟩ := flat5_at hF
        have n3 := (unhide HLR).cell f3
        have n4 := (unhide HLR).cell f4
        simp only [Nat.zero_add] at m3 m4 n3 n4
        rw [← (unhide HSM).cell] at m3 m4 n3 n4
        have s1 : sumL (wts (F.take (i + 1))) = sumL (wts (F.take i)) + (py + pz) := by rw [wts_succ hF, sumL_app]; simp [sumL_cons, sumL_nil]
        have s2 : sumL (wts (ls.take (i + 1))) = sumL (wts (ls.take i)) + (x + y) := by rw [wts_succ hx, sumL_app]; simp [sumL_cons, sumL_nil]
        have b1 := unhide HFT i
        have b2 := unhide HFT (i + 1)
        have b3 := unhide HWT i
        have b4 := unhide HWT (i + 1)
        rw [s1] at b2
        rw [s2] at b4
        have HS1 := hide s1
        have HS2 := hide s2
        have k1 : 0 ≤ py := (unhide HSH).nn py (List.mem_of_getElem? (wts_at hF).1)
        have k2 : 0 ≤ pz := (unhide HSH).nn pz (List.mem_of_getElem? (wts_at hF).2)
        have k3 := unhide HRM x (List.mem_of_getElem? (wts_at hx).1)
        have k4 := unhide HRM y (List.mem_of_getElem? (wts_at hx).2)
        clear hx hF l0 l1 l2 l3 l4 f0 f1 f2 f3 f4 s1 s2
        generalize sumL (wts (F.take i)) = sF at *
        generalize sumL (wts (ls.take i)) = sL at *
        have e1 : IntKind.i64.wrap (py + pz) = py + pz := wrap_i (by omega) (by omega)
        have e2 : IntKind.i64.wrap (sF + (py + pz)) = sF + (py + pz) := wrap_i (by omega) (by omega)
        have e3 : IntKind.i64.wrap (x + y) = x + y := wrap_i (by omega) (by omega)
        have e4 : IntKind.i64.wrap (sL + (x + y)) = sL + (x + y) := wrap_i (by omega) (by omega)
        obtain ⟨b1a, b1b⟩ := b1
        obtain ⟨b2a, b2b⟩ := b2
        obtain ⟨b3a, b3b⟩ := b3
        obtain ⟨b4a, b4b⟩ := b4
        obtain ⟨k3a, k3b⟩ := k3
        obtain ⟨k4a, k4b⟩ := k4
        go_wp2_with fail
        go_quiet (fail)
        go_wp2_with fail
        go_quiet (fail)
        go_wp2_with fail
        go_roundw
        case rel =>
          refine ⟨i + 1, ?_, ?_, by simp, h, ?_⟩
          · rw [unhide HS1]; (try rw [e1]); (try rw [e2])
          · rw [unhide HS2]; (try rw [e3]); (try rw [e4])
          · exact ⟨(unhide HSM).os, (unhide HSM).tape, (unhide HSM).output, (unhide HSM).heap⟩
        case measure => simp only [intOf]; omega
      · have i1 : ¬ (i : Int) < (n : Int) := by omega
        have iz : decide ((i : Int) < (n : Int)) = false := decide_eq_false i1
        have en : i = n := by omega
        subst en
        have et1 : F.take i = F := List.take_of_length_le (by rw [unhide HFL]; omega)
        have et2 : ls.take i = ls := List.take_of_length_le (by rw [unhide HNL]; omega)
        rw [et1, et2, (unhide HSH).sum]
        have tt : (T != T) = false := by simp
        have HB5 := hide (bc (unhide HB4) (unhide HSM).bel)
        have HC5 := hide (bc (unhide HC4) (unhide HSM).bel)
        have HLR5 := hide ((unhide HLR).bel (unhide HSM).bel)
        clear HWT HFT et1 et2 HLR HSM
        generalize hWW : sumL (wts ls) = WW at *
        clear hWW
        go_wp2_with fail
        go_loopw [14] (fun z W => ∃ j : Nat, z = .int .i64 (j : Int) ∧ j ≤ i ∧ Below wr.heap.size wr W) (fun z _ => i - (intOf z).toNat)
        case atStart => exact ⟨0, rfl, Nat.zero_le _, Below.refl _ _⟩
        case round =>
          obtain ⟨j, rfl, hj, hw⟩ := hrel
          have HW := hide hw
          by_cases h2 : j < i
          · have j1 : (j : Int) < (i : Int) := by omega
            have j0 : (0 : Int) ≤ (j : Int) := Int.natCast_nonneg _
            have jz : decide ((j : Int) < (i : Int)) = true := decide_eq_true j1
            obtain ⟨⟨nm, a, b, x, y⟩, hx⟩ := get_some (unhide HNL) h2
            obtain ⟨py, pz, hF, hy1, hz1⟩ := (unhide HSH).each j _ hx
            obtain ⟨l0, l1, l2, l3, l4⟩ := (unhide HLK) j _ hx
            obtain ⟨f0, f1, f2, f3, f4⟩ := flat5_at hF
            have hh := bc (unhide HC5) hw
            have m0 := keep1 hh l0
            have m1 := keep1 hh l1
            have m2 := keep1 hh l2
            have m3 := keep1 hh l3
            have m4 := keep1 hh l4
            have hl6 := (unhide HLR5).bel hw
            have n0 := hl6.cell f0
            have n1 := hl6.cell f1
            have n2 := hl6.cell f2
            have n3 := hl6.cell f3
            have n4 := hl6.cell f4
            simp only [Nat.zero_add] at m0 m1 m2 m3 m4 n0 n1 n2 n3 n4
            have hgl := cell_lt n0
            have hql := cell_lt m0
            have k3 := unhide HRM x (List.mem_of_getElem? (wts_at hx).1)
            have k4 := unhide HRM y (List.mem_of_getElem? (wts_at hx).2)
            have HN1 := hide (fun W => near_any x py T WW W hy1.1 hy1.2.1 hy1.2.2 k3 (by omega) (by omega))
            have HN2 := hide (fun W => near_any y pz T WW W hz1.1 hz1.2.1 hz1.2.2 k4 (by omega) (by omega))
            have s1 : (nm.toList != nm.toList) = false := by rw [bne_eq_false_iff_eq]
            have s2 : (nm.toList == nm.toList) = true := by rw [beq_iff_eq]
            have aa : (a != a) = false := by simp
            have bb : (b != b) = false := by simp
            clear hx hF hy1 hz1 l0 l1 l2 l3 l4 f0 f1 f2 f3 f4 hh hl6 k3 k4 hw
            go_wp2_with fail
            refine (unhide HN1 _).mono ?_
            rintro e W7 ⟨rfl, hW7⟩
            have hW7' := hW7.symm
            subst hW7'
            go_wp2_with fail
            refine (unhide HN2 _).mono ?_
            rintro e W8 ⟨rfl, hW8⟩
            have hW8' := hW8.symm
            subst hW8'
            go_wp2_with fail
            go_roundw
            case rel => exact ⟨j + 1, by simp, h2, ba (ba (unhide HW) _) _⟩
            case measure => simp only [intOf]; omega
          · have j1 : ¬ (j : Int) < (i : Int) := by omega
            have jz : decide ((j : Int) < (i : Int)) = false := decide_eq_false j1
            go_wp2_with fail
            go_ret
            exact ⟨rfl, bc (unhide HB5) (unhide HW)⟩
end Go.Proofs.Ytmhdodecofpchaa
