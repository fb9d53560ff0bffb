/-
  The model's ChainSafe.
-/
import Derived.Test.YtlanpmdekbjgeaaChainM
import Derived.Test.YtlanpmdekbjgeaaSfMath
import Derived.Test.YtlanpmdekbjgeaaItRows
import Derived.Test.YtlanpmdekbjgeaaOwn
namespace Go.Proofs.Ytlanpmdekbjgeaa
open Go.ChangeShapes Go.WideShapes Go.ChangeAt Go.RowKit
set_option linter.unusedVariables false
set_option linter.unusedSimpArgs false

theorem info_parts {P : Program} {t : Nat} {z : Value} {k b : Nat} (h : (P.info? t).map (fun i => (i.zero, i.size, i.bytes)) = some (some z, k, b)) : ∃ i, P.info? t = some i ∧ i.zero = some z ∧ i.size = k ∧ i.bytes = b := by
  cases hx : P.info? t with
  | none => rw [hx] at h; simp at h
  | some i =>
    rw [hx] at h
    simp only [Option.map_some, Option.some.injEq, Prod.mk.injEq] at h
    exact ⟨i, rfl, h.1, h.2.1, h.2.2⟩
theorem intM_info : (Try.prog.info? 3).map (fun i => (i.zero, i.size, i.bytes)) = some (some (.int .i64 0), 1, 8) := by kernel_rfl
theorem Row.its {w : World} {B n : Nat} {v : Value} {L : List Int} (h : Row w B 3 1 v n L) : ∃ u q c, v = .slice u n c ∧ Its w u q 0 L := by
  obtain ⟨u, c, hv, hf⟩ := h.form
  by_cases h0 : n = 0
  · refine ⟨u, 0, c, hv, fun h1 => absurd (List.eq_nil_of_length_eq_zero ?_) h1⟩
    have := h.len
    omega
  · obtain ⟨g, h1, _, h3, h4⟩ := hf h0
    exact ⟨u, g, c, hv, fun _ => ⟨h1, h3, h4⟩⟩
theorem its_nil (w : World) (u : Option Addr) (q : Nat) : Its w u q 0 [] := fun h => absurd rfl h
theorem map_take_succ {f : Lk → Int} {ls : List Lk} {i : Nat} {l : Lk} (h : ls[i]? = some l) : (ls.map f).take (i + 1) = (ls.map f).take i ++ [f l] := by
  rw [List.take_add_one, List.getElem?_map, h]
  rfl

set_option maxHeartbeats 4000000 in
set_option maxRecDepth 100000 in
theorem safeM_any (u : Option Addr) (p po n cu : Nat) (low high : Int) (ls : List Lk) (w : World) (hl : ls.length = n) (hn : n ≤ 1048576) (hsz : ∀ l ∈ ls, l.nm.size ≤ 1048576) (hu : Lks w u p po ls) :
    Calls Try.prog 23 #[.slice u n cu, .int .i64 low, .int .i64 high] w fun e w' => (∃ v q k, e = .returned (.tuple #[.bool (safB ls low high), .slice v (outS ls low high).length k, .int .i64 (lkCode ls)]) ∧ Its w' v q 0 (outS ls low high)) ∧ Below w.heap.size w w' := by
  by_cases h0 : 4096 < n
  · have hf := rightB_false (not_right_long (ls := ls) (by omega))
    rw [show safB ls low high = false by simp [safB, hf], show outS ls low high = [] by simp [outS, hf], show lkCode ls = 2 by simp [lkCode]; omega]
    have t0 : decide ((4096 : Int) < (n : Int)) = true := decide_eq_true (by omega)
    go_enter Try.func23, Try.ntmps23
    go_wp2_with fail
    refine bodyPost_ret (v := .tuple #[.bool false, .slice (some ⟨w.heap.size, 0, none⟩) 0 0, .int .i64 2]) (by simp [results, Try.results23, go_sem, *]) rfl ⟨⟨_, 0, 0, rfl, its_nil _ _ _⟩, ba (Below.refl _ _) _⟩
  have t0 : decide ((4096 : Int) < (n : Int)) = false := decide_eq_false (by omega)
  have HM := hide (linksM_any u p po n cu ls w hl hn hsz hu)
  by_cases hr : rightB ls = true
  rotate_left
  · have hf : rightB ls = false := by simpa using hr
    rw [show safB ls low high = false by simp [safB, hf], show outS ls low high = [] by simp [outS, hf], show lkCode ls = 1 by simp [lkCode, hf]; omega]
    rw [hf] at HM
    clear hu hsz hl hr hf
    go_enter Try.func23, Try.ntmps23
    go_wp2_with fail
    refine (unhide HM).mono ?_
    rintro e W1 ⟨rfl, hb1⟩
    have HB1 := hide hb1
    clear hb1
    go_wp2_with fail
    refine bodyPost_ret (v := .tuple #[.bool false, .slice (some ⟨W1.heap.size, 0, none⟩) 0 0, .int .i64 1]) (by simp [results, Try.results23, go_sem, *]) rfl ⟨⟨_, 0, 0, rfl, its_nil _ _ _⟩, ba (unhide HB1) _⟩
  have hR := of_rightB hr
  have n40 : n ≤ 40 := by have := hR.2.1; omega
  have HC := hide (fun (W : World) (hW : Below w.heap.size w W) => chainM_any u p po n cu ls W hl hR (hu.bel hW))
  have hk : lkCode ls = 0 := by simp [lkCode, hr]; omega
  have eL : chL ls = sumBy lo ls := by simp [chL, hr]
  have eM : chM ls = sumBy hi ls := by simp [chM, hr]
  have hS : safB ls low high = decide (low ≤ sumBy lo ls ∧ sumBy hi ls ≤ high) := by simp [safB, hr, eL, eM]
  have hO : outS ls low high = if low ≤ sumBy lo ls ∧ sumBy hi ls ≤ high then [] else ls.map (sd (if sumBy lo ls < low then -1 else 1)) := by simp [outS, hr, eL, eM]
  rw [hS, hO, hk]
  rw [hr] at HM
  have HU := hide hu
  have HL := hide hl
  have HOK := hide hR.2.2.1
  have HLM : Hid (∀ f : Lk → Int, (ls.map f).length = n) := hide (fun f => by rw [List.length_map]; exact hl)
  obtain ⟨iI, hi1, hy0, hy1, hy2⟩ := info_parts intM_info
  clear hu hsz hl hr hR hk hS hO eL eM
  generalize sumBy lo ls + sumBy hi ls = vS at *
  generalize sumBy lo ls = vL at *
  generalize sumBy hi ls = vM at *
  generalize sumBy sq ls = vQ at *
  by_cases h1 : low ≤ vL
  · have t1 : decide (low ≤ vL) = true := decide_eq_true h1
    by_cases h2 : vM ≤ high
    · have t2 : decide (vM ≤ high) = true := decide_eq_true h2
      rw [decide_eq_true (show low ≤ vL ∧ vM ≤ high from ⟨h1, h2⟩), if_pos (show low ≤ vL ∧ vM ≤ high from ⟨h1, h2⟩)]
      go_enter Try.func23, Try.ntmps23
      go_wp2_with fail
      refine (unhide HM).mono ?_
      rintro e W1 ⟨rfl, hb1⟩
      have HB1 := hide hb1
      clear hb1
      go_wp2_with fail
      refine (unhide HC _ (unhide HB1)).mono ?_
      rintro e W2 ⟨rfl, hb2⟩
      have HB2 := hide (bc (unhide HB1) hb2)
      clear hb2
      go_wp2_with fail
      refine bodyPost_ret (v := .tuple #[.bool true, .slice (some ⟨W2.heap.size + 1, 0, none⟩) 0 0, .int .i64 0]) (by simp [results, Try.results23, go_sem, *]) rfl ⟨⟨_, 0, 0, rfl, its_nil _ _ _⟩, ba (ba (unhide HB2) _) _⟩
    · have t2 : decide (vM ≤ high) = false := decide_eq_false h2
      rw [decide_eq_false (show ¬ (low ≤ vL ∧ vM ≤ high) by omega), if_neg (show ¬ (low ≤ vL ∧ vM ≤ high) by omega), if_neg (show ¬ vL < low by omega), unhide HLM]
      go_enter Try.func23, Try.ntmps23
      go_wp2_with fail
      refine (unhide HM).mono ?_
      rintro e W1 ⟨rfl, hb1⟩
      have HB1 := hide hb1
      clear hb1
      go_wp2_with fail
      refine (unhide HC _ (unhide HB1)).mono ?_
      rintro e W2 ⟨rfl, hb2⟩
      have HB2 := hide (bc (unhide HB1) hb2)
      clear hb2
      go_wp2_with fail
      go_loopw [11, 12] (fun s t W => ∃ (i : Nat) (v : Value), s = v ∧ t = .int .i64 (i : Int) ∧ i ≤ n ∧ Row W w.heap.size 3 1 v i ((ls.map (sd (1))).take i) ∧ Below w.heap.size w W) (fun _ t _ => n - (intOf t).toNat)
      case atStart => exact ⟨0, _, rfl, rfl, Nat.zero_le _, by rw [List.take_zero]; exact row_made _ 3 _ 1 (by have := (unhide HB2).size; simp; omega) _ (by simp), ba (ba (unhide HB2) _) _⟩
      case round =>
        obtain ⟨i, v, rfl, rfl, hi, hrow, hw⟩ := hrel
        obtain ⟨ku, kc, rfl, _⟩ := hrow.form
        have hsz := hw.size
        have HR := hide hrow
        have HW := hide hw
        clear hrow hw
        by_cases h : i < n
        · have i1 : (i : Int) < (n : Int) := by omega
          have i0 : (0 : Int) ≤ (i : Int) := Int.natCast_nonneg _
          have iz : decide ((i : Int) < (n : Int)) = true := decide_eq_true i1
          obtain ⟨⟨s, a, b, c, d⟩, hx⟩ := get_some (unhide HL) h
          obtain ⟨rfl, pw, k0, k1, k2, k3, k4⟩ := ((unhide HU).bel (unhide HW)).at hx
          simp only at k0 k1 k2 k3 k4
          have HSD := hide (map_take_succ (f := sd (1)) hx)
          have hq := (unhide HOK _ (List.mem_of_getElem? hx)).sg
          simp only at hq
          clear hx
          by_cases hc : c = 0
          · have c0 : (c == 0) = true := by simp [hc]
            by_cases hd : d = 0
            · have d0 : (d == 0) = true := by simp [hd]
              have HV : Hid (sd (1) ⟨s, a, b, c, d⟩ = 0) := hide (by simp [sd, hc, hd])
              clear hc hd hq
              go_wp2_with (at_builtin; refine unhide ?_)
              refine hide ?_
              refine wpList_append_own _ rfl _ _ 31 rfl w.heap.size 3 iI _ 1 8 Try.underlying31 hi1 hy0 hy1 hy2 rfl (by decide) _ _ _ rfl ((unhide HR).alloc _) _ 1 1 ([0].map (Value.int .i64)) rfl rfl (by first | exact news_cells _ _ rfl | exact news_cells _ _ (by simp) | exact news_drew _ _ (by simp)) ints_one (by unfold maxLen; omega) (by omega) (by simp; omega) ?_
              intro v' wz hown' hgrow _
              have R := hide (own_more (wr := wr) (news := [0]) (by repeat (first | exact Below.refl _ _ | refine Below.alloc ?_ (by first | omega | (simp; omega)) _ | refine Below.drew ?_)) (by simp; omega) (unhide HR) hown' hgrow)
              clear hown' hgrow
              go_wp2_with fail
              go_roundw
              case rel =>
                have H : ∃ (i' : Nat) (v : Value), v' = v ∧ Value.int .i64 ((i : Int) + 1) = .int .i64 (i' : Int) ∧ i' ≤ n ∧ Row wz w.heap.size 3 1 v i' ((ls.map (sd (1))).take i') ∧ Below w.heap.size w wz := by
                  refine ⟨i + 1, v', rfl, by simp, h, ?_, (unhide HW).trans (unhide R).2⟩
                  rw [unhide HSD, unhide HV]
                  exact (unhide R).1
                first | exact H | ((repeat apply Exists.intro); refine ⟨?_, rfl⟩; exact H)
              case measure => simp only [intOf]; omega
            · have d0 : (d == 0) = false := by rw [beq_eq_false_iff_ne]; exact hd
              have HV : Hid (sd (1) ⟨s, a, b, c, d⟩ = a) := hide (by simp [sd, hd])
              have hm : -1 ≤ a ∧ a ≤ 1 := by omega
              obtain ⟨hm1, hm2⟩ := hm
              clear hc hd hq
              go_wp2_with (at_builtin; refine unhide ?_)
              refine hide ?_
              refine wpList_append_own _ rfl _ _ 31 rfl w.heap.size 3 iI _ 1 8 Try.underlying31 hi1 hy0 hy1 hy2 rfl (by decide) _ _ _ rfl ((unhide HR).alloc _) _ 1 1 ([a].map (Value.int .i64)) rfl rfl (by first | exact news_cells _ _ rfl | exact news_cells _ _ (by simp) | exact news_drew _ _ (by simp)) ints_one (by unfold maxLen; omega) (by omega) (by simp; omega) ?_
              intro v' wz hown' hgrow _
              have R := hide (own_more (wr := wr) (news := [a]) (by repeat (first | exact Below.refl _ _ | refine Below.alloc ?_ (by first | omega | (simp; omega)) _ | refine Below.drew ?_)) (by simp; omega) (unhide HR) hown' hgrow)
              clear hown' hgrow
              go_wp2_with fail
              go_roundw
              case rel =>
                have H : ∃ (i' : Nat) (v : Value), v' = v ∧ Value.int .i64 ((i : Int) + 1) = .int .i64 (i' : Int) ∧ i' ≤ n ∧ Row wz w.heap.size 3 1 v i' ((ls.map (sd (1))).take i') ∧ Below w.heap.size w wz := by
                  refine ⟨i + 1, v', rfl, by simp, h, ?_, (unhide HW).trans (unhide R).2⟩
                  rw [unhide HSD, unhide HV]
                  exact (unhide R).1
                first | exact H | ((repeat apply Exists.intro); refine ⟨?_, rfl⟩; exact H)
              case measure => simp only [intOf]; omega
          · have c0 : (c == 0) = false := by rw [beq_eq_false_iff_ne]; exact hc
            have HV : Hid (sd (1) ⟨s, a, b, c, d⟩ = a) := hide (by simp [sd, hc])
            have hm : -1 ≤ a ∧ a ≤ 1 := by omega
            obtain ⟨hm1, hm2⟩ := hm
            clear hc hq
            go_wp2_with (at_builtin; refine unhide ?_)
            refine hide ?_
            refine wpList_append_own _ rfl _ _ 31 rfl w.heap.size 3 iI _ 1 8 Try.underlying31 hi1 hy0 hy1 hy2 rfl (by decide) _ _ _ rfl ((unhide HR).alloc _) _ 1 1 ([a].map (Value.int .i64)) rfl rfl (by first | exact news_cells _ _ rfl | exact news_cells _ _ (by simp) | exact news_drew _ _ (by simp)) ints_one (by unfold maxLen; omega) (by omega) (by simp; omega) ?_
            intro v' wz hown' hgrow _
            have R := hide (own_more (wr := wr) (news := [a]) (by repeat (first | exact Below.refl _ _ | refine Below.alloc ?_ (by first | omega | (simp; omega)) _ | refine Below.drew ?_)) (by simp; omega) (unhide HR) hown' hgrow)
            clear hown' hgrow
            go_wp2_with fail
            go_roundw
            case rel =>
              have H : ∃ (i' : Nat) (v : Value), v' = v ∧ Value.int .i64 ((i : Int) + 1) = .int .i64 (i' : Int) ∧ i' ≤ n ∧ Row wz w.heap.size 3 1 v i' ((ls.map (sd (1))).take i') ∧ Below w.heap.size w wz := by
                refine ⟨i + 1, v', rfl, by simp, h, ?_, (unhide HW).trans (unhide R).2⟩
                rw [unhide HSD, unhide HV]
                exact (unhide R).1
              first | exact H | ((repeat apply Exists.intro); refine ⟨?_, rfl⟩; exact H)
            case measure => simp only [intOf]; omega
        · have i1 : ¬ (i : Int) < (n : Int) := by omega
          have iz : decide ((i : Int) < (n : Int)) = false := decide_eq_false i1
          have en : i = n := by omega
          subst en
          have hrow := unhide HR
          rw [List.take_of_length_le (by rw [unhide HLM]; omega)] at hrow
          obtain ⟨v, q, k, hv, hits⟩ := hrow.its
          cases hv
          have HIT := hide hits
          clear hrow hits
          go_wp2_with fail
          refine bodyPost_ret (v := .tuple #[.bool false, .slice ku i kc, .int .i64 0]) (by simp [results, Try.results23, go_sem, *]) rfl (by first | exact ⟨⟨_, q, kc, rfl, unhide HIT⟩, unhide HW⟩ | exact ⟨⟨_, ⟨kc, rfl⟩, q, unhide HIT⟩, unhide HW⟩)
  · have t1 : decide (low ≤ vL) = false := decide_eq_false h1
    rw [decide_eq_false (show ¬ (low ≤ vL ∧ vM ≤ high) by omega), if_neg (show ¬ (low ≤ vL ∧ vM ≤ high) by omega), if_pos (show vL < low by omega), unhide HLM]
    go_enter Try.func23, Try.ntmps23
    go_wp2_with fail
    refine (unhide HM).mono ?_
    rintro e W1 ⟨rfl, hb1⟩
    have HB1 := hide hb1
    clear hb1
    go_wp2_with fail
    refine (unhide HC _ (unhide HB1)).mono ?_
    rintro e W2 ⟨rfl, hb2⟩
    have HB2 := hide (bc (unhide HB1) hb2)
    clear hb2
    go_wp2_with fail
    go_loopw [11, 12] (fun s t W => ∃ (i : Nat) (v : Value), s = v ∧ t = .int .i64 (i : Int) ∧ i ≤ n ∧ Row W w.heap.size 3 1 v i ((ls.map (sd (-1))).take i) ∧ Below w.heap.size w W) (fun _ t _ => n - (intOf t).toNat)
    case atStart => exact ⟨0, _, rfl, rfl, Nat.zero_le _, by rw [List.take_zero]; exact row_made _ 3 _ 1 (by have := (unhide HB2).size; simp; omega) _ (by simp), ba (ba (unhide HB2) _) _⟩
    case round =>
      obtain ⟨i, v, rfl, rfl, hi, hrow, hw⟩ := hrel
      obtain ⟨ku, kc, rfl, _⟩ := hrow.form
      have hsz := hw.size
      have HR := hide hrow
      have HW := hide hw
      clear hrow hw
      by_cases h : i < n
      · have i1 : (i : Int) < (n : Int) := by omega
        have i0 : (0 : Int) ≤ (i : Int) := Int.natCast_nonneg _
        have iz : decide ((i : Int) < (n : Int)) = true := decide_eq_true i1
        obtain ⟨⟨s, a, b, c, d⟩, hx⟩ := get_some (unhide HL) h
        obtain ⟨rfl, pw, k0, k1, k2, k3, k4⟩ := ((unhide HU).bel (unhide HW)).at hx
        simp only at k0 k1 k2 k3 k4
        have HSD := hide (map_take_succ (f := sd (-1)) hx)
        have hq := (unhide HOK _ (List.mem_of_getElem? hx)).sg
        simp only at hq
        clear hx
        by_cases hc : c = 0
        · have c0 : (c == 0) = true := by simp [hc]
          by_cases hd : d = 0
          · have d0 : (d == 0) = true := by simp [hd]
            have HV : Hid (sd (-1) ⟨s, a, b, c, d⟩ = 0) := hide (by simp [sd, hc, hd])
            clear hc hd hq
            go_wp2_with (at_builtin; refine unhide ?_)
            refine hide ?_
            refine wpList_append_own _ rfl _ _ 31 rfl w.heap.size 3 iI _ 1 8 Try.underlying31 hi1 hy0 hy1 hy2 rfl (by decide) _ _ _ rfl ((unhide HR).alloc _) _ 1 1 ([0].map (Value.int .i64)) rfl rfl (by first | exact news_cells _ _ rfl | exact news_cells _ _ (by simp) | exact news_drew _ _ (by simp)) ints_one (by unfold maxLen; omega) (by omega) (by simp; omega) ?_
            intro v' wz hown' hgrow _
            have R := hide (own_more (wr := wr) (news := [0]) (by repeat (first | exact Below.refl _ _ | refine Below.alloc ?_ (by first | omega | (simp; omega)) _ | refine Below.drew ?_)) (by simp; omega) (unhide HR) hown' hgrow)
            clear hown' hgrow
            go_wp2_with fail
            go_roundw
            case rel =>
              have H : ∃ (i' : Nat) (v : Value), v' = v ∧ Value.int .i64 ((i : Int) + 1) = .int .i64 (i' : Int) ∧ i' ≤ n ∧ Row wz w.heap.size 3 1 v i' ((ls.map (sd (-1))).take i') ∧ Below w.heap.size w wz := by
                refine ⟨i + 1, v', rfl, by simp, h, ?_, (unhide HW).trans (unhide R).2⟩
                rw [unhide HSD, unhide HV]
                exact (unhide R).1
              first | exact H | ((repeat apply Exists.intro); refine ⟨?_, rfl⟩; exact H)
            case measure => simp only [intOf]; omega
          · have d0 : (d == 0) = false := by rw [beq_eq_false_iff_ne]; exact hd
            have HV : Hid (sd (-1) ⟨s, a, b, c, d⟩ = -a) := hide (by simp [sd, hd])
            have hm : -1 ≤ a ∧ a ≤ 1 := by omega
            obtain ⟨hm1, hm2⟩ := hm
            clear hc hd hq
            go_wp2_with (at_builtin; refine unhide ?_)
            refine hide ?_
            refine wpList_append_own _ rfl _ _ 31 rfl w.heap.size 3 iI _ 1 8 Try.underlying31 hi1 hy0 hy1 hy2 rfl (by decide) _ _ _ rfl ((unhide HR).alloc _) _ 1 1 ([-a].map (Value.int .i64)) rfl rfl (by first | exact news_cells _ _ rfl | exact news_cells _ _ (by simp) | exact news_drew _ _ (by simp)) ints_one (by unfold maxLen; omega) (by omega) (by simp; omega) ?_
            intro v' wz hown' hgrow _
            have R := hide (own_more (wr := wr) (news := [-a]) (by repeat (first | exact Below.refl _ _ | refine Below.alloc ?_ (by first | omega | (simp; omega)) _ | refine Below.drew ?_)) (by simp; omega) (unhide HR) hown' hgrow)
            clear hown' hgrow
            go_wp2_with fail
            go_roundw
            case rel =>
              have H : ∃ (i' : Nat) (v : Value), v' = v ∧ Value.int .i64 ((i : Int) + 1) = .int .i64 (i' : Int) ∧ i' ≤ n ∧ Row wz w.heap.size 3 1 v i' ((ls.map (sd (-1))).take i') ∧ Below w.heap.size w wz := by
                refine ⟨i + 1, v', rfl, by simp, h, ?_, (unhide HW).trans (unhide R).2⟩
                rw [unhide HSD, unhide HV]
                exact (unhide R).1
              first | exact H | ((repeat apply Exists.intro); refine ⟨?_, rfl⟩; exact H)
            case measure => simp only [intOf]; omega
        · have c0 : (c == 0) = false := by rw [beq_eq_false_iff_ne]; exact hc
          have HV : Hid (sd (-1) ⟨s, a, b, c, d⟩ = -a) := hide (by simp [sd, hc])
          have hm : -1 ≤ a ∧ a ≤ 1 := by omega
          obtain ⟨hm1, hm2⟩ := hm
          clear hc hq
          go_wp2_with (at_builtin; refine unhide ?_)
          refine hide ?_
          refine wpList_append_own _ rfl _ _ 31 rfl w.heap.size 3 iI _ 1 8 Try.underlying31 hi1 hy0 hy1 hy2 rfl (by decide) _ _ _ rfl ((unhide HR).alloc _) _ 1 1 ([-a].map (Value.int .i64)) rfl rfl (by first | exact news_cells _ _ rfl | exact news_cells _ _ (by simp) | exact news_drew _ _ (by simp)) ints_one (by unfold maxLen; omega) (by omega) (by simp; omega) ?_
          intro v' wz hown' hgrow _
          have R := hide (own_more (wr := wr) (news := [-a]) (by repeat (first | exact Below.refl _ _ | refine Below.alloc ?_ (by first | omega | (simp; omega)) _ | refine Below.drew ?_)) (by simp; omega) (unhide HR) hown' hgrow)
          clear hown' hgrow
          go_wp2_with fail
          go_roundw
          case rel =>
            have H : ∃ (i' : Nat) (v : Value), v' = v ∧ Value.int .i64 ((i : Int) + 1) = .int .i64 (i' : Int) ∧ i' ≤ n ∧ Row wz w.heap.size 3 1 v i' ((ls.map (sd (-1))).take i') ∧ Below w.heap.size w wz := by
              refine ⟨i + 1, v', rfl, by simp, h, ?_, (unhide HW).trans (unhide R).2⟩
              rw [unhide HSD, unhide HV]
              exact (unhide R).1
            first | exact H | ((repeat apply Exists.intro); refine ⟨?_, rfl⟩; exact H)
          case measure => simp only [intOf]; omega
      · have i1 : ¬ (i : Int) < (n : Int) := by omega
        have iz : decide ((i : Int) < (n : Int)) = false := decide_eq_false i1
        have en : i = n := by omega
        subst en
        have hrow := unhide HR
        rw [List.take_of_length_le (by rw [unhide HLM]; omega)] at hrow
        obtain ⟨v, q, k, hv, hits⟩ := hrow.its
        cases hv
        have HIT := hide hits
        clear hrow hits
        go_wp2_with fail
        refine bodyPost_ret (v := .tuple #[.bool false, .slice ku i kc, .int .i64 0]) (by simp [results, Try.results23, go_sem, *]) rfl (by first | exact ⟨⟨_, q, kc, rfl, unhide HIT⟩, unhide HW⟩ | exact ⟨⟨_, ⟨kc, rfl⟩, q, unhide HIT⟩, unhide HW⟩)
end Go.Proofs.Ytlanpmdekbjgeaa
