/-
  Drawn holes and shafts.
-/
import Derived.Test.YtmoobfbjehgdnaaOwnY
namespace Go.Proofs.Ytmoobfbjehgdnaa
open Go.ChangeShapes Go.WideShapes Go.ChangeAt Go.RowKit
set_option linter.unusedVariables false
set_option linter.unusedSimpArgs false

set_option maxHeartbeats 1000000 in
theorem odd_any {B g : Nat} {k : Int} {w : World} (h : So B g k w) (n1 : k ≤ 1000000000) :
    Calls Try.prog 29 #[.pointer (some ⟨g, 0, none⟩)] w fun e w' => ∃ r : Int, e = .returned (.int .i64 r) ∧ -9223372036854775808 ≤ r ∧ r ≤ 9223372036854775807 ∧ So B g (k + 3) w' ∧ Mv g w w' := by
  have HB := hide (next_any 12 (h.alloc (.cells #[.int .i64 0, .int .i64 (-1), .int .i64 1, .int .i64 2, .int .i64 63, .int .i64 64, .int .i64 65, .int .i64 4096, .int .i64 4097, .int .i64 9223372036854775807, .int .i64 (-9223372036854775808), .int .i64 30] 3)) n1 (by omega) (by omega))
  have hg := h.lt
  clear h
  go_enter Try.func29, Try.ntmps29
  go_wp2_with fail
  refine (unhide HB).mono ?_
  rintro e w1 ⟨r, rfl, r0, r1, hs, hb⟩
  have HS := hide hs
  have HW := hide hb
  have hc : ∀ i, i < 12 → ∃ x : Int, -9223372036854775808 ≤ x ∧ x ≤ 9223372036854775807 ∧ w1.cell? ⟨w.heap.size, i, none⟩ = some (.int .i64 x) := by
    intro i hi
    have : ∃ x : Int, -9223372036854775808 ≤ x ∧ x ≤ 9223372036854775807 ∧ (w.alloc (.cells #[.int .i64 0, .int .i64 (-1), .int .i64 1, .int .i64 2, .int .i64 63, .int .i64 64, .int .i64 65, .int .i64 4096, .int .i64 4097, .int .i64 9223372036854775807, .int .i64 (-9223372036854775808), .int .i64 30] 3)).cell? ⟨w.heap.size, i, none⟩ = some (.int .i64 x) := by
      have hi' : i = 0 ∨ i = 1 ∨ i = 2 ∨ i = 3 ∨ i = 4 ∨ i = 5 ∨ i = 6 ∨ i = 7 ∨ i = 8 ∨ i = 9 ∨ i = 10 ∨ i = 11 := by omega
      rcases hi' with rfl | rfl | rfl | rfl | rfl | rfl | rfl | rfl | rfl | rfl | rfl | rfl
      · exact ⟨(0), by decide, by decide, by simp [go_sem]⟩
      · exact ⟨(-1), by decide, by decide, by simp [go_sem]⟩
      · exact ⟨(1), by decide, by decide, by simp [go_sem]⟩
      · exact ⟨(2), by decide, by decide, by simp [go_sem]⟩
      · exact ⟨(63), by decide, by decide, by simp [go_sem]⟩
      · exact ⟨(64), by decide, by decide, by simp [go_sem]⟩
      · exact ⟨(65), by decide, by decide, by simp [go_sem]⟩
      · exact ⟨(4096), by decide, by decide, by simp [go_sem]⟩
      · exact ⟨(4097), by decide, by decide, by simp [go_sem]⟩
      · exact ⟨(9223372036854775807), by decide, by decide, by simp [go_sem]⟩
      · exact ⟨(-9223372036854775808), by decide, by decide, by simp [go_sem]⟩
      · exact ⟨(30), by decide, by decide, by simp [go_sem]⟩
    obtain ⟨x, h1, h2, h3⟩ := this
    exact ⟨x, h1, h2, hb.cell (by omega) h3⟩
  clear hs hb
  obtain ⟨j, rfl⟩ := Int.eq_ofNat_of_zero_le r0
  obtain ⟨x, x0, x1, hx⟩ := hc j (by omega)
  clear hc
  go_wp2
  go_ret
  exact ⟨x, rfl, x0, x1, unhide HS, (Mv.of_bel (ba (Below.refl _ _) _)).trans (unhide HW)⟩

set_option maxHeartbeats 2000000 in
set_option maxRecDepth 100000 in
theorem drawS_any {B g : Nat} {k : Int} {w : World} (h : So B g k w) (hk : k ≤ 100000) :
    Calls Try.prog 27 #[.pointer (some ⟨g, 0, none⟩), .int .i64 12] w fun e w' => ∃ (v : Value) (L : List Int), e = .returned v ∧ v ≠ .slice none 0 0 ∧ L.length ≤ 20 ∧ Row w' w.heap.size 3 1 v L.length L ∧ So B g (k + 100) w' ∧ Mv g w w' := by
  obtain ⟨iP, hi1, hy0, hy1, hy2⟩ := info_parts int_info3
  have lt := h.lt
  have HS := hide h
  clear h
  go_enter Try.func27, Try.ntmps27
  go_wp2_with fail
  refine (size_any 12 ((unhide HS).alloc _) (by omega) (by omega)).mono ?_
  rintro e W2 ⟨r, rfl, r1, r2, rfl⟩
  have wr1 : IntKind.i64.wrap (r + 2) = r + 2 := wrap_i (by omega) (by omega)
  go_wp2_with fail
  refine (next_any (k := k) (r + 2) ((unhide HS).alloc _) (by omega) (by omega) (by omega)).mono ?_
  rintro e W3 ⟨m, rfl, m0, m1, hs3, mv3⟩
  have HS3 := hide hs3
  have HM3 : Hid (Mv g w W3) := hide ((Mv.of_bel (ba (Below.refl _ _) _)).trans mv3)
  have HR3 : Hid (Row W3 w.heap.size 3 1 (.slice (some ⟨w.heap.size, 0, none⟩) 0 0) 0 []) := hide ((row_made w 3 w.heap.size 1 (Nat.le_refl _) _ rfl).mv mv3 lt)
  obtain ⟨M, rfl⟩ := Int.eq_ofNat_of_zero_le m0
  clear hs3 mv3
  go_wp2_with fail
  go_loopw [5, 7] (fun v s W => ∃ (i : Nat) (L : List Int), s = .int .i64 (i : Int) ∧ v ≠ .slice none 0 0 ∧ i + L.length = M ∧ Row W w.heap.size 3 1 v L.length L ∧ So B g (k + 3 + 3 * (L.length : Int)) W ∧ Mv g w W) (fun _ s _ => (intOf s).toNat)
  case atStart => exact ⟨M, [], by simp, by simp, by simp, unhide HR3, by simpa using unhide HS3, unhide HM3⟩
  case round =>
    obtain ⟨i, L, rfl, hvn, hiL, hrow, hso, hmv⟩ := hrel
    have HVN := hide hvn
    clear hvn
    have HRW := hide hrow
    have HSO := hide hso
    have HMV := hide hmv
    have hszb := hmv.size
    clear hrow hso hmv HR3 HS3 HM3
    by_cases h : 0 < i
    · have iz : decide ((0 : Int) < (i : Int)) = true := decide_eq_true (by omega)
      obtain ⟨u, c, rfl, _⟩ := (unhide HRW).form
      go_wp2_with fail
      refine (next_any 14 (unhide HSO) (by omega) (by omega) (by omega)).mono ?_
      rintro e W4 ⟨X, rfl, x0, x1, hs4, mv4⟩
      have HS4 := hide hs4
      have HM4 : Hid (Mv g w W4) := hide ((unhide HMV).trans mv4)
      have HR4 := hide ((unhide HRW).mv mv4 lt)
      have hsz4 := mv4.size
      have wx : IntKind.i64.wrap (100 + X) = 100 + X := wrap_i (by omega) (by omega)
      clear hs4 mv4
      go_wp2_with (at_builtin; refine unhide ?_)
      refine hide ?_
      refine wpList_append_own _ rfl _ _ 23 rfl w.heap.size 3 iP _ 1 8 Try.underlying23 hi1 hy0 hy1 hy2 rfl (by decide) _ _ _ rfl ((unhide HR4).alloc _) _ 1 1 ([100 + X].map (Value.int .i64)) rfl rfl (by first | exact news_cells _ _ rfl | exact news_cells _ _ (by simp) | exact news_drew _ _ (by simp)) ints_one (by unfold maxLen; omega) (by omega) (by simp; omega) ?_
      intro v' wz hown' hgrow hvn'
      have HNV : Hid (v' ≠ .slice none 0 0) := hide (fun e => absurd (hvn'.1 e).2 (by omega))
      clear hvn'
      have R := hide (own_more (wr := W4) (news := [100 + X]) (by repeat (first | exact Below.refl _ _ | refine Below.alloc ?_ (by first | omega | (simp; omega)) _ | refine Below.drew ?_)) (by simp; omega) (unhide HR4) hown' hgrow)
      have wi : IntKind.i64.wrap ((i : Int) - 1) = (i : Int) - 1 := wrap_i (by omega) (by omega)
      have HSF := hide ((unhide HS4).belB (unhide R).2 lt)
      have HMF := hide ((unhide HM4).belB (unhide R).2 (Nat.le_refl _))
      clear hown' hgrow
      go_wp2_with fail
      go_roundw
      case rel =>
        have H : ∃ (i' : Nat) (L' : List Int), Value.int .i64 ((i : Int) - 1) = .int .i64 (i' : Int) ∧ v' ≠ .slice none 0 0 ∧ i' + L'.length = M ∧ Row wz w.heap.size 3 1 v' L'.length L' ∧ So B g (k + 3 + 3 * (L'.length : Int)) wz ∧ Mv g w wz := by
          refine ⟨i - 1, L ++ [100 + X], by congr 1; omega, unhide HNV, by simp; omega, ?_, ?_, unhide HMF⟩
          · rw [List.length_append]
            exact (unhide R).1
          · refine (unhide HSF).up ?_
            simp
            omega
        first | exact H | ((repeat apply Exists.intro); refine ⟨?_, rfl⟩; exact H)
      case measure => simp only [intOf]; omega
    · have iz : decide ((0 : Int) < (i : Int)) = false := decide_eq_false (by omega)
      go_wp2_with fail
      go_ret
      exact ⟨_, L, rfl, unhide HVN, by omega, unhide HRW, (unhide HSO).up (by omega), unhide HMV⟩
def lenV : Value → Nat
  | .slice _ n _ => n
  | _ => 0
set_option maxHeartbeats 4000000 in
set_option maxRecDepth 100000 in
theorem mates_any {B g : Nat} {k : Int} {w : World} (h : So B g k w) (hk : k ≤ 90000) :
    Calls Try.prog 19 #[.pointer (some ⟨g, 0, none⟩)] w fun e w' => ∃ (va vb : Value) (La Lb : List Int) (lo hi : Int), e = .returned (.tuple #[va, vb, .int .i64 lo, .int .i64 hi]) ∧ La.length ≤ 300 ∧ Lb.length ≤ 300 ∧ Row w' w.heap.size 3 1 va La.length La ∧ Row w' w.heap.size 3 1 vb Lb.length Lb ∧ So B g (k + 2000) w' ∧ Mv g w w' := by
  obtain ⟨iP, hi1, hy0, hy1, hy2⟩ := info_parts int_info3
  have lt := h.lt
  have gB := h.above
  have H1 := hide (drawS_any h (by omega))
  clear h
  go_enter Try.func19, Try.ntmps19
  go_wp2_with fail
  refine (unhide H1).mono ?_
  rintro e W1 ⟨va, La, rfl, _, la, hra, hs1, mv1⟩
  have H2 := hide (drawS_any hs1 (by omega))
  have HA1 := hide hra
  have HAL : Hid (∀ b, va.ownBlock = some b → w.heap.size ≤ b ∧ b < W1.heap.size) := hide (fun b hb => World.ownsRow.lt hra b hb)
  have HM1 := hide mv1
  have sz1 := mv1.size
  obtain ⟨ua, ca, rfl, _⟩ := hra.form
  clear hra hs1 mv1 H1
  go_wp2_with fail
  refine (unhide H2).mono ?_
  rintro e W2 ⟨vb, Lb, rfl, hvb, lb, hrb, hs2, mv2⟩
  have HVB := hide hvb
  clear hvb
  have HA2 := hide ((unhide HA1).mv mv2 lt)
  have HB2 := hide hrb
  have HM2 := hide ((unhide HM1).trans mv2)
  have H3 := hide (next_any 8 hs2 (by omega) (by omega) (by omega))
  have sz2 := mv2.size
  obtain ⟨ub, cb, rfl, _⟩ := hrb.form
  clear hrb hs2 mv2 H2
  go_wp2_with fail
  refine (unhide H3).mono ?_
  rintro e W3 ⟨r1, rfl, r10, r11, hs3, mv3⟩
  have HA3 := hide ((unhide HA2).mv mv3 lt)
  have HB3 := hide ((unhide HB2).mv mv3 (by omega))
  have HM3 := hide ((unhide HM2).trans mv3)
  have H4 := hide (next_any 5 hs3 (by omega) (by omega) (by omega))
  have sz3 := mv3.size
  have w1 : IntKind.i64.wrap (r1 - 3) = r1 - 3 := wrap_i (by omega) (by omega)
  clear hs3 mv3 H3
  go_wp2_with fail
  refine (unhide H4).mono ?_
  rintro e W4 ⟨r2, rfl, r20, r21, hs4, mv4⟩
  have HA4 := hide ((unhide HA3).mv mv4 lt)
  have HB4 := hide ((unhide HB3).mv mv4 (by omega))
  have HM4 := hide ((unhide HM3).trans mv4)
  have H5 := hide (next_any 30 hs4 (by omega) (by omega) (by omega))
  have sz4 := mv4.size
  have w2 : IntKind.i64.wrap (r1 - 3 + r2) = r1 - 3 + r2 := wrap_i (by omega) (by omega)
  clear hs4 mv4 H4
  go_wp2_with fail
  refine (unhide H5).mono ?_
  rintro e W5 ⟨r3, rfl, r30, r31, hs5, mv5⟩
  have HA5 := hide ((unhide HA4).mv mv5 lt)
  have HB5 := hide ((unhide HB4).mv mv5 (by omega))
  have HM5 := hide ((unhide HM4).trans mv5)
  have HS5 := hide hs5
  have sz5 := mv5.size
  clear hs5 mv5 H5 HA1 HA2 HA3 HA4 HB2 HB3 HB4 HM1 HM2 HM3 HM4
  by_cases q0 : r3 = 0
  · subst q0
    by_cases ql : La.length = 0
    · obtain rfl : La = [] := List.eq_nil_of_length_eq_zero ql
      clear ql
      simp only [List.length_nil] at HA5 ⊢
      go_wp2_with fail
      exact bodyPost_ret (v := .tuple #[.slice ua 0 ca, .slice ub Lb.length cb, .int .i64 (r1 - 3), .int .i64 (r1 - 3 + r2)]) (by simp [results, Try.results19, go_sem]) rfl ⟨_, _, [], Lb, _, _, rfl, by simp, by omega, unhide HA5, (unhide HB5).mono sz1, (unhide HS5).up (by omega), unhide HM5⟩
    · have l0 : decide ((0 : Int) < (La.length : Int)) = true := decide_eq_true (by omega)
      obtain ⟨ga, ca', hv, hga1, hga2, hga3, hca1, hca2⟩ := (unhide HA5).full ql
      cases hv
      have hgl := (unhide HAL) ga rfl
      obtain ⟨hgl1, hgl2⟩ := hgl
      have H6 := hide (next_any (La.length : Int) (unhide HS5) (by omega) (by omega) (by omega))
      clear hga3
      go_wp2_with fail
      refine (unhide H6).mono ?_
      rintro e W6 ⟨j, rfl, j0, j1, hs6, mv6⟩
      obtain ⟨j, rfl⟩ := Int.eq_ofNat_of_zero_le j0
      have HA6 := hide ((unhide HA5).mv mv6 lt)
      have HB6 := hide ((unhide HB5).mv mv6 (by omega))
      have HM6 := hide ((unhide HM5).trans mv6)
      have H7 := hide (odd_any hs6 (by omega))
      clear hs6 mv6 H6
      go_wp2_with fail
      refine (unhide H7).mono ?_
      rintro e W7 ⟨x, rfl, x0, x1, hs7, mv7⟩
      have hA7 := (unhide HA6).mv mv7 lt
      have HB7 := hide ((unhide HB6).mv mv7 (by omega))
      have HM7 := hide ((unhide HM6).trans mv7)
      obtain ⟨y, hy⟩ : ∃ y, La[j]? = some y := ⟨_, List.getElem?_eq_getElem (by omega)⟩
      have c0 := hA7.cellAt hy
      have fz : ∀ o, W7.frozen? ⟨ga, o, none⟩ = false := hA7.frz
      have HA8 := hide (hA7.set j (by omega) x)
      have HB8 : Hid (Row (W7.setCell ⟨ga, j, none⟩ (.int .i64 x)) W1.heap.size 3 1 (.slice ub Lb.length cb) Lb.length Lb) := hide ((unhide HB7).kept' (fun b hb => by
        have h1 := (World.ownsRow.lt (unhide HB7) b hb).1
        exact Below.heap_setCell _ _ _ _ (show b ≠ ga by omega)))
      have HS8 := hide (hs7.set (T := ga) (by omega) (by omega) j (.int .i64 x))
      have HM8 := hide ((unhide HM7).new (T := ga) (by omega) j (.int .i64 x))
      have hll : (La.set j x).length = La.length := by simp
      clear hs7 mv7 hA7 hy H7
      go_wp2_with fail
      refine bodyPost_ret (v := .tuple #[.slice (some ⟨ga, 0, none⟩) La.length ca, .slice ub Lb.length cb, .int .i64 (r1 - 3), .int .i64 (r1 - 3 + r2)]) (by simp [results, Try.results19, go_sem]) rfl ⟨_, _, La.set j x, Lb, _, _, rfl, by omega, by omega, ?_, (unhide HB8).mono sz1, (unhide HS8).up (by omega), unhide HM8⟩
      rw [hll]
      exact unhide HA8
  have e0 : (r3 == 0) = false := by simpa using q0
  by_cases q1 : r3 = 1
  · subst q1
    have H6 := hide (odd_any (unhide HS5) (by omega))
    go_wp2_with fail
    refine (unhide H6).mono ?_
    rintro e W6 ⟨x, rfl, x0, x1, hs6, mv6⟩
    have HA6 := hide ((unhide HA5).mv mv6 lt)
    have HB6 := hide ((unhide HB5).mv mv6 (by omega))
    have HM6 := hide ((unhide HM5).trans mv6)
    have HS6 := hide hs6
    clear hs6 mv6 H6
    go_wp2_with fail
    exact bodyPost_ret (v := .tuple #[(.slice ua La.length ca), (.slice ub Lb.length cb), .int .i64 x, .int .i64 (r1 - 3 + r2)]) (by simp [results, Try.results19, go_sem]) rfl ⟨(.slice ua La.length ca), (.slice ub Lb.length cb), La, Lb, x, (r1 - 3 + r2), rfl, by first | omega | (simp; omega), by first | omega | (simp; omega), unhide HA6, (unhide HB6).mono sz1, (unhide HS6).up (by omega), unhide HM6⟩
  have e1 : (r3 == 1) = false := by simpa using q1
  by_cases q2 : r3 = 2
  · subst q2
    have H6 := hide (odd_any (unhide HS5) (by omega))
    go_wp2_with fail
    refine (unhide H6).mono ?_
    rintro e W6 ⟨x, rfl, x0, x1, hs6, mv6⟩
    have HA6 := hide ((unhide HA5).mv mv6 lt)
    have HB6 := hide ((unhide HB5).mv mv6 (by omega))
    have HM6 := hide ((unhide HM5).trans mv6)
    have HS6 := hide hs6
    clear hs6 mv6 H6
    go_wp2_with fail
    exact bodyPost_ret (v := .tuple #[(.slice ua La.length ca), (.slice ub Lb.length cb), .int .i64 (r1 - 3), .int .i64 x]) (by simp [results, Try.results19, go_sem]) rfl ⟨(.slice ua La.length ca), (.slice ub Lb.length cb), La, Lb, (r1 - 3), x, rfl, by first | omega | (simp; omega), by first | omega | (simp; omega), unhide HA6, (unhide HB6).mono sz1, (unhide HS6).up (by omega), unhide HM6⟩
  have e2 : (r3 == 2) = false := by simpa using q2
  by_cases q3 : r3 = 3
  case neg =>
    have e3 : (r3 == 3) = false := by simpa using q3
    go_wp2_with fail
    exact bodyPost_ret (v := .tuple #[(.slice ua La.length ca), (.slice ub Lb.length cb), .int .i64 (r1 - 3), .int .i64 (r1 - 3 + r2)]) (by simp [results, Try.results19, go_sem]) rfl ⟨(.slice ua La.length ca), (.slice ub Lb.length cb), La, Lb, (r1 - 3), (r1 - 3 + r2), rfl, by first | omega | (simp; omega), by first | omega | (simp; omega), unhide HA5, (unhide HB5).mono sz1, (unhide HS5).up (by omega), unhide HM5⟩
  subst q3
  go_wp2_with fail
  go_loopw [7] (fun v W => ∃ (L : List Int) (k2 : Int), v ≠ .slice none 0 0 ∧ L.length ≤ 201 ∧ k2 ≤ k + 300 + 3 * (L.length : Int) ∧ Row W W1.heap.size 3 1 v L.length L ∧ Row W w.heap.size 3 1 (.slice ua La.length ca) La.length La ∧ So B g k2 W ∧ Mv g w W) (fun v _ => 300 - lenV v)
  case atStart =>
    exact ⟨Lb, k + 100 + 100 + 3 + 3 + 3, unhide HVB, by omega, by omega, unhide HB5, unhide HA5, unhide HS5, unhide HM5⟩
  case round =>
    obtain ⟨L, k2, hvn, hL, hk2, hrow, hra, hso, hmv⟩ := hrel
    obtain ⟨gb, cb2, rfl, hgb1, hgb2, hcb1, hcb2⟩ := hrow.sm hvn
    have HRW := hide hrow
    have HRA := hide hra
    have HMV := hide hmv
    have szr := hmv.size
    have H6 := hide (next_any 3 hso (by omega) (by omega) (by omega))
    clear hrow hra hso hmv hvn HB5 HA5 HS5 HM5
    go_wp2_with fail
    refine (unhide H6).mono ?_
    rintro e W6 ⟨r4, rfl, r40, r41, hs6, mv6⟩
    have HB6 := hide ((unhide HRW).mv mv6 (by omega))
    have HA6 := hide ((unhide HRA).mv mv6 lt)
    have HM6 := hide ((unhide HMV).trans mv6)
    have HS6 := hide hs6
    have sz6 := mv6.size
    have w4 : IntKind.i64.wrap (199 + r4) = 199 + r4 := wrap_i (by omega) (by omega)
    clear hs6 mv6 H6
    by_cases h : (L.length : Int) < 199 + r4
    · have t4 : decide ((L.length : Int) < 199 + r4) = true := decide_eq_true h
      go_wp2_with (at_builtin; refine unhide ?_)
      refine hide ?_
      refine wpList_append_own _ rfl _ _ 23 rfl W1.heap.size 3 iP _ 1 8 Try.underlying23 hi1 hy0 hy1 hy2 rfl (by decide) _ _ _ rfl ((unhide HB6).alloc _) _ 1 1 ([(L.length : Int)].map (Value.int .i64)) rfl rfl (by first | exact news_cells _ _ rfl | exact news_cells _ _ (by simp) | exact news_drew _ _ (by simp)) ints_one (by unfold maxLen; omega) (by omega) (by simp; omega) ?_
      intro v' wz hown' hgrow hvn'
      have R := hide (own_more (wr := W6) (news := [(L.length : Int)]) (by repeat (first | exact Below.refl _ _ | refine Below.alloc ?_ (by first | omega | (simp; omega)) _ | refine Below.drew ?_)) (by simp; omega) (unhide HB6) hown' hgrow)
      have HN : Hid (v' ≠ .slice none 0 0) := hide (fun e => by have := (hvn'.1 e).1; cases this)
      have HSF := hide ((unhide HS6).belB (unhide R).2 (by omega))
      have HMF := hide ((unhide HM6).belB (unhide R).2 sz1)
      have HAF := hide ((unhide HA6).kept' (fun b hb => (unhide R).2.block b ((unhide HAL) b hb).2))
      clear hown' hgrow hvn'
      obtain ⟨gz, cz, rfl, _, _, _, _⟩ := (unhide R).1.sm (unhide HN)
      go_wp2_with fail
      go_roundw
      case rel =>
        have H : ∃ (L' : List Int) (k' : Int), (.slice (some ⟨gz, 0, none⟩) (L.length + 1) cz : Value) ≠ .slice none 0 0 ∧ L'.length ≤ 201 ∧ k' ≤ k + 300 + 3 * (L'.length : Int) ∧ Row wz W1.heap.size 3 1 (.slice (some ⟨gz, 0, none⟩) (L.length + 1) cz) L'.length L' ∧ Row wz w.heap.size 3 1 (.slice ua La.length ca) La.length La ∧ So B g k' wz ∧ Mv g w wz := by
          refine ⟨L ++ [(L.length : Int)], k2 + 3, by simp, by simp; omega, by simp; omega, ?_, unhide HAF, unhide HSF, unhide HMF⟩
          rw [List.length_append]
          exact (unhide R).1
        first | exact H | ((repeat apply Exists.intro); refine ⟨?_, rfl⟩; exact H)
      case measure => simp only [lenV]; omega
    · have t4 : decide ((L.length : Int) < 199 + r4) = false := decide_eq_false h
      go_wp2_with fail
      exact bodyPost_ret (v := .tuple #[.slice ua La.length ca, .slice (some ⟨gb, 0, none⟩) L.length cb2, .int .i64 (r1 - 3), .int .i64 (r1 - 3 + r2)]) (by simp [results, Try.results19, go_sem]) rfl ⟨_, _, La, L, _, _, rfl, by omega, by omega, unhide HA6, (unhide HB6).mono sz1, (unhide HS6).up (by omega), unhide HM6⟩
end Go.Proofs.Ytmoobfbjehgdnaa
