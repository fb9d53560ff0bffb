/-
  Four drawn numbers, to be judged.
-/
import Derived.Test.YtdneepojgklciaaAtD
import Derived.Test.YtdneepojgklciaaItRows
namespace Go.Proofs.Ytdneepojgklciaa
open Go.ChangeShapes Go.WideShapes Go.ChangeAt Go.RowKit
set_option linter.unusedVariables false
set_option linter.unusedSimpArgs false

set_option maxHeartbeats 1000000 in
theorem odd_any {B g : Nat} {k : Int} {w : World} (h : So B g k w) (n1 : k ≤ 1000000000) :
    Calls Try.prog 36 #[.pointer (some ⟨g, 0, none⟩)] w fun e w' => ∃ r : Int, e = .returned (.int .i64 r) ∧ -9223372036854775808 ≤ r ∧ r ≤ 9223372036854775807 ∧ So B g (k + 3) w' ∧ Mv g w w' := by
  have HB := hide (next_any 12 (h.alloc (.cells #[.int .i64 0, .int .i64 (-1), .int .i64 1, .int .i64 2, .int .i64 63, .int .i64 64, .int .i64 65, .int .i64 4096, .int .i64 4097, .int .i64 9223372036854775807, .int .i64 (-9223372036854775808), .int .i64 30] 3)) n1 (by omega) (by omega))
  have hg := h.lt
  clear h
  go_enter Try.func36, Try.ntmps36
  go_wp2_with fail
  refine (unhide HB).mono ?_
  rintro e w1 ⟨r, rfl, r0, r1, hs, hb⟩
  have HS := hide hs
  have HW := hide hb
  have hc : ∀ i, i < 12 → ∃ x : Int, -9223372036854775808 ≤ x ∧ x ≤ 9223372036854775807 ∧ w1.cell? ⟨w.heap.size, i, none⟩ = some (.int .i64 x) := by
    intro i hi
    have : ∃ x : Int, -9223372036854775808 ≤ x ∧ x ≤ 9223372036854775807 ∧ (w.alloc (.cells #[.int .i64 0, .int .i64 (-1), .int .i64 1, .int .i64 2, .int .i64 63, .int .i64 64, .int .i64 65, .int .i64 4096, .int .i64 4097, .int .i64 9223372036854775807, .int .i64 (-9223372036854775808), .int .i64 30] 3)).cell? ⟨w.heap.size, i, none⟩ = some (.int .i64 x) := by
      have hi' : i = 0 ∨ i = 1 ∨ i = 2 ∨ i = 3 ∨ i = 4 ∨ i = 5 ∨ i = 6 ∨ i = 7 ∨ i = 8 ∨ i = 9 ∨ i = 10 ∨ i = 11 := by omega
      rcases hi' with rfl | rfl | rfl | rfl | rfl | rfl | rfl | rfl | rfl | rfl | rfl | rfl
      · exact ⟨(0), by decide, by decide, by simp [go_sem]⟩
      · exact ⟨(-1), by decide, by decide, by simp [go_sem]⟩
      · exact ⟨(1), by decide, by decide, by simp [go_sem]⟩
      · exact ⟨(2), by decide, by decide, by simp [go_sem]⟩
      · exact ⟨(63), by decide, by decide, by simp [go_sem]⟩
      · exact ⟨(64), by decide, by decide, by simp [go_sem]⟩
      · exact ⟨(65), by decide, by decide, by simp [go_sem]⟩
      · exact ⟨(4096), by decide, by decide, by simp [go_sem]⟩
      · exact ⟨(4097), by decide, by decide, by simp [go_sem]⟩
      · exact ⟨(9223372036854775807), by decide, by decide, by simp [go_sem]⟩
      · exact ⟨(-9223372036854775808), by decide, by decide, by simp [go_sem]⟩
      · exact ⟨(30), by decide, by decide, by simp [go_sem]⟩
    obtain ⟨x, h1, h2, h3⟩ := this
    exact ⟨x, h1, h2, hb.cell (by omega) h3⟩
  clear hs hb
  obtain ⟨j, rfl⟩ := Int.eq_ofNat_of_zero_le r0
  obtain ⟨x, x0, x1, hx⟩ := hc j (by omega)
  clear hc
  go_wp2
  go_ret
  exact ⟨x, rfl, x0, x1, unhide HS, (Mv.of_bel (ba (Below.refl _ _) _)).trans (unhide HW)⟩

theorem iblk.mv {g q t : Nat} {w w' : World} {L : List Int} (h : iblk w q t L) (hm : Mv g w w') (hq : q ≠ g) : iblk w' q t L := (hm.block q h.lt hq).trans h
theorem at_list {L : List Int} {n i : Nat} (h : L.length = n) (hi : i < n) : ∃ x, L[i]? = some x := ⟨L[i]'(by omega), List.getElem?_eq_getElem _⟩
set_option maxHeartbeats 1000000 in
theorem drawJ {a : Option Addr} {len cap : Nat} {zs : List Int} {w : World} (hc : Code w.heap.size w a len cap zs) (hl : len ≤ 1048576) :
    Calls Try.prog 12 #[.slice a len cap] w fun e w' => (∃ x0 x1 x2 x3 : Int, e = .returned (.tuple #[.int .i64 x0, .int .i64 x1, .int .i64 x2, .int .i64 x3])) ∧ Below w.heap.size w w' := by
  have HS := hide (source_any a len cap zs w hc (by omega))
  clear hc
  have LTB : Hid (w.heap.size ≤ w.heap.size) := hide (Nat.le_refl _)
  go_enter Try.func12, Try.ntmps12
  go_wp2_with fail
  refine (unhide HS).mono ?_
  rintro e W1 ⟨rfl, hb, hs⟩
  have HB1 := hide hb
  have H1 := hide (next_any 20 hs (by omega) (by omega) (by omega))
  clear hb hs
  go_wp2_with fail
  refine (unhide H1).mono ?_
  rintro e W2 ⟨r1, rfl, r10, r11, hs, hm⟩
  have HB2 := hide (Mv.bel (unhide HB1) hm (Nat.le_refl _) (unhide HB1).size)
  have H2 := hide (next_any 16 hs (by omega) (by omega) (by omega))
  clear hm hs
  go_wp2_with fail
  refine (unhide H2).mono ?_
  rintro e W3 ⟨r2, rfl, r20, r21, hs, hm⟩
  have HB3 := hide (Mv.bel (unhide HB2) hm (Nat.le_refl _) (unhide HB2).size)
  have H3 := hide (next_any 10 hs (by omega) (by omega) (by omega))
  clear hm hs
  go_wp2_with fail
  refine (unhide H3).mono ?_
  rintro e W4 ⟨r3, rfl, r30, r31, hs, hm⟩
  have HB4 := hide (Mv.bel (unhide HB3) hm (Nat.le_refl _) (unhide HB3).size)
  have H4 := hide (next_any 4 hs (by omega) (by omega) (by omega))
  clear hm hs
  go_wp2_with fail
  refine (unhide H4).mono ?_
  rintro e W5 ⟨r4, rfl, r40, r41, hs, hm⟩
  have HB5 := hide (Mv.bel (unhide HB4) hm (Nat.le_refl _) (unhide HB4).size)
  have HS5 := hide hs
  clear hm hs
  go_wp2_with fail
  obtain ⟨L, hL, hK⟩ : ∃ L : List Int, L.length = 4 ∧ iblk (W5.alloc (.cells ([r1 - 10 + r2 - 3, r1 - 10, r1 - 10 + r3, r4].map (Value.int .i64)).toArray 3)) W5.heap.size 3 L := ⟨_, rfl, iblk_new _ _ _⟩
  have HK := hide hK
  have HL := hide hL
  clear hK hL
  have GT : w.heap.size < W5.heap.size := (unhide HS5).lt
  have HB6 := hide (ba (unhide HB5) (.cells ([r1 - 10 + r2 - 3, r1 - 10, r1 - 10 + r3, r4].map (Value.int .i64)).toArray 3))
  have H6 := hide (chance_any 12 ((unhide HS5).alloc (.cells ([r1 - 10 + r2 - 3, r1 - 10, r1 - 10 + r3, r4].map (Value.int .i64)).toArray 3)) (by omega) (by omega) (by omega))
  generalize W5.heap.size = q at *
  refine (unhide H6).mono ?_
  rintro e W6 ⟨b, rfl, hs, hm⟩
  have HK6 := hide ((unhide HK).mv hm (show q ≠ w.heap.size by omega))
  have HB7 := hide (Mv.bel (unhide HB6) hm (Nat.le_refl _) (unhide HB6).size)
  have HS6 := hide hs
  clear hs hm HK
  have fin : ∀ (M : List Int) (W : World), M.length = 4 → iblk W q 3 M → ∃ y0 y1 y2 y3 : Int, W.cell? ⟨q, 0, none⟩ = some (.int .i64 y0) ∧ W.cell? ⟨q, 1, none⟩ = some (.int .i64 y1) ∧ W.cell? ⟨q, 2, none⟩ = some (.int .i64 y2) ∧ W.cell? ⟨q, 3, none⟩ = some (.int .i64 y3) := by
    intro M W hM hk
    obtain ⟨y0, h0⟩ := at_list hM (i := 0) (by omega)
    obtain ⟨y1, h1⟩ := at_list hM (i := 1) (by omega)
    obtain ⟨y2, h2⟩ := at_list hM (i := 2) (by omega)
    obtain ⟨y3, h3⟩ := at_list hM (i := 3) (by omega)
    exact ⟨y0, y1, y2, y3, hk.cell h0, hk.cell h1, hk.cell h2, hk.cell h3⟩
  have FIN := hide fin
  clear fin
  cases b
  · obtain ⟨y0, y1, y2, y3, c0, c1, c2, c3⟩ := unhide FIN L W6 (unhide HL) (unhide HK6)
    go_wp2_with fail
    go_quiet (fail)
    go_wp2_with fail
    exact bodyPost_ret (v := .tuple #[.int .i64 y0, .int .i64 y1, .int .i64 y2, .int .i64 y3]) (by simp [results, Try.results12, go_sem]) rfl ⟨⟨y0, y1, y2, y3, rfl⟩, by repeat (first | exact unhide HB7 | refine bel_dn' ?_ _ | refine Below.drew ?_)⟩
  · have H7 := hide (next_any 4 (unhide HS6) (by omega) (by omega) (by omega))
    go_wp2_with fail
    refine (unhide H7).mono ?_
    rintro e W7 ⟨r5, rfl, r50, r51, hs, hm⟩
    have HK7 := hide ((unhide HK6).mv hm (show q ≠ w.heap.size by omega))
    have HB8 := hide (Mv.bel (unhide HB7) hm (Nat.le_refl _) (unhide HB7).size)
    have H8 := hide (odd_any hs (by omega))
    clear hs hm
    go_wp2_with fail
    refine (unhide H8).mono ?_
    rintro e W8 ⟨r6, rfl, r60, r61, hs, hm⟩
    have HK8 := hide ((unhide HK7).mv hm (show q ≠ w.heap.size by omega))
    have HB9 := hide (Mv.bel (unhide HB8) hm (Nat.le_refl _) (unhide HB8).size)
    have HS8 := hide hs
    clear hs hm
    go_wp2_with fail
    obtain ⟨L2, hL2, hK2⟩ : ∃ L : List Int, L.length = 4 ∧ iblk (W8.alloc (.cells ([100000, -100001, -1, r6].map (Value.int .i64)).toArray 3)) W8.heap.size 3 L := ⟨_, rfl, iblk_new _ _ _⟩
    have GT2 : w.heap.size < W8.heap.size := (unhide HS8).lt
    have GQ2 : q < W8.heap.size := (unhide HK8).lt
    have HK8a := hide ((unhide HK8).bel (ba (Below.refl _ _) (.cells ([100000, -100001, -1, r6].map (Value.int .i64)).toArray 3)))
    have HB10 := hide (ba (unhide HB9) (.cells ([100000, -100001, -1, r6].map (Value.int .i64)).toArray 3))
    have H9 := hide (next_any 4 ((unhide HS8).alloc (.cells ([100000, -100001, -1, r6].map (Value.int .i64)).toArray 3)) (by omega) (by omega) (by omega))
    have HK2 := hide hK2
    have HL2 := hide hL2
    clear hK2 hL2
    generalize W8.heap.size = q2 at *
    refine (unhide H9).mono ?_
    rintro e W9 ⟨r7, rfl, r70, r71, hs, hm⟩
    have HK9 := hide ((unhide HK8a).mv hm (show q ≠ w.heap.size by omega))
    have HKB := hide ((unhide HK2).mv hm (show q2 ≠ w.heap.size by omega))
    have HB11 := hide (Mv.bel (unhide HB10) hm (Nat.le_refl _) (unhide HB10).size)
    clear hs hm
    obtain ⟨j5, rfl⟩ := Int.eq_ofNat_of_zero_le r50
    obtain ⟨j7, rfl⟩ := Int.eq_ofNat_of_zero_le r70
    obtain ⟨x, hx⟩ := at_list (unhide HL2) (i := j7) (by omega)
    obtain ⟨y, hy⟩ := at_list (unhide HL) (i := j5) (by omega)
    have cx := (unhide HKB).cell hx
    have cy := (unhide HK9).cell hy
    have fz : ∀ o, W9.frozen? ⟨q, o, none⟩ = false := (unhide HK9).frozen
    have HST := hide ((unhide HK9).set j5 x)
    have HBL := hide (Below.setCell (p := ⟨q, j5, none⟩) (unhide HB11) (show w.heap.size ≤ q by omega) (.int .i64 x))
    have HLS : Hid ((L.set j5 x).length = 4) := hide (by rw [List.length_set]; exact unhide HL)
    clear hx hy
    go_wp2_with fail
    obtain ⟨y0, y1, y2, y3, c0, c1, c2, c3⟩ := unhide FIN (L.set j5 x) _ (unhide HLS) (unhide HST)
    generalize W9.setCell ⟨q, j5, none⟩ (.int .i64 x) = WX at *
    clear cx cy fz
    go_quiet (fail)
    go_wp2_with fail
    exact bodyPost_ret (v := .tuple #[.int .i64 y0, .int .i64 y1, .int .i64 y2, .int .i64 y3]) (by simp [results, Try.results12, go_sem]) rfl ⟨⟨y0, y1, y2, y3, rfl⟩, by repeat (first | exact unhide HBL | refine bel_dn' ?_ _ | refine Below.drew ?_)⟩
end Go.Proofs.Ytdneepojgklciaa
