/-
  A drawn sketch: some number of points and some rules, whatever the code.
-/
import Derived.Test.YtchdmigeopmacaaBlk3
import Derived.Deep.CutBlock
namespace Go.Proofs.Ytchdmigeopmacaa
open Go.ChangeShapes Go.WideShapes Go.ChangeAt Go.RowKit
set_option linter.unusedVariables false
set_option linter.unusedSimpArgs false

set_option maxHeartbeats 8000000 in
set_option maxRecDepth 100000 in
theorem sketch_any {B g : Nat} {k : Int} {w : World} (h : So B g k w) (hk : k ≤ 100000000) :
    Calls Try.prog 38 #[.pointer (some ⟨g, 0, none⟩)] w fun e w' => ∃ (n : Int) (v : Value) (l : Nat) (L : List Int), e = .returned (.agg #[.int .i64 n, v]) ∧ 1 ≤ n ∧ n ≤ 11 ∧ Row w' w.heap.size 35 4 v l L ∧ l ≤ 30 ∧ So B g (k + 10000) w' ∧ Mv g w w' := by
  obtain ⟨i0, hi, hz0, hz1, hz2⟩ := info_parts info47
  obtain ⟨iR, hi1, hy0, hy1, hy2⟩ := info_parts info35s
  have hg := h.lt
  have hBg := h.above
  have HS0 := hide (h.alloc (.cells #[.int .i64 0, .slice none 0 0] 25))
  clear h
  go_enter Try.func38, Try.ntmps38
  go_wp2_with fail
  refine (size_any 8 (unhide HS0) (by omega) (by omega)).mono ?_
  rintro e W0 ⟨r0, rfl, r01, r02, rfl⟩
  go_wp2_with fail
  refine (next_any (r0 + 2) (unhide HS0) (by omega) (by omega) (by omega)).mono ?_
  rintro e W1 ⟨r1, rfl, r11, r12, hs, mv⟩
  have HS1 := hide hs
  have HM1 : Hid (Mv g w W1) := hide ((Mv.of_bel (ba (Below.refl _ _) _)).trans mv)
  have lt1 : w.heap.size < W1.heap.size := by have := mv.size; simp at this; omega
  have t0 : W1.cell? ⟨w.heap.size, 0, none⟩ = some (.int .i64 0) := mv.cell (by omega) (by simp [go_sem])
  have t1 : W1.cell? ⟨w.heap.size, 1, none⟩ = some (.slice none 0 0) := mv.cell (by omega) (by simp [go_sem])
  have tf0 : W1.frozen? ⟨w.heap.size, 0, none⟩ = false := mv.frz (by omega) (by simp) (by simp [go_sem])
  have tf1 : W1.frozen? ⟨w.heap.size, 1, none⟩ = false := mv.frz (by omega) (by simp) (by simp [go_sem])
  clear hs mv HS0
  obtain ⟨N, hN⟩ : ∃ N : Nat, 1 + r1 = (N : Int) := ⟨(1 + r1).toNat, by omega⟩
  have hN1 : 1 ≤ N := by omega
  have hN2 : N ≤ 11 := by omega
  go_wp2_with fail
  have HS1' : Hid (So B g (k + 3) ((W1.alloc (.cells #[.int .i64 (N : Int), .slice none 0 0] 25)).alloc (.cells #[] 42))) := hide (((unhide HS1).alloc _).alloc _)
  go_loopw [5, 6] (fun v s W => ∃ (i : Nat) (Z : List Int), s = .int .i64 (i : Int) ∧ i ≤ N ∧ Row W (W1.heap.size + 1) 42 2 v i Z ∧ (∀ x ∈ Z, 0 ≤ x ∧ x ≤ 49) ∧ So B g (k + 3 + 6 * (i : Int)) W ∧ Mv g (W1.alloc (.cells #[.int .i64 (N : Int), .slice none 0 0] 25)) W) (fun _ s _ => N - (intOf s).toNat)
  case atStart => exact ⟨0, [], rfl, Nat.zero_le _, row_made _ 42 _ 2 (by simp) _ (by simp), by simp, (unhide HS1').up (by omega), Mv.of_bel (ba (Below.refl _ _) _)⟩
  case round =>
    obtain ⟨i, Z, rfl, hil, hrow, hZ, hso, hmv⟩ := hrel
    have HS2 := hide hso
    have HM2 := hide hmv
    have HR := hide hrow
    have HZ := hide hZ
    have hsz := hmv.size
    simp at hsz
    clear hso hmv hrow hZ
    by_cases h : i < N
    · have i1 : (i : Int) < (N : Int) := by omega
      have iz : decide ((i : Int) < (N : Int)) = true := decide_eq_true i1
      go_wp2_with fail
      refine (next_any 50 (unhide HS2) (by omega) (by omega) (by omega)).mono ?_
      rintro e w2 ⟨r2, rfl, r21, r22, hs, mv⟩
      have HS3 := hide hs
      have HM3 := hide ((unhide HM2).trans mv)
      have HR3 := hide ((unhide HR).mv mv (by omega))
      clear hs mv
      go_wp2_with fail
      refine (next_any 50 (unhide HS3) (by omega) (by omega) (by omega)).mono ?_
      rintro e w3 ⟨r3, rfl, r31, r32, hs, mv⟩
      have HS4 := hide hs
      have HM4 := hide ((unhide HM3).trans mv)
      have HR4 := hide ((unhide HR3).mv mv (by omega))
      have hsz3 := (unhide HM4).size
      simp at hsz3
      clear hs mv
      go_wp2_with (at_builtin; refine unhide ?_)
      refine hide ?_
      refine wpList_append_own _ rfl _ _ 27 rfl (W1.heap.size + 1) 42 i0 _ 2 16 Try.underlying27 hi hz0 hz1 hz2 rfl (by decide) _ _ _ rfl ((unhide HR4).alloc _) _ 1 1 ([r2, r3].map (Value.int .i64)) rfl rfl (by first | exact news_cells _ _ (by simp) | exact news_drew _ _ (by simp)) ints_one (by unfold maxLen; omega) (by omega) (by simp; omega) ?_
      intro v' w1 hown' hgrow _
      have R := hide (own_more (wr := w3) (news := [r2, r3]) (by repeat (first | exact Below.refl _ _ | refine Below.alloc ?_ (by first | omega | (simp; omega)) _ | refine Below.drew ?_)) (by simp; omega) (unhide HR4) hown' hgrow)
      clear hown' hgrow
      go_wp2_with fail
      go_roundw
      case rel =>
        refine ⟨i + 1, Z ++ [r2, r3], by simp, h, (unhide R).1, ?_, ((unhide HS4).belB (unhide R).2 (by omega)).up (by omega), (unhide HM4).belB (unhide R).2 (by simp)⟩
        intro x hx
        rcases List.mem_append.1 hx with hx | hx
        · exact unhide HZ x hx
        · simp at hx
          omega
      case measure => simp only [intOf]; omega
    · have i1 : ¬ (i : Int) < (N : Int) := by omega
      have iz : decide ((i : Int) < (N : Int)) = false := decide_eq_false i1
      have en : N = i := by omega
      subst en
      obtain ⟨ua, capa, rfl, hfa⟩ := (unhide HR).form
      obtain ⟨ga, rfl, ga1, ga2, hga⟩ := hfa (by omega)
      have hZl := (unhide HR).len
      have x0 : wr.cell? ⟨W1.heap.size, 0, none⟩ = some (.int .i64 (N : Int)) := (unhide HM2).cell (by omega) (by simp [go_sem])
      have x1 : wr.cell? ⟨W1.heap.size, 1, none⟩ = some (.slice none 0 0) := (unhide HM2).cell (by omega) (by simp [go_sem])
      have xf : wr.frozen? ⟨W1.heap.size, 1, none⟩ = false := (unhide HM2).frz (by omega) (by simp) (by simp [go_sem])
      go_wp2_with fail
      refine (next_any (2 * (N : Int) + 3) (unhide HS2) (by omega) (by omega) (by omega)).mono ?_
      rintro e W4 ⟨r4, rfl, r41, r42, hs, mv⟩
      have HM4 : Hid (Mv g (W1.alloc (.cells #[.int .i64 (N : Int), .slice none 0 0] 25)) W4) := hide ((unhide HM2).trans mv)
      have HSTA : Hid (Sta B g W1.heap.size (N : Int) (k + 100) W4 (.slice none 0 0) 0 [] W4) := hide ⟨hs.up (by omega), Two.refl _ _ _, mv.cell (by omega) x0, mv.cell (by omega) x1, mv.frz (by omega) (by omega) xf, row_nil _ _ _ _, hs.lt, by have := mv.size; omega, by omega, by omega⟩
      have HIA : Hid (IntsAt W4 ga 0 Z) := hide (fun j x hj => mv.cell (by omega) (hga j x hj))
      have ga3 : ga < W4.heap.size := by have := mv.size; omega
      clear hs mv hga x0 x1 xf HS1 HS2 HR HS1' HM2
      obtain ⟨J, rfl⟩ := Int.eq_ofNat_of_zero_le r41
      go_wp2_with fail
      go_loopw [7] (fun s W => ∃ (j m : Nat) (v : Value) (L : List Int), s = .int .i64 (j : Int) ∧ j + m ≤ 24 ∧ Sta B g W1.heap.size (N : Int) (k + 100 + 30 * (24 - (j : Int))) W4 v m L W) (fun s _ => (intOf s).toNat)
      case atStart => exact ⟨J, 0, _, [], rfl, by omega, (unhide HSTA).up (by omega)⟩
      case round =>
        obtain ⟨j, m, v, L, rfl, hjm, hst⟩ := hrel
        have HST := hide hst
        clear hst
        by_cases hj : 0 < j
        · have j1 : decide ((0 : Int) < (j : Int)) = true := decide_eq_true (by omega)
          go_upto_block 3 with fail
          refine Go.Code.wp_mono (Only.to (fun _ _ h => h)) (blk3 (k := k + 100 + 30 * (24 - (j : Int))) (B := B) (Wl := W4) (Z := Z) (by omega) (by omega) hN1 hN2 (by omega) (by omega) ga3 hZl HZ HIA HST (fun y8 y9 y10 y11 y12 y13 y14 y46 y47 y48 y49 y50 y51 y52 y53 y54 y55 y56 y57 y58 y59 y60 y61 y62 y63 y64 y65 y66 y67 y68 y69 y70 y71 y72 y73 y74 y75 y76 y77 y78 y79 y80 y81 y82 y83 y84 y85 y86 y87 y88 y89 y90 y91 y92 y93 y94 y95 y96 y97 y98 y99 y100 y101 y102 y103 y104 y105 y106 y107 y108 y109 y110 y111 y112 y113 y114 y115 y116 y117 y118 y119 y120 y121 y122 y123 y124 y125 y126 y127 y128 y129 y130 y131 y132 y133 y134 y135 y136 y137 y138 y139 y140 y141 y142 y143 y144 y145 y146 y147 y148 y149 y150 y151 y152 y153 y154 y155 y156 y157 y158 y159 y160 y161 y162 y163 y164 y165 y166 y167 y168 y169 y170 y171 y172 y173 y174 y175 y176 y177 y178 y179 y180 y181 y182 y183 y184 v' m' L' W' hm' hst => ?_))
          go_wp2_with fail
          go_roundw
          case rel => first | exact ⟨j - 1, m', v', L', by simp; omega, by omega, hst.up (by omega)⟩ | ((repeat apply Exists.intro); refine ⟨?_, rfl⟩; exact ⟨j - 1, m', v', L', by simp; omega, by omega, hst.up (by omega)⟩)
          case measure => first | (simp only [intOf]; omega) | (simp [intOf]; omega)
        · have j1 : decide ((0 : Int) < (j : Int)) = false := decide_eq_false (by omega)
          have f0 := (unhide HST).c0
          have f1 := (unhide HST).c1
          have lT := (unhide HST).lt
          have hts : w.heap.size < W4.heap.size := by have := (unhide HM4).size; simp at this; omega
          have s0 : wr.cell? ⟨w.heap.size, 0, none⟩ = some (.int .i64 0) := (unhide HST).two.cell (by omega) (by omega) ((unhide HM4).cell (by omega) (by rw [World.cell?_alloc_past _ _ _ lt1]; exact t0))
          have s1 : wr.cell? ⟨w.heap.size, 1, none⟩ = some (.slice none 0 0) := (unhide HST).two.cell (by omega) (by omega) ((unhide HM4).cell (by omega) (by rw [World.cell?_alloc_past _ _ _ lt1]; exact t1))
          have sf0 : wr.frozen? ⟨w.heap.size, 0, none⟩ = false := (frozen_of_block ((unhide HST).two.block w.heap.size hts (by omega) (by omega))).trans ((unhide HM4).frz (by omega) (by simp; omega) (by simp [go_sem, tf0, lt1]))
          have sf1 : wr.frozen? ⟨w.heap.size, 1, none⟩ = false := (frozen_of_block ((unhide HST).two.block w.heap.size hts (by omega) (by omega))).trans ((unhide HM4).frz (by omega) (by simp; omega) (by simp [go_sem, tf1, lt1]))
          have hMV : Hid (Mv g w wr) := hide ⟨(unhide HST).two.os.trans ((unhide HM4).os.trans (unhide HM1).os), (unhide HST).two.tape.trans ((unhide HM4).tape.trans (unhide HM1).tape), (unhide HST).two.output.trans ((unhide HM4).output.trans (unhide HM1).output), Nat.le_trans (Nat.le_of_lt hts) (unhide HST).two.size, fun b hb hne => ((unhide HST).two.block b (by omega) hne (by omega)).trans (((unhide HM4).block b (by simp; omega) hne).trans ((Below.heap_alloc W1 _ b (by omega)).trans ((unhide HM1).block b hb hne)))⟩
          have lw : w.heap.size < wr.heap.size := cell_lt s0
          obtain ⟨u_, cap_, rfl, _⟩ := (unhide HST).row.form
          go_wp2_with fail
          exact bodyPost_ret (v := .agg #[.int .i64 (N : Int), .slice u_ m cap_]) (by simp [results, Try.results38, go_sem, s0, s1, lw]) rfl ⟨(N : Int), _, m, L, rfl, by omega, by omega, (((unhide HST).row.kept' (fun b hb => Below.heap_setCell _ _ _ _ (show b ≠ w.heap.size by have := (World.ownsRow.lt (unhide HST).row b hb).1; omega))).kept' (fun b hb => Below.heap_setCell _ _ _ _ (show b ≠ w.heap.size by have := (World.ownsRow.lt (unhide HST).row b hb).1; omega))).mono (by omega), by omega, (((unhide HST).so.set (by omega) (by omega) _ _).set (by omega) (by omega) _ _).up (by omega), ((unhide hMV).new (Nat.le_refl _) _ _).new (Nat.le_refl _) _ _⟩
end Go.Proofs.Ytchdmigeopmacaa
