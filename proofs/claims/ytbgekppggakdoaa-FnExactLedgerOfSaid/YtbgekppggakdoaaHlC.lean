/-
  The next slot of a job.
-/
import Derived.Test.YtbgekppggakdoaaHlB
namespace Go.Proofs.Ytbgekppggakdoaa
open Go.ChangeShapes Go.WideShapes Go.ChangeAt Go.RowKit
set_option linter.unusedVariables false
set_option linter.unusedSimpArgs false

set_option maxRecDepth 100000 in
set_option maxHeartbeats 8000000 in
theorem next_any (hb gm gs m : Nat) (S L : Int) (u : Option Addr) (p po n c : Nat) (J : List Jb) (h : Hl) (q : Nat) (j : Jb) (g : Nat × Int) (s : Stp) (x : Mch) (w : World) (hn : n ≤ 4096) (H : Hm w hb gm gs m S L u n c h) (hl : J.length = n) (hu : Jbs w u p po J)
    (hj : J[q]? = some j) (hg : h.pg[q]? = some g) (hs : j.st[g.1]? = some s) (hx : h.ms[s.m.toNat]? = some x) (sm0 : 0 ≤ s.m) (st0 : 1 ≤ s.t ∧ s.t ≤ 1000) (se0 : 0 ≤ s.e ∧ s.e ≤ 1000) (hS : 0 ≤ S ∧ S ≤ 1000) (hw : 0 ≤ x.wr ∧ x.wr ≤ 1000) (hf : 0 ≤ x.fr ∧ x.fr ≤ 1000002000) (he : 0 ≤ g.2 ∧ g.2 ≤ 1000002000) :
    Calls Try.prog 71 #[.pointer (some ⟨hb, 0, none⟩), .int .i64 (q : Int)] w fun e w' => e = .returned (.agg #[.int .i64 (q : Int), .int .i64 (g.1 : Int), .int .i64 s.m, .int .i64 (max g.2 x.fr), .int .i64 (max g.2 x.fr + lon S (frsh L x s) s), .bool (frsh L x s)]) ∧ Below w.heap.size w w' := by
  have hq : q < n := by have := (List.getElem?_eq_some_iff.1 hj).1; omega
  obtain ⟨rfl, pw, _, _, k2⟩ := hu.at hj
  have hjo := hu.each j (List.mem_of_getElem? hj)
  obtain ⟨hsu, pw2, z0, z1, z2, z3⟩ := hjo.at hs
  have hds : g.1 < j.sn := by have := (List.getElem?_eq_some_iff.1 hs).1; rw [hjo.len] at this; exact this
  rw [hsu] at k2
  obtain ⟨s0, s1⟩ := H.sat hg
  obtain ⟨m0, m1, m2⟩ := H.mat hx
  have hml : s.m.toNat < m := by have := (List.getElem?_eq_some_iff.1 hx).1; rw [H.ml] at this; exact this
  have e1 := H.hd.cell (m := 1) rfl
  have e2 := H.hd.cell (m := 2) rfl
  have e3 := H.hd.cell (m := 3) rfl
  have e4 := H.hd.cell (m := 4) rfl
  have e5 := H.hd.cell (m := 5) rfl
  have l1 := H.hd.lt
  have l2 := H.st.lt
  have l3 := H.mc.lt
  have q0 : (0 : Int) ≤ (q : Int) := Int.natCast_nonneg _
  have q1 : (q : Int) < (n : Int) := by omega
  have HQ : Hid (frsh L x s = !(x.tl == s.l && decide (x.wr + s.e ≤ L))) := hide rfl
  have HC := hide (fun W => lasts_any x.tl x.wr s.m s.t s.l s.e L W hw se0)
  have HLN : Hid (∀ f, lon S f s = s.t + if f = true then S else 0) := hide (fun f => rfl)
  clear H hu hjo hj hg hs hx hl
  obtain ⟨sm, st, sl, se⟩ := s
  obtain ⟨xt, xw, xf⟩ := x
  obtain ⟨dn, en⟩ := g
  simp only [] at *
  obtain ⟨mm, rfl⟩ := Int.eq_ofNat_of_zero_le sm0
  simp only [Int.toNat_natCast] at *
  have mm1 : (mm : Int) < (m : Int) := by omega
  have dn0 : (0 : Int) ≤ (dn : Int) := Int.natCast_nonneg _
  have dn1 : (dn : Int) < (j.sn : Int) := by omega
  generalize (xt == sl && decide (xw + se ≤ L)) = lb at *
  generalize frsh L ⟨xt, xw, xf⟩ ⟨(mm : Int), st, sl, se⟩ = ff at *
  generalize hmx : max en xf = mx at *
  have mx0 : 0 ≤ mx ∧ mx ≤ 1000002000 := by omega
  have HMX := hide hmx
  have yh1 : hb < w.heap.size + 1 := by omega
  have yh2 : hb < w.heap.size + 1 + 1 := by omega
  have yh3 : hb < w.heap.size + 1 + 1 + 1 := by omega
  have yh4 : hb < w.heap.size + 1 + 1 + 1 + 1 := by omega
  have ys1 : gs < w.heap.size + 1 := by omega
  have ys2 : gs < w.heap.size + 1 + 1 := by omega
  have ys3 : gs < w.heap.size + 1 + 1 + 1 := by omega
  have ys4 : gs < w.heap.size + 1 + 1 + 1 + 1 := by omega
  have ym1 : gm < w.heap.size + 1 := by omega
  have ym2 : gm < w.heap.size + 1 + 1 := by omega
  have ym3 : gm < w.heap.size + 1 + 1 + 1 := by omega
  have ym4 : gm < w.heap.size + 1 + 1 + 1 + 1 := by omega
  have yp1 : p < w.heap.size + 1 := by omega
  have yp2 : p < w.heap.size + 1 + 1 := by omega
  have yp3 : p < w.heap.size + 1 + 1 + 1 := by omega
  have yp4 : p < w.heap.size + 1 + 1 + 1 + 1 := by omega
  have yt1 : j.sp < w.heap.size + 1 := by omega
  have yt2 : j.sp < w.heap.size + 1 + 1 := by omega
  have yt3 : j.sp < w.heap.size + 1 + 1 + 1 := by omega
  have yt4 : j.sp < w.heap.size + 1 + 1 + 1 + 1 := by omega
  go_enter Try.func71, Try.ntmps71
  go_wp2_with fail
  go_region
  go_wp2_with fail
  go_region
  go_wp2_with fail
  go_region
  go_wp2_with fail
  have HB4 : Hid (Below w.heap.size w ((((w.alloc (.cells #[.int .i64 0, .int .i64 0, .int .i64 0, .int .i64 0, .int .i64 0, .bool false] 71)).alloc (.cells #[.int .i64 (dn : Int), .int .i64 en] 87)).alloc (.cells #[.int .i64 (mm : Int), .int .i64 st, .int .i64 sl, .int .i64 se] 61)).alloc (.cells #[.int .i64 xt, .int .i64 xw, .int .i64 xf] 122))) := hide (ba (ba (ba (ba (Below.refl _ _) _) _) _) _)
  have V4 : Hid (vb ((((w.alloc (.cells #[.int .i64 0, .int .i64 0, .int .i64 0, .int .i64 0, .int .i64 0, .bool false] 71)).alloc (.cells #[.int .i64 (dn : Int), .int .i64 en] 87)).alloc (.cells #[.int .i64 (mm : Int), .int .i64 st, .int .i64 sl, .int .i64 se] 61)).alloc (.cells #[.int .i64 xt, .int .i64 xw, .int .i64 xf] 122)) w.heap.size 71 [.int .i64 0, .int .i64 0, .int .i64 0, .int .i64 0, .int .i64 0, .bool false]) := hide ((((vb_new w 71 [.int .i64 0, .int .i64 0, .int .i64 0, .int .i64 0, .int .i64 0, .bool false] _ rfl).bel (ba (Below.refl _ _) _)).bel (ba (Below.refl _ _) _)).bel (ba (Below.refl _ _) _))
  go_region_held3 (fun wx => wx.cell? ⟨w.heap.size + 1 + 1 + 1, 0, none⟩ = some (.int .i64 xt) ∧ wx.cell? ⟨w.heap.size + 1 + 1 + 1, 1, none⟩ = some (.int .i64 xw) ∧ wx.cell? ⟨w.heap.size + 1 + 1, 0, none⟩ = some (.int .i64 (mm : Int)) ∧ wx.cell? ⟨w.heap.size + 1 + 1, 1, none⟩ = some (.int .i64 st) ∧ wx.cell? ⟨w.heap.size + 1 + 1, 2, none⟩ = some (.int .i64 sl) ∧ wx.cell? ⟨w.heap.size + 1 + 1, 3, none⟩ = some (.int .i64 se) ∧ wx.cell? ⟨hb, 2, none⟩ = some (.int .i64 L))
    (simp (maxDischargeDepth := 12) [go_sem, le1, lt1, *])
    (first
    | (go_at_call 76; refine (unhide HC _).mono ?_; rintro e w9 ⟨rfl, hb9⟩; have HB9 : Hid (Below w.heap.size w w9) := hide (bc (by repeat (first | exact unhide HB4 | refine Below.drew ?_)) hb9); have V9 : Hid (vb w9 w.heap.size 71 [.int .i64 0, .int .i64 0, .int .i64 0, .int .i64 0, .int .i64 0, .bool false]) := hide (vb.bel (unhide V4) (bc (by repeat (first | exact Below.refl _ _ | refine Below.drew ?_)) hb9)); have cc0 := keep1 hb9 (b := w.heap.size + 1 + 1 + 1) (o := 0) (v := .int .i64 xt) (by simp (maxDischargeDepth := 12) [go_sem, le1, lt1, *]); have cc1 := keep1 hb9 (b := w.heap.size + 1 + 1 + 1) (o := 1) (v := .int .i64 xw) (by simp (maxDischargeDepth := 12) [go_sem, le1, lt1, *]); have cc2 := keep1 hb9 (b := w.heap.size + 1 + 1) (o := 0) (v := .int .i64 (mm : Int)) (by simp (maxDischargeDepth := 12) [go_sem, le1, lt1, *]); have cc3 := keep1 hb9 (b := w.heap.size + 1 + 1) (o := 1) (v := .int .i64 st) (by simp (maxDischargeDepth := 12) [go_sem, le1, lt1, *]); have cc4 := keep1 hb9 (b := w.heap.size + 1 + 1) (o := 2) (v := .int .i64 sl) (by simp (maxDischargeDepth := 12) [go_sem, le1, lt1, *]); have cc5 := keep1 hb9 (b := w.heap.size + 1 + 1) (o := 3) (v := .int .i64 se) (by simp (maxDischargeDepth := 12) [go_sem, le1, lt1, *]); have cc6 := keep1 hb9 (b := hb) (o := 2) (v := .int .i64 L) (by simp (maxDischargeDepth := 12) [go_sem, le1, lt1, *]); have cc7 := keep1 hb9 (b := w.heap.size + 1) (o := 0) (v := .int .i64 (dn : Int)) (by simp (maxDischargeDepth := 12) [go_sem, le1, lt1, *]); have cc8 := keep1 hb9 (b := hb) (o := 1) (v := .int .i64 S) (by simp (maxDischargeDepth := 12) [go_sem, le1, lt1, *]); have cc9 := keep1 hb9 (b := w.heap.size) (o := 0) (v := .int .i64 0) (by simp (maxDischargeDepth := 12) [go_sem, le1, lt1, *]); have cc10 := keep1 hb9 (b := w.heap.size) (o := 1) (v := .int .i64 0) (by simp (maxDischargeDepth := 12) [go_sem, le1, lt1, *]); have cc11 := keep1 hb9 (b := w.heap.size) (o := 2) (v := .int .i64 0) (by simp (maxDischargeDepth := 12) [go_sem, le1, lt1, *]); have cc12 := keep1 hb9 (b := w.heap.size) (o := 3) (v := .int .i64 0) (by simp (maxDischargeDepth := 12) [go_sem, le1, lt1, *]); have cc13 := keep1 hb9 (b := w.heap.size) (o := 4) (v := .int .i64 0) (by simp (maxDischargeDepth := 12) [go_sem, le1, lt1, *]); have cc14 := keep1 hb9 (b := w.heap.size) (o := 5) (v := .bool false) (by simp (maxDischargeDepth := 12) [go_sem, le1, lt1, *]); clear hb9))
  all_goals
    have fz9 : ∀ o, w9.frozen? ⟨w.heap.size, o, none⟩ = false := (unhide V9).frozen
    have w1' : IntKind.i64.wrap (st + S) = st + S := wrap_i (by omega) (by omega)
    have w2' : IntKind.i64.wrap (mx + st) = mx + st := wrap_i (by omega) (by omega)
    have w3' : IntKind.i64.wrap (mx + (st + S)) = mx + (st + S) := wrap_i (by omega) (by omega)
    cases lb with
    | true =>
      have HF : Hid (ff = false) := hide (by rw [unhide HQ]; rfl)
      go_wp2_with fail
      have h1 := (((((((unhide V9).set 0 (.int .i64 (q : Int))).set 1 (.int .i64 (dn : Int))).set 2 (.int .i64 (mm : Int))).set 3 (.int .i64 mx)).set 4 (.int .i64 (mx + st))).set 5 (.bool false))
      simp only [List.set_cons_zero, List.set_cons_succ] at h1
      have z0 := h1.cell (m := 0) rfl
      have z1 := h1.cell (m := 1) rfl
      have z2 := h1.cell (m := 2) rfl
      have z3 := h1.cell (m := 3) rfl
      have z4 := h1.cell (m := 4) rfl
      have z5 := h1.cell (m := 5) rfl
      have r := Below.setCell (Below.setCell (Below.setCell (Below.setCell (Below.setCell (Below.setCell (unhide HB9) (p := ⟨w.heap.size, 0, none⟩) (Nat.le_refl _) (.int .i64 (q : Int))) (p := ⟨w.heap.size, 1, none⟩) (Nat.le_refl _) (.int .i64 (dn : Int))) (p := ⟨w.heap.size, 2, none⟩) (Nat.le_refl _) (.int .i64 (mm : Int))) (p := ⟨w.heap.size, 3, none⟩) (Nat.le_refl _) (.int .i64 mx)) (p := ⟨w.heap.size, 4, none⟩) (Nat.le_refl _) (.int .i64 (mx + st))) (p := ⟨w.heap.size, 5, none⟩) (Nat.le_refl _) (.bool false)
      exact bodyPost_ret (v := .agg #[.int .i64 (q : Int), .int .i64 (dn : Int), .int .i64 (mm : Int), .int .i64 mx, .int .i64 (mx + st), .bool false]) (by simp [results, Try.results71, go_sem, z0, z1, z2, z3, z4, z5]; done) rfl ⟨by rw [unhide HLN, unhide HF]; simp, r⟩
    | false =>
      have HF : Hid (ff = true) := hide (by rw [unhide HQ]; rfl)
      go_wp2_with fail
      have h1 := (((((((unhide V9).set 0 (.int .i64 (q : Int))).set 1 (.int .i64 (dn : Int))).set 2 (.int .i64 (mm : Int))).set 3 (.int .i64 mx)).set 4 (.int .i64 (mx + (st + S)))).set 5 (.bool true))
      simp only [List.set_cons_zero, List.set_cons_succ] at h1
      have z0 := h1.cell (m := 0) rfl
      have z1 := h1.cell (m := 1) rfl
      have z2 := h1.cell (m := 2) rfl
      have z3 := h1.cell (m := 3) rfl
      have z4 := h1.cell (m := 4) rfl
      have z5 := h1.cell (m := 5) rfl
      have r := Below.setCell (Below.setCell (Below.setCell (Below.setCell (Below.setCell (Below.setCell (unhide HB9) (p := ⟨w.heap.size, 0, none⟩) (Nat.le_refl _) (.int .i64 (q : Int))) (p := ⟨w.heap.size, 1, none⟩) (Nat.le_refl _) (.int .i64 (dn : Int))) (p := ⟨w.heap.size, 2, none⟩) (Nat.le_refl _) (.int .i64 (mm : Int))) (p := ⟨w.heap.size, 3, none⟩) (Nat.le_refl _) (.int .i64 mx)) (p := ⟨w.heap.size, 4, none⟩) (Nat.le_refl _) (.int .i64 (mx + (st + S)))) (p := ⟨w.heap.size, 5, none⟩) (Nat.le_refl _) (.bool true)
      exact bodyPost_ret (v := .agg #[.int .i64 (q : Int), .int .i64 (dn : Int), .int .i64 (mm : Int), .int .i64 mx, .int .i64 (mx + (st + S)), .bool true]) (by simp [results, Try.results71, go_sem, z0, z1, z2, z3, z4, z5]; done) rfl ⟨by rw [unhide HLN, unhide HF]; simp, r⟩
end Go.Proofs.Ytbgekppggakdoaa
