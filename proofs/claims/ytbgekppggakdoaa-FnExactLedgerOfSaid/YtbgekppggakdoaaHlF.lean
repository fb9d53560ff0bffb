/-
  A slot that is done.
-/
import Derived.Test.YtbgekppggakdoaaHlE
namespace Go.Proofs.Ytbgekppggakdoaa
open Go.ChangeShapes Go.WideShapes Go.ChangeAt Go.RowKit
set_option linter.unusedVariables false
set_option linter.unusedSimpArgs false

theorem cell_mw {A : Nat → Prop} {w w' : World} {b o : Nat} {v : Value} (x : Mw A w w') (ha : ¬ A b) (h : w.cell? ⟨b, o, none⟩ = some v) : w'.cell? ⟨b, o, none⟩ = some v :=
  (World.cell?_of_block (w := w) (a := ⟨b, o, none⟩) (x.block b (cell_lt h) ha)).trans h
theorem flatM_set {h : Hl} {i : Nat} {x : Mch} (hi : i < h.ms.length) (a b d : Int) : flatG mcc (h.ms.set i ⟨a, b, d⟩) = (((flatG mcc h.ms).set (i * 3) (.int .i64 a)).set (i * 3 + 1) (.int .i64 b)).set (i * 3 + 2) (.int .i64 d) := by
  rw [flatG_set mcc_len _ _ _ hi]
  rfl
theorem flatP_set {h : Hl} {i : Nat} (hi : i < h.pg.length) (a : Nat) (b : Int) : flatG pgc (h.pg.set i (a, b)) = (((flatG pgc h.pg).set (i * 2) (.int .i64 (a : Int))).set (i * 2 + 1) (.int .i64 b)) := by
  rw [flatG_set pgc_len _ _ _ hi]
  rfl
set_option maxRecDepth 100000 in
set_option maxHeartbeats 8000000 in
theorem do_any (hb gm gs m : Nat) (S L : Int) (u : Option Addr) (p po n c : Nat) (J : List Jb) (h : Hl) (x : Slt) (w : World) (hn : n ≤ 4096) (H : Hm w hb gm gs m S L u n c h) (hl : J.length = n) (hu : Jbs w u p po J)
    (hJ : ∀ j ∈ J, jbOk (m : Int) L j = true) (hS : 0 ≤ S ∧ S ≤ 1000) (hL : 1 ≤ L ∧ L ≤ 1000) (hk : Hk (m : Int) S L J h) (hz : sCd S L J h x = 0) (hap : ∀ b, b = gm ∨ b = gs → ∀ j ∈ J, j.sp ≠ b) (hpp : p ≠ gm ∧ p ≠ gs) :
    Calls Try.prog 59 #[.pointer (some ⟨hb, 0, none⟩), .agg #[.int .i64 x.jb, .int .i64 x.st, .int .i64 x.mc, .int .i64 x.fr, .int .i64 x.ti, .bool x.fs]] w fun e w' => e = .returned (.tuple #[]) ∧ Hm w' hb gm gs m S L u n c (sDo J h x) ∧ Mw (fun k => k = gm ∨ k = gs) w w' := by
  obtain ⟨s, hs, hd, f0, f1, f2, f3, f4, f5⟩ := sCd_zero hz
  obtain ⟨a1, a2, hsm, j, hj, hsj⟩ := stOf_some hs
  have hjl : x.jb.toNat < n := by rw [← hl]; exact (List.getElem?_eq_some_iff.1 hj).1
  obtain ⟨g, hg⟩ := get_some H.gl hjl
  obtain ⟨k1, k2, k3, k4, k5, k6, k7, k8⟩ := jbOk_st (hJ j (List.mem_of_getElem? hj)) (List.mem_of_getElem? hsj)
  obtain ⟨y, hy⟩ := get_some H.ml (show s.m.toNat < m by omega)
  have emA : mAt h x.mc = y := by unfold mAt; rw [← hsm]; exact getD_some hy
  have hyk := hk.msk y (List.mem_of_getElem? hy)
  obtain ⟨rfl, pw, _, _, kk2⟩ := hu.at hj
  have hjo := hu.each j (List.mem_of_getElem? hj)
  obtain ⟨hsu, pw2, z0, z1, z2, z3⟩ := hjo.at hsj
  rw [hsu] at kk2
  have hds : x.st.toNat < j.sn := by have := (List.getElem?_eq_some_iff.1 hsj).1; rw [hjo.len] at this; exact this
  have hmost := hjo.most
  have hspm : j.sp ≠ gm := hap gm (.inl rfl) j (List.mem_of_getElem? hj)
  have hsps : j.sp ≠ gs := hap gs (.inr rfl) j (List.mem_of_getElem? hj)
  have HF : Hid (x.fs = false → y.tl = s.l) := hide (by
    intro e
    rw [f4, emA] at e
    simp only [frsh, Bool.not_eq_false', Bool.and_eq_true, beq_iff_eq] at e
    exact e.1)
  have HSD : Hid (sDo J h x = ⟨h.ms.set s.m.toNat ⟨s.l, (if x.fs then 0 else y.wr) + s.e, x.ti⟩, h.pg.set x.jb.toNat (x.st.toNat + 1, x.ti)⟩) := hide (by
    unfold sDo mDo
    rw [hs, emA, Option.getD_some, ← hsm])
  have e3 := H.hd.cell (m := 3) rfl
  have e4 := H.hd.cell (m := 4) rfl
  have e5 := H.hd.cell (m := 5) rfl
  have l1 := H.hd.lt
  have l2 := H.st.lt
  have l3 := H.mc.lt
  obtain ⟨n1, n2, n3⟩ : gm ≠ gs ∧ gm ≠ hb ∧ gs ≠ hb := ⟨H.n1, H.n2, H.n3⟩
  obtain ⟨p1, p2⟩ := hpp
  have HH := hide H
  have HY := hide hy
  have HG := hide hg
  have hml : s.m.toNat < m := by omega
  have HMC0 : Hid ((flatG mcc h.ms)[s.m.toNat * 3]? = some (.int .i64 y.tl)) := hide (by have := flatG_at mcc_len hy (j := 0) (v := .int .i64 y.tl) rfl; simpa using this)
  have HMC1 : Hid ((flatG mcc h.ms)[s.m.toNat * 3 + 1]? = some (.int .i64 y.wr)) := hide (flatG_at mcc_len hy (j := 1) rfl)
  have HMC2 : Hid ((flatG mcc h.ms)[s.m.toNat * 3 + 2]? = some (.int .i64 y.fr)) := hide (flatG_at mcc_len hy (j := 2) rfl)
  obtain ⟨s0, s1⟩ := H.sat hg
  have HS0 := hide s0
  have HS1 := hide s1
  clear H hu hJ hk hz hs hj hjo hsj hg hy emA hl hap f0 f2 f3 f4 f5 hd
  obtain ⟨jb, sti, mc, fr, ti, fs⟩ := x
  obtain ⟨sm, st, sl, se⟩ := s
  simp only [] at *
  subst hsm
  obtain ⟨q, rfl⟩ := Int.eq_ofNat_of_zero_le a1
  obtain ⟨k, rfl⟩ := Int.eq_ofNat_of_zero_le a2
  obtain ⟨mm, rfl⟩ := Int.eq_ofNat_of_zero_le k1
  simp only [Int.toNat_natCast] at *
  have q1 : (q : Int) < (n : Int) := by omega
  have mm1 : (mm : Int) < (m : Int) := by omega
  have kj1 : (k : Int) < (j.sn : Int) := by omega
  have HC := hide (fun W cs (hv : vb W gm 122 cs) (h0 : cs[mm * 3]? = some (.int .i64 y.tl)) (h1 : cs[mm * 3 + 1]? = some (.int .i64 y.wr)) => use_any gm (mm * 3) cs y.tl y.wr (mm : Int) st sl se fs W hv h0 h1 ⟨hyk.1, by omega⟩ ⟨k7, by omega⟩ (unhide HF))
  have yh1 : hb < w.heap.size + 1 := by omega
  have ys1 : gs < w.heap.size + 1 := by omega
  have ym1 : gm < w.heap.size + 1 := by omega
  have yp1 : p < w.heap.size + 1 := by omega
  have yt1 : j.sp < w.heap.size + 1 := by omega
  have V1 := hide ((unhide HH).mc.bel (ba (Below.refl _ _) (.cells #[.int .i64 (q : Int), .int .i64 (k : Int), .int .i64 (mm : Int), .int .i64 fr, .int .i64 ti, .bool fs] 71)))
  have BX := hide (vb_new w 71 [.int .i64 (q : Int), .int .i64 (k : Int), .int .i64 (mm : Int), .int .i64 fr, .int .i64 ti, .bool fs] w.heap.size rfl)
  go_enter Try.func59, Try.ntmps59
  go_wp2_with fail
  go_region
  go_wp2_with fail
  go_region_held3 (fun wx => wx.cell? ⟨hb, 3, none⟩ = some (.slice (some ⟨p, po, none⟩) n c) ∧ wx.cell? ⟨p, po + q * 3 + 2, none⟩ = some (.slice (some ⟨j.sp, j.so, none⟩) j.sn j.sc) ∧ wx.cell? ⟨j.sp, j.so + k * 4, none⟩ = some (.int .i64 (mm : Int)) ∧ wx.cell? ⟨j.sp, j.so + k * 4 + 1, none⟩ = some (.int .i64 st) ∧ wx.cell? ⟨j.sp, j.so + k * 4 + 2, none⟩ = some (.int .i64 sl) ∧ wx.cell? ⟨j.sp, j.so + k * 4 + 3, none⟩ = some (.int .i64 se) ∧ wx.cell? ⟨w.heap.size, 0, none⟩ = some (.int .i64 (q : Int)) ∧ wx.cell? ⟨w.heap.size, 1, none⟩ = some (.int .i64 (k : Int)) ∧ wx.cell? ⟨w.heap.size, 5, none⟩ = some (.bool fs))
    (simp (maxDischargeDepth := 12) [go_sem, le1, lt1, *])
    (first
    | (go_at_call 72; refine (unhide HC _ _ (by exact unhide V1) (unhide HMC0) (unhide HMC1)).mono ?_; rintro e w9 ⟨rfl, hv9, hm9⟩; have HV9 := hide hv9; have HM9 := hide hm9; have cc0 := cell_mw hm9 (b := hb) (o := 3) (v := .slice (some ⟨p, po, none⟩) n c) (by omega) (by simp (maxDischargeDepth := 12) [go_sem, le1, lt1, *]); have cc1 := cell_mw hm9 (b := p) (o := po + q * 3 + 2) (v := .slice (some ⟨j.sp, j.so, none⟩) j.sn j.sc) (by omega) (by simp (maxDischargeDepth := 12) [go_sem, le1, lt1, *]); have cc2 := cell_mw hm9 (b := j.sp) (o := j.so + k * 4) (v := .int .i64 (mm : Int)) (by omega) (by simp (maxDischargeDepth := 12) [go_sem, le1, lt1, *]); have cc3 := cell_mw hm9 (b := j.sp) (o := j.so + k * 4 + 1) (v := .int .i64 st) (by omega) (by simp (maxDischargeDepth := 12) [go_sem, le1, lt1, *]); have cc4 := cell_mw hm9 (b := j.sp) (o := j.so + k * 4 + 2) (v := .int .i64 sl) (by omega) (by simp (maxDischargeDepth := 12) [go_sem, le1, lt1, *]); have cc5 := cell_mw hm9 (b := j.sp) (o := j.so + k * 4 + 3) (v := .int .i64 se) (by omega) (by simp (maxDischargeDepth := 12) [go_sem, le1, lt1, *]); have cc6 := cell_mw hm9 (b := w.heap.size) (o := 0) (v := .int .i64 (q : Int)) (by omega) (by simp (maxDischargeDepth := 12) [go_sem, le1, lt1, *]); have cc7 := cell_mw hm9 (b := w.heap.size) (o := 1) (v := .int .i64 (k : Int)) (by omega) (by simp (maxDischargeDepth := 12) [go_sem, le1, lt1, *]); have cc8 := cell_mw hm9 (b := w.heap.size) (o := 5) (v := .bool fs) (by omega) (by simp (maxDischargeDepth := 12) [go_sem, le1, lt1, *]); have cc9 := cell_mw hm9 (b := hb) (o := 5) (v := .slice (some ⟨gs, 0, none⟩) n n) (by omega) (by simp (maxDischargeDepth := 12) [go_sem, le1, lt1, *]); have cc10 := cell_mw hm9 (b := w.heap.size) (o := 4) (v := .int .i64 ti) (by omega) (by simp (maxDischargeDepth := 12) [go_sem, le1, lt1, *]); have gg0 := cell_mw hm9 (b := gs) (o := q * 2) (v := .int .i64 (g.1 : Int)) (by omega) (by simp (maxDischargeDepth := 12) [go_sem, le1, lt1, *]); have gg1 := cell_mw hm9 (b := gs) (o := q * 2 + 1) (v := .int .i64 g.2) (by omega) (by simp (maxDischargeDepth := 12) [go_sem, le1, lt1, *]); have HS9 := hide (vb.mw (vb.bel (unhide HH).st (bc (ba (Below.refl _ _) _) (by repeat (first | exact Below.refl _ _ | refine Below.drew ?_)))) hm9 (by omega)); have HD9 := hide (vb.mw (vb.bel (unhide HH).hd (bc (ba (Below.refl _ _) _) (by repeat (first | exact Below.refl _ _ | refine Below.drew ?_)))) hm9 (by omega)); have HW9 : Hid (Mw (fun k => k = gm ∨ k = gs) w w9) := hide (Mw.trans (by repeat (first | exact (Mw.refl _ w).alloc _ | refine Mw.drew ?_)) (hm9.mono (fun k e => .inl e))); clear hv9 hm9))
  all_goals
    have x2 : w9.cell? ⟨gm, mm * 3 + 2, none⟩ = some (.int .i64 y.fr) := (unhide HV9).cell (by rw [List.getElem?_set_ne (by omega), List.getElem?_set_ne (by omega)]; exact unhide HMC2)
    have fzm : ∀ o, w9.frozen? ⟨gm, o, none⟩ = false := (unhide HV9).frozen
    have fzs : ∀ o, w9.frozen? ⟨gs, o, none⟩ = false := (unhide HS9).frozen
    have wk : IntKind.i64.wrap ((k : Int) + 1) = ((k + 1 : Nat) : Int) := by rw [wrap_i (by omega) (by omega)]; omega
    have l9a := (unhide HV9).lt
    have l9s := (unhide HS9).lt
    have l9h := (unhide HD9).lt
    go_wp2_with fail
    go_region
    go_wp2_with fail
    refine bodyPost_end (v := .tuple #[]) (by simp [results, Try.results59, go_sem]) rfl ⟨rfl, ?_, ?_⟩
    · rw [unhide HSD]
      refine ⟨?_, ?_, ?_, by simp [(unhide HH).ml], by simp [(unhide HH).gl], n1, n2, n3⟩
      · exact (((unhide HD9).ne n2.symm).ne n3.symm).ne n3.symm
      · show vb _ gm 122 (flatG mcc (h.ms.set mm _))
        rw [flatM_set (x := y) (by rw [(unhide HH).ml]; omega)]
        exact ((((unhide HV9).set (mm * 3 + 2) (.int .i64 ti)).ne n1).ne n1)
      · show vb _ gs 87 (flatG pgc (h.pg.set q _))
        rw [flatP_set (by rw [(unhide HH).gl]; omega)]
        exact (((((unhide HS9).ne n1.symm).set (q * 2) (.int .i64 ((k + 1 : Nat) : Int))).set (q * 2 + 1) (.int .i64 ti)))
    · exact ((((unhide HW9).set _ (.inl rfl)).set _ (.inr rfl)).set _ (.inr rfl)).drew
end Go.Proofs.Ytbgekppggakdoaa
