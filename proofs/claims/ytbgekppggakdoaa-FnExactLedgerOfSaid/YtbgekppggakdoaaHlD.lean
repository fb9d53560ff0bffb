/-
  What is wrong with a slot.
-/
import Derived.Test.YtbgekppggakdoaaHlC
namespace Go.Proofs.Ytbgekppggakdoaa
open Go.ChangeShapes Go.WideShapes Go.ChangeAt Go.RowKit
set_option linter.unusedVariables false
set_option linter.unusedSimpArgs false

/-- what the program needs of a hall on its way -/
structure Hk (N S L : Int) (J : List Jb) (h : Hl) : Prop where
  ml : h.ms.length = N.toNat
  gl : h.pg.length = J.length
  msk : ∀ m ∈ h.ms, 0 ≤ m.wr ∧ m.wr ≤ L ∧ 0 ≤ m.fr ∧ m.fr ≤ 1000002000
  pgk : ∀ g ∈ h.pg, 0 ≤ g.2 ∧ g.2 ≤ 1000002000
theorem Hv.hk {N S L : Int} {J : List Jb} {P : List Slt} {h : Hl} (H : Hv N S L J P h) : Hk N S L J h := by
  refine ⟨H.ml, H.gl, H.msk, fun g hg => ?_⟩
  obtain ⟨q, hq⟩ := List.getElem?_of_mem hg
  have hql : q < J.length := by have := (List.getElem?_eq_some_iff.1 hq).1; rw [H.gl] at this; exact this
  have := H.pgk q g _ hq (List.getElem?_eq_getElem hql)
  omega
set_option maxRecDepth 100000 in
set_option maxHeartbeats 8000000 in
theorem slotC_any (hb gm gs m : Nat) (S L : Int) (u : Option Addr) (p po n c : Nat) (J : List Jb) (h : Hl) (x : Slt) (w : World) (hn : n ≤ 4096) (H : Hm w hb gm gs m S L u n c h) (hl : J.length = n) (hu : Jbs w u p po J)
    (hJ : ∀ j ∈ J, jbOk (m : Int) L j = true) (hS : 0 ≤ S ∧ S ≤ 1000) (hL : 1 ≤ L ∧ L ≤ 1000) (hk : Hk (m : Int) S L J h) :
    Calls Try.prog 58 #[.pointer (some ⟨hb, 0, none⟩), .agg #[.int .i64 x.jb, .int .i64 x.st, .int .i64 x.mc, .int .i64 x.fr, .int .i64 x.ti, .bool x.fs]] w fun e w' => e = .returned (.int .i64 (sCd S L J h x)) ∧ Below w.heap.size w w' := by
  have HB0 := hide (ba (Below.refl w.heap.size w) (.cells #[.int .i64 x.jb, .int .i64 x.st, .int .i64 x.mc, .int .i64 x.fr, .int .i64 x.ti, .bool x.fs] 71))
  have HV := hide (vb_new w 71 [.int .i64 x.jb, .int .i64 x.st, .int .i64 x.mc, .int .i64 x.fr, .int .i64 x.ti, .bool x.fs] w.heap.size rfl)
  have HC := hide (fun W (hW : Below w.heap.size w W) => hasS_any hb gm gs m S L u p po n c J h x W hn (H.bel hW) hl (hu.bel hW))
  have HH := hide (fun W (hW : Below w.heap.size w W) => H.bel hW)
  cases hs : stOf J x with
  | none =>
    have HQ : Hid (sCd S L J h x = 8) := hide (by unfold sCd; rw [hs])
    rw [hs] at HC
    clear hu H hl
    go_enter Try.func58, Try.ntmps58
    go_wp2_with fail
    refine (unhide HC _ (unhide HB0)).mono ?_
    rintro e W1 ⟨rfl, hb1⟩
    have HB1 := hide (bc (unhide HB0) hb1)
    clear hb1
    go_wp2_with fail
    go_ret
    exact ⟨by rw [unhide HQ]; rfl, unhide HB1⟩
  | some s =>
  obtain ⟨a1, a2, hsm, j, hj, hsj⟩ := stOf_some hs
  have HQ : Hid (sCd S L J h x = if x.st < (gAt h x.jb).1 then 7 else if x.fr < 0 ∨ 1000000000 < x.fr then 5 else if ((gAt h x.jb).1 : Int) < x.st then 13 else if x.fr < max (gAt h x.jb).2 (mAt h x.mc).fr then 13 else if x.fs ≠ frsh L (mAt h x.mc) s then 16 else if x.ti ≠ x.fr + lon S x.fs s then 19 else 0) := hide (by unfold sCd; rw [hs])
  rw [hs] at HC
  have hjl : x.jb.toNat < n := by rw [← hl]; exact (List.getElem?_eq_some_iff.1 hj).1
  obtain ⟨g, hg⟩ := get_some H.gl hjl
  have egA : gAt h x.jb = g := getD_some hg
  obtain ⟨k1, k2, k3, k4, k5, k6, k7, k8⟩ := jbOk_st (hJ j (List.mem_of_getElem? hj)) (List.mem_of_getElem? hsj)
  obtain ⟨y, hy⟩ := get_some H.ml (show s.m.toNat < m by omega)
  have emA : mAt h x.mc = y := by unfold mAt; rw [← hsm]; exact getD_some hy
  have hyk := hk.msk y (List.mem_of_getElem? hy)
  have hgk := hk.pgk g (List.mem_of_getElem? hg)
  rw [egA, emA] at HQ
  have HN : Hid (x.st = (g.1 : Int) → ∀ W, Below w.heap.size w W → Calls Try.prog 71 #[.pointer (some ⟨hb, 0, none⟩), .int .i64 (x.jb.toNat : Int)] W fun e w' => e = .returned (.agg #[.int .i64 (x.jb.toNat : Int), .int .i64 (g.1 : Int), .int .i64 s.m, .int .i64 (max g.2 y.fr), .int .i64 (max g.2 y.fr + lon S (frsh L y s) s), .bool (frsh L y s)]) ∧ Below W.heap.size W w') :=
    hide (fun e W hW => next_any hb gm gs m S L u p po n c J h x.jb.toNat j g s y W hn (H.bel hW) hl (hu.bel hW) hj hg (by rw [show g.1 = x.st.toNat by omega]; exact hsj) hy k1 ⟨k3, k4⟩ ⟨k7, by omega⟩ hS ⟨hyk.1, by omega⟩ hyk.2.2 hgk)
  have HSat := hide (fun W (hW : Below w.heap.size w W) => (H.bel hW).sat hg)
  have hlon : 0 ≤ lon S (frsh L y s) s ∧ lon S (frsh L y s) s ≤ 2000 := by unfold lon; split <;> omega
  clear hu H hl hJ hk egA emA hs hj hsj hg hy
  obtain ⟨jb, st, mc, fr, ti, fs⟩ := x
  simp only [] at *
  obtain ⟨q, rfl⟩ := Int.eq_ofNat_of_zero_le a1
  simp only [Int.toNat_natCast] at *
  have q1 : (q : Int) < (n : Int) := by omega
  generalize hmx : max g.2 y.fr = mx at *
  have mx0 : 0 ≤ mx ∧ mx ≤ 1000002000 := by omega
  clear hmx
  go_enter Try.func58, Try.ntmps58
  go_wp2_with fail
  refine (unhide HC _ (unhide HB0)).mono ?_
  rintro e W1 ⟨rfl, hb1⟩
  have HB1 := hide (bc (unhide HB0) hb1)
  have v1 := (unhide HV).bel hb1
  have b0 := v1.cell (m := 0) rfl
  have b1 := v1.cell (m := 1) rfl
  have b2 := v1.cell (m := 2) rfl
  have b3 := v1.cell (m := 3) rfl
  have b4 := v1.cell (m := 4) rfl
  have b5 := v1.cell (m := 5) rfl
  have vl := v1.lt
  have HV1 := hide v1
  have e5 := (unhide HH _ (unhide HB1)).hd.cell (m := 5) rfl
  obtain ⟨s0, s1⟩ := unhide HSat _ (unhide HB1)
  have l1 := (unhide HH _ (unhide HB1)).hd.lt
  have l2 := (unhide HH _ (unhide HB1)).st.lt
  clear hb1 v1
  go_wp2_with fail
  go_quiet (fail)
  by_cases g1 : st < (g.1 : Int)
  · have t1 : decide (st < (g.1 : Int)) = true := decide_eq_true g1
    rw [if_pos g1] at HQ
    go_wp2_with fail
    go_ret
    exact ⟨by rw [unhide HQ]; rfl, bel_dn' (unhide HB1) _⟩
  have t1 : decide (st < (g.1 : Int)) = false := decide_eq_false g1
  rw [if_neg g1] at HQ
  by_cases g2 : fr < 0 ∨ 1000000000 < fr
  · have t2 : inR 0 1000000000 fr = false := by
      rcases g2 with h | h
      · exact inR_f1 h
      · exact inR_f2 h
    rw [if_pos g2] at HQ
    have HBT := hide (fun W => bt_any fr 0 1000000000 W)
    rw [t2] at HBT
    clear g2 t2
    go_wp2_with fail
    refine (unhide HBT _).mono ?_
    rintro e w' ⟨rfl, rfl⟩
    go_wp2_with fail
    go_ret
    exact ⟨by rw [unhide HQ]; rfl, bel_dn' (unhide HB1) _⟩
  have t2 : inR 0 1000000000 fr = true := inR_iff.2 ⟨by omega, by omega⟩
  rw [if_neg g2] at HQ
  have HBT := hide (fun W => bt_any fr 0 1000000000 W)
  rw [t2] at HBT
  clear t2
  by_cases g3 : (g.1 : Int) < st
  · have t3 : decide ((g.1 : Int) < st) = true := decide_eq_true g3
    rw [if_pos g3] at HQ
    go_wp2_with fail
    refine (unhide HBT _).mono ?_
    rintro e w' ⟨rfl, rfl⟩
    go_wp2_with fail
    go_ret
    exact ⟨by rw [unhide HQ]; rfl, bel_dn' (unhide HB1) _⟩
  have t3 : decide ((g.1 : Int) < st) = false := decide_eq_false g3
  rw [if_neg g3] at HQ
  have HN' := hide (unhide HN (by omega))
  generalize frsh L y s = ff at *
  generalize hlo : lon S ff s = lo at *
  have HLO := hide hlo
  clear hlo
  go_wp2_with fail
  refine (unhide HBT _).mono ?_
  rintro e w' ⟨rfl, rfl⟩
  go_wp2_with fail
  refine (unhide HN' _ (bel_dn' (unhide HB1) _)).mono ?_
  rintro e W2 ⟨rfl, hb2⟩
  have HB2 := hide (bc (bel_dn' (unhide HB1) _) hb2)
  have d0 := keep1 hb2 (b := w.heap.size) (o := 0) (v := .int .i64 (q : Int)) b0
  have d3 := keep1 hb2 (b := w.heap.size) (o := 3) (v := .int .i64 fr) b3
  have d4 := keep1 hb2 (b := w.heap.size) (o := 4) (v := .int .i64 ti) b4
  have d5 := keep1 hb2 (b := w.heap.size) (o := 5) (v := .bool fs) b5
  have dl := cell_lt d0
  clear hb2 b0 b1 b2 b3 b4 b5
  have w1 : IntKind.i64.wrap (fr + (mx + lo)) = fr + (mx + lo) := wrap_i (by omega) (by omega)
  have w2 : IntKind.i64.wrap (fr + (mx + lo) - mx) = fr + lo := by rw [wrap_i (by omega) (by omega)]; omega
  by_cases g4 : fr < mx
  · have t4 : decide (fr < mx) = true := decide_eq_true g4
    rw [if_pos g4] at HQ
    go_wp2_with fail
    go_ret
    exact ⟨by rw [unhide HQ]; rfl, ba (unhide HB2) _⟩
  have t4 : decide (fr < mx) = false := decide_eq_false g4
  rw [if_neg g4] at HQ
  by_cases g5 : fs = ff
  rotate_left
  · have t5 : (fs != ff) = true := by simp [g5]
    have t5b : (!(fs == ff)) = true := by simp [g5]
    have t5c : (fs == ff) = false := by simp [g5]
    rw [if_pos g5] at HQ
    clear g5
    go_wp2_with fail
    go_ret
    exact ⟨by rw [unhide HQ]; rfl, ba (unhide HB2) _⟩
  rw [if_neg (by simp [g5])] at HQ
  subst g5
  have t5 : (fs != fs) = false := by simp
  have t5b : (!(fs == fs)) = false := by simp
  have t5c : (fs == fs) = true := by simp
  rw [unhide HLO] at HQ
  by_cases g6 : ti = fr + lo
  · rw [if_neg (by simp [g6])] at HQ
    subst g6
    have t6 : (fr + lo != fr + lo) = false := by simp
    have t7 : ((fr + lo) == (fr + lo)) = true := by simp
    go_wp2_with fail
    go_ret
    exact ⟨by rw [unhide HQ]; rfl, ba (unhide HB2) _⟩
  · have t6 : (ti != fr + lo) = true := by simp [g6]
    rw [if_pos g6] at HQ
    have t7 : (ti == fr + lo) = false := by simp [g6]
    go_wp2_with fail
    all_goals first
      | (go_ret; exact ⟨by rw [unhide HQ]; rfl, ba (unhide HB2) _⟩)
      | (exfalso; simp_all; done)
end Go.Proofs.Ytbgekppggakdoaa
